/-
  spec.l04Any: the region that draws a near, in every order.
-/
import Derived.Test.YtchmmekhfcojgaaGreatDoorPq13
namespace Go.Proofs.YtchmmekhfcojgaaGreatDoor
open Go.RowKit

set_option linter.unusedSimpArgs false

theorem ints_cells (w : World) (l : List Int) : ∀ k, k < l.length → ∃ q : Int, True ∧ (w.alloc (.cells (l.map (Value.int .i64)).toArray 3)).cell? ⟨w.heap.size, k, none⟩ = some (.int .i64 q) := by
  intro k hk
  have h := cells_at (heap_alloc_new w (.cells (l.map (Value.int .i64)).toArray 3)) k
  refine ⟨l[k], trivial, ?_⟩
  rw [h]
  simp [hk]

theorem ints_kept {w w' : World} {p g n : Nat} (h : ∀ k, k < n → ∃ q : Int, True ∧ w.cell? ⟨g, k, none⟩ = some (.int .i64 q)) (hg : w.grownBy w' (some p)) (hne : g ≠ p) (hl : g < w.heap.size) : ∀ k, k < n → ∃ q : Int, True ∧ w'.cell? ⟨g, k, none⟩ = some (.int .i64 q) := by
  intro k hk
  obtain ⟨q, _, e⟩ := h k hk
  exact ⟨q, trivial, by rw [← e]; unfold World.cell?; rw [hg.block g hl (by simp; omega)]⟩

def anyOps : Array Oper := #[{ dst := some 40, op := Go.Op.fieldAddr 51 (Go.Operand.tmp 3) 5, type := 0, pos := "l04_record.go:183", after := #[], guard := none }, { dst := some 41, op := Go.Op.load 49 (Go.Operand.tmp 40), type := 49, pos := "l04_record.go:183", after := #[{ on := 0, ground := Go.Ground.data }], guard := none }, { dst := some 42, op := Go.Op.move (Go.Operand.tmp 0), type := 39, pos := "l04_record.go:183", after := #[], guard := none }, { dst := some 43, op := Go.Op.call { callee := Go.Callee.value (Go.Operand.func 27), args := #[Go.Operand.tmp 42, Go.Operand.const (Go.Value.int Go.IntKind.i64 8)], argTypes := #[39, 3] }, type := 3, pos := "l04_record.go:183", after := #[{ on := 2, ground := Go.Ground.data }], guard := none }, { dst := some 44, op := Go.Op.move (Go.Operand.tmp 0), type := 39, pos := "l04_record.go:183", after := #[], guard := none }, { dst := some 45, op := Go.Op.buildSlice 24 4 #[(0, Go.Operand.const (Go.Value.int Go.IntKind.i64 0)), (1, Go.Operand.const (Go.Value.int Go.IntKind.i64 1)), (2, Go.Operand.const (Go.Value.int Go.IntKind.i64 1000)), (3, Go.Operand.const (Go.Value.int Go.IntKind.i64 1001))], type := 24, pos := "l04_record.go:183", after := #[], guard := none }, { dst := some 46, op := Go.Op.call { callee := Go.Callee.value (Go.Operand.func 63), args := #[Go.Operand.tmp 44, Go.Operand.tmp 45], argTypes := #[39, 24] }, type := 3, pos := "l04_record.go:183", after := #[{ on := 4, ground := Go.Ground.data }, { on := 5, ground := Go.Ground.data }, { on := 3, ground := Go.Ground.chain }], guard := none }, { dst := some 47, op := Go.Op.build 100 #[(0, Go.Operand.tmp 43), (1, Go.Operand.tmp 46)], type := 100, pos := "l04_record.go:183", after := #[{ on := 3, ground := Go.Ground.data }, { on := 6, ground := Go.Ground.data }], guard := none }, { dst := some 48, op := Go.Op.buildSlice 49 1 #[(0, Go.Operand.tmp 47)], type := 49, pos := "l04_record.go:183", after := #[{ on := 7, ground := Go.Ground.data }], guard := none }, { dst := some 49, op := Go.Op.call { callee := Go.Callee.builtin Go.Builtin.append, args := #[Go.Operand.tmp 41, Go.Operand.tmp 48], argTypes := #[49, 49] }, type := 49, pos := "l04_record.go:183", after := #[{ on := 1, ground := Go.Ground.data }, { on := 8, ground := Go.Ground.data }, { on := 6, ground := Go.Ground.chain }], guard := none }, { dst := some 50, op := Go.Op.fieldAddr 51 (Go.Operand.tmp 3) 5, type := 0, pos := "l04_record.go:183", after := #[{ on := 0, ground := Go.Ground.phase }, { on := 1, ground := Go.Ground.phase }, { on := 2, ground := Go.Ground.phase }, { on := 3, ground := Go.Ground.phase }, { on := 4, ground := Go.Ground.phase }, { on := 5, ground := Go.Ground.phase }, { on := 6, ground := Go.Ground.phase }, { on := 7, ground := Go.Ground.phase }, { on := 8, ground := Go.Ground.phase }, { on := 9, ground := Go.Ground.phase }], guard := none }, { dst := none, op := Go.Op.store 49 (Go.Operand.tmp 50) (Go.Operand.tmp 49), type := 0, pos := "l04_record.go:183", after := #[{ on := 10, ground := Go.Ground.data }, { on := 9, ground := Go.Ground.data }, { on := 9, ground := Go.Ground.chain }, { on := 0, ground := Go.Ground.phase }, { on := 1, ground := Go.Ground.phase }, { on := 2, ground := Go.Ground.phase }, { on := 3, ground := Go.Ground.phase }, { on := 4, ground := Go.Ground.phase }, { on := 5, ground := Go.Ground.phase }, { on := 6, ground := Go.Ground.phase }, { on := 7, ground := Go.Ground.phase }, { on := 8, ground := Go.Ground.phase }, { on := 9, ground := Go.Ground.phase }], guard := none }]

set_option maxRecDepth 100000 in
set_option maxHeartbeats 1000000 in
theorem any_dag (t1 t2 t4 t5 t6 t7 t8 t9 t10 t11 t12 t13 t14 t15 t16 t17 t18 t19 t20 t21 t22 t23 t24 t25 t26 t27 t28 t29 t30 t31 t32 t33 t34 t35 t36 t37 t38 t39 t40 t41 t42 t43 t44 t45 t46 t47 t48 t49 t50 t51 t52 t53 t54 t55 t56 t57 t58 t59 t60 t61 t62 t63 : Value) (w W0 : World) (p B0 z : Nat) (a : Option Addr) (len cap : Nat) (va : Option Addr) (vc : Nat) (x : RecD) (Q : Exit → Act → World → Prop) (ops : Array Oper) (hops : Hid (ops = anyOps)) (hpan : ∀ c a1 a2 w, Q (.panic c) a1 w → Q (.panic c) a2 w) (hp : p < B0) (hz : B0 < z) (hxl : x.near.length ≤ 1000)
    (st0 : RcSt w W0 p B0 z a len cap (.slice va x.near.length vc) x)
    (hend : ∀ (W : World) (y u : Int) (na : Option Addr) (nc : Nat) (l : List Nr), Hid (l = x.near ++ [⟨y, u⟩]) → RcSt w W p B0 z a len cap (.slice na l.length nc) { x with near := l } → ∀ g sb, Q .normal { tmps := #[.pointer (some ⟨p, 0, none⟩), t1, t2, .pointer (some ⟨z, 0, none⟩), t4, t5, t6, t7, t8, t9, t10, t11, t12, t13, t14, t15, t16, t17, t18, t19, t20, t21, t22, t23, t24, t25, t26, t27, t28, t29, t30, t31, t32, t33, t34, t35, t36, t37, t38, t39, .pointer (some ⟨z, 5, none⟩), .slice va x.near.length vc, .pointer (some ⟨p, 0, none⟩), .int .i64 y, .pointer (some ⟨p, 0, none⟩), .slice (some ⟨g, 0, none⟩) 4 4, .int .i64 u, .agg #[.int .i64 y, .int .i64 u], .slice (some ⟨sb, 0, none⟩) 1 1, .slice na l.length nc, .pointer (some ⟨z, 5, none⟩), t51, t52, t53, t54, t55, t56, t57, t58, t59, t60, t61, t62, t63], defers := [] } W) :
    wpAnyH Tryz.prog .any ops Q (fun _ => True) 12 (Array.replicate 12 false) { tmps := #[.pointer (some ⟨p, 0, none⟩), t1, t2, .pointer (some ⟨z, 0, none⟩), t4, t5, t6, t7, t8, t9, t10, t11, t12, t13, t14, t15, t16, t17, t18, t19, t20, t21, t22, t23, t24, t25, t26, t27, t28, t29, t30, t31, t32, t33, t34, t35, t36, t37, t38, t39, t40, t41, t42, t43, t44, t45, t46, t47, t48, t49, t50, t51, t52, t53, t54, t55, t56, t57, t58, t59, t60, t61, t62, t63], defers := [] } W0 := by
  have h131 : ∀ (W : World) (y : Int) (g : Nat) (u : Int) (sb : Nat), RcSt w W p B0 z a len cap (.slice va x.near.length vc) x → W.cell? ⟨sb, 0, none⟩ = some (.int .i64 y) → W.cell? ⟨sb, 1, none⟩ = some (.int .i64 u) → wpAnyH Tryz.prog .any ops Q (fun _ => True) 3 #[true, true, true, true, true, true, true, true, true, false, false, false] { tmps := #[.pointer (some ⟨p, 0, none⟩), t1, t2, .pointer (some ⟨z, 0, none⟩), t4, t5, t6, t7, t8, t9, t10, t11, t12, t13, t14, t15, t16, t17, t18, t19, t20, t21, t22, t23, t24, t25, t26, t27, t28, t29, t30, t31, t32, t33, t34, t35, t36, t37, t38, t39, .pointer (some ⟨z, 5, none⟩), .slice va x.near.length vc, .pointer (some ⟨p, 0, none⟩), .int .i64 y, .pointer (some ⟨p, 0, none⟩), .slice (some ⟨g, 0, none⟩) 4 4, .int .i64 u, .agg #[.int .i64 y, .int .i64 u], .slice (some ⟨sb, 0, none⟩) 1 1, t49, t50, t51, t52, t53, t54, t55, t56, t57, t58, t59, t60, t61, t62, t63], defers := [] } W := by
    intro W y g u sb st k0 k1
    refine wpAnyH_ready (rs := [9]) (by rw [hops.out]; kernel_rfl) (by simp) ?_
    refine AllReadyH.cons (o := ?_) ?_ (fun K hK => ?_) ?_
    rotate_left 1
    · rw [hops.out]; unfold anyOps; simp only [List.getElem?_toArray, List.getElem?_cons_succ, List.getElem?_cons_zero]; rfl
    · rw [if_pos (by rfl)]
      refine wp_append_struct nrE_len (by omega) nrE_one (by omega) _ _ _ 49 rfl (B0 + 1) 100 Tryz.underlying49 (nrV nr0) rfl Tryz.infoNr (.slice va x.near.length vc) x.near ⟨y, u⟩ rfl st.own ⟨sb, 0, none⟩ 1 rfl ?_ (by omega) (by have := lt_of_heap st.res; omega) ?_
      · intro j u hj
        match j, hj with
        | 0, hj => simp [nrE] at hj; subst hj; exact k0
        | 1, hj => simp [nrE] at hj; subst hj; exact k1
      intro v' W' l' hl' hown' hgrow
      obtain ⟨na, nc, rfl⟩ := owns_lenS hown'
      have st2 := st.put2 hgrow hown' hp hz
      refine hK.out _ _ trivial (fun _ => ?_)
      clear hK K
      try simp only [Act.put, List.setIfInBounds_toArray, List.set_cons_zero, List.set_cons_succ]
      refine take_do 10 (oi := ?_) (v := ?_) ?_ (by rw [hops.out]; kernel_rfl) ?_ ?_ ?_ trivial ?_
      rotate_left 2
      · rw [hops.out]; unfold anyOps; simp only [List.getElem?_toArray, List.getElem?_cons_succ, List.getElem?_cons_zero]; rfl
      · rw [hops.out]; kernel_rfl
      · intro W _; go_simp <;> with_reducible rfl
      · exact fun c _ w h => hpan c _ _ w h
      try simp only [Act.put, List.setIfInBounds_toArray, List.set_cons_zero, List.set_cons_succ]
      refine wpAnyH_ready (rs := [11]) (by rw [hops.out]; kernel_rfl) (by simp) ?_
      refine AllReadyH.cons (o := ?_) ?_ (fun K hK => ?_) ?_
      rotate_left 1
      · rw [hops.out]; unfold anyOps; simp only [List.getElem?_toArray, List.getElem?_cons_succ, List.getElem?_cons_zero]; rfl
      · rw [if_pos (by rfl)]
        have bx := st.box_app hgrow
        have c5 := cells_at bx 5
        simp only [recC] at c5
        have c6 : W'.cell? ⟨z, 5, none⟩ = some (.slice va x.near.length vc) := c5
        have f6 := frozen_at bx 5
        clear c5 bx
        go_simp
        refine hK.out _ _ trivial (fun _ => ?_)
        refine wpAnyH_done (by rw [hops.out]; kernel_rfl) ?_ _
        exact hend _ y u na nc l' hl' st2 g sb
      · exact AllReadyH.nil
    · exact AllReadyH.nil
  have h031 : ∀ (W : World) (y : Int) (g : Nat) (u : Int) (sb : Nat), RcSt w W p B0 z a len cap (.slice va x.near.length vc) x → W.cell? ⟨sb, 0, none⟩ = some (.int .i64 y) → W.cell? ⟨sb, 1, none⟩ = some (.int .i64 u) → wpAnyH Tryz.prog .any ops Q (fun _ => True) 4 #[true, false, true, true, true, true, true, true, true, false, false, false] { tmps := #[.pointer (some ⟨p, 0, none⟩), t1, t2, .pointer (some ⟨z, 0, none⟩), t4, t5, t6, t7, t8, t9, t10, t11, t12, t13, t14, t15, t16, t17, t18, t19, t20, t21, t22, t23, t24, t25, t26, t27, t28, t29, t30, t31, t32, t33, t34, t35, t36, t37, t38, t39, .pointer (some ⟨z, 5, none⟩), t41, .pointer (some ⟨p, 0, none⟩), .int .i64 y, .pointer (some ⟨p, 0, none⟩), .slice (some ⟨g, 0, none⟩) 4 4, .int .i64 u, .agg #[.int .i64 y, .int .i64 u], .slice (some ⟨sb, 0, none⟩) 1 1, t49, t50, t51, t52, t53, t54, t55, t56, t57, t58, t59, t60, t61, t62, t63], defers := [] } W := by
    intro W y g u sb st k0 k1
    refine wpAnyH_ready (rs := [1]) (by rw [hops.out]; kernel_rfl) (by simp) ?_
    refine AllReadyH.cons (o := ?_) ?_ (fun K hK => ?_) ?_
    rotate_left 1
    · rw [hops.out]; unfold anyOps; simp only [List.getElem?_toArray, List.getElem?_cons_succ, List.getElem?_cons_zero]; rfl
    · rw [if_pos (by rfl)]
      have c5 := cells_at st.box 5
      simp only [recC] at c5
      have c6 : W.cell? ⟨z, 5, none⟩ = some (.slice va x.near.length vc) := c5
      clear c5
      go_simp
      refine hK.out _ _ trivial (fun _ => ?_)
      exact h131 W y g u sb st k0 k1
    exact AllReadyH.nil
  have h121 : ∀ (W : World) (y : Int) (g : Nat) (u : Int), RcSt w W p B0 z a len cap (.slice va x.near.length vc) x → wpAnyH Tryz.prog .any ops Q (fun _ => True) 4 #[true, true, true, true, true, true, true, true, false, false, false, false] { tmps := #[.pointer (some ⟨p, 0, none⟩), t1, t2, .pointer (some ⟨z, 0, none⟩), t4, t5, t6, t7, t8, t9, t10, t11, t12, t13, t14, t15, t16, t17, t18, t19, t20, t21, t22, t23, t24, t25, t26, t27, t28, t29, t30, t31, t32, t33, t34, t35, t36, t37, t38, t39, .pointer (some ⟨z, 5, none⟩), .slice va x.near.length vc, .pointer (some ⟨p, 0, none⟩), .int .i64 y, .pointer (some ⟨p, 0, none⟩), .slice (some ⟨g, 0, none⟩) 4 4, .int .i64 u, .agg #[.int .i64 y, .int .i64 u], t48, t49, t50, t51, t52, t53, t54, t55, t56, t57, t58, t59, t60, t61, t62, t63], defers := [] } W := by
    intro W y g u st
    refine wpAnyH_ready (rs := [8]) (by rw [hops.out]; kernel_rfl) (by simp) ?_
    refine AllReadyH.cons (o := ?_) ?_ (fun K hK => ?_) ?_
    rotate_left 1
    · rw [hops.out]; unfold anyOps; simp only [List.getElem?_toArray, List.getElem?_cons_succ, List.getElem?_cons_zero]; rfl
    · rw [if_pos (by rfl)]
      go_simp
      refine hK.out _ _ trivial (fun _ => ?_)
      have n := heap_alloc_new W (.cells #[.int .i64 y, .int .i64 u] 100)
      exact h131 _ y g u W.heap.size (st.alloc _) (cells_at n 0) (cells_at n 1)
    exact AllReadyH.nil
  have h021 : ∀ (W : World) (y : Int) (g : Nat) (u : Int), RcSt w W p B0 z a len cap (.slice va x.near.length vc) x → wpAnyH Tryz.prog .any ops Q (fun _ => True) 5 #[true, false, true, true, true, true, true, true, false, false, false, false] { tmps := #[.pointer (some ⟨p, 0, none⟩), t1, t2, .pointer (some ⟨z, 0, none⟩), t4, t5, t6, t7, t8, t9, t10, t11, t12, t13, t14, t15, t16, t17, t18, t19, t20, t21, t22, t23, t24, t25, t26, t27, t28, t29, t30, t31, t32, t33, t34, t35, t36, t37, t38, t39, .pointer (some ⟨z, 5, none⟩), t41, .pointer (some ⟨p, 0, none⟩), .int .i64 y, .pointer (some ⟨p, 0, none⟩), .slice (some ⟨g, 0, none⟩) 4 4, .int .i64 u, .agg #[.int .i64 y, .int .i64 u], t48, t49, t50, t51, t52, t53, t54, t55, t56, t57, t58, t59, t60, t61, t62, t63], defers := [] } W := by
    intro W y g u st
    refine wpAnyH_ready (rs := [1, 8]) (by rw [hops.out]; kernel_rfl) (by simp) ?_
    refine AllReadyH.cons (o := ?_) ?_ (fun K hK => ?_) ?_
    rotate_left 1
    · rw [hops.out]; unfold anyOps; simp only [List.getElem?_toArray, List.getElem?_cons_succ, List.getElem?_cons_zero]; rfl
    · rw [if_pos (by rfl)]
      have c5 := cells_at st.box 5
      simp only [recC] at c5
      have c6 : W.cell? ⟨z, 5, none⟩ = some (.slice va x.near.length vc) := c5
      clear c5
      go_simp
      refine hK.out _ _ trivial (fun _ => ?_)
      exact h121 W y g u st
    refine AllReadyH.cons (o := ?_) ?_ (fun K hK => ?_) ?_
    rotate_left 1
    · rw [hops.out]; unfold anyOps; simp only [List.getElem?_toArray, List.getElem?_cons_succ, List.getElem?_cons_zero]; rfl
    · rw [if_pos (by rfl)]
      go_simp
      refine hK.out _ _ trivial (fun _ => ?_)
      have n := heap_alloc_new W (.cells #[.int .i64 y, .int .i64 u] 100)
      exact h031 _ y g u W.heap.size (st.alloc _) (cells_at n 0) (cells_at n 1)
    exact AllReadyH.nil
  have h111 : ∀ (W : World) (y : Int) (g : Nat), RcSt w W p B0 z a len cap (.slice va x.near.length vc) x → g ≠ p → g < W.heap.size → (∀ k, k < 4 → ∃ q : Int, True ∧ W.cell? ⟨g, k, none⟩ = some (.int .i64 q)) → wpAnyH Tryz.prog .any ops Q (fun _ => True) 6 #[true, true, true, true, true, true, false, false, false, false, false, false] { tmps := #[.pointer (some ⟨p, 0, none⟩), t1, t2, .pointer (some ⟨z, 0, none⟩), t4, t5, t6, t7, t8, t9, t10, t11, t12, t13, t14, t15, t16, t17, t18, t19, t20, t21, t22, t23, t24, t25, t26, t27, t28, t29, t30, t31, t32, t33, t34, t35, t36, t37, t38, t39, .pointer (some ⟨z, 5, none⟩), .slice va x.near.length vc, .pointer (some ⟨p, 0, none⟩), .int .i64 y, .pointer (some ⟨p, 0, none⟩), .slice (some ⟨g, 0, none⟩) 4 4, t46, t47, t48, t49, t50, t51, t52, t53, t54, t55, t56, t57, t58, t59, t60, t61, t62, t63], defers := [] } W := by
    intro W y g st hgp hgl hg
    refine wpAnyH_ready (rs := [6]) (by rw [hops.out]; kernel_rfl) (by simp) ?_
    refine AllReadyH.cons (o := ?_) ?_ (fun K hK => ?_) ?_
    rotate_left 1
    · rw [hops.out]; unfold anyOps; simp only [List.getElem?_toArray, List.getElem?_cons_succ, List.getElem?_cons_zero]; rfl
    · rw [if_pos (by rfl)]
      go_simp
      refine (pickR_any (fun _ => True) p a len cap g 4 _ st.cur (by omega) (by omega) hgp hg).mono ?_
      rintro e w2 ⟨u, rfl, _, hc, hgr⟩
      have st2 := st.grown hc hgr hp hz
      refine hK.out _ _ trivial (fun _ => ?_)
      clear hK K
      try simp only [Act.put, List.setIfInBounds_toArray, List.set_cons_zero, List.set_cons_succ]
      refine take_do 7 (oi := ?_) (v := ?_) ?_ (by rw [hops.out]; kernel_rfl) ?_ ?_ ?_ trivial ?_
      rotate_left 2
      · rw [hops.out]; unfold anyOps; simp only [List.getElem?_toArray, List.getElem?_cons_succ, List.getElem?_cons_zero]; rfl
      · rw [hops.out]; kernel_rfl
      · intro W _; go_simp <;> with_reducible rfl
      · exact fun c _ w h => hpan c _ _ w h
      try simp only [Act.put, List.setIfInBounds_toArray, List.set_cons_zero, List.set_cons_succ]
      exact h121 w2 y g u st2
    exact AllReadyH.nil
  have h011 : ∀ (W : World) (y : Int) (g : Nat), RcSt w W p B0 z a len cap (.slice va x.near.length vc) x → g ≠ p → g < W.heap.size → (∀ k, k < 4 → ∃ q : Int, True ∧ W.cell? ⟨g, k, none⟩ = some (.int .i64 q)) → wpAnyH Tryz.prog .any ops Q (fun _ => True) 7 #[true, false, true, true, true, true, false, false, false, false, false, false] { tmps := #[.pointer (some ⟨p, 0, none⟩), t1, t2, .pointer (some ⟨z, 0, none⟩), t4, t5, t6, t7, t8, t9, t10, t11, t12, t13, t14, t15, t16, t17, t18, t19, t20, t21, t22, t23, t24, t25, t26, t27, t28, t29, t30, t31, t32, t33, t34, t35, t36, t37, t38, t39, .pointer (some ⟨z, 5, none⟩), t41, .pointer (some ⟨p, 0, none⟩), .int .i64 y, .pointer (some ⟨p, 0, none⟩), .slice (some ⟨g, 0, none⟩) 4 4, t46, t47, t48, t49, t50, t51, t52, t53, t54, t55, t56, t57, t58, t59, t60, t61, t62, t63], defers := [] } W := by
    intro W y g st hgp hgl hg
    refine wpAnyH_ready (rs := [1, 6]) (by rw [hops.out]; kernel_rfl) (by simp) ?_
    refine AllReadyH.cons (o := ?_) ?_ (fun K hK => ?_) ?_
    rotate_left 1
    · rw [hops.out]; unfold anyOps; simp only [List.getElem?_toArray, List.getElem?_cons_succ, List.getElem?_cons_zero]; rfl
    · rw [if_pos (by rfl)]
      have c5 := cells_at st.box 5
      simp only [recC] at c5
      have c6 : W.cell? ⟨z, 5, none⟩ = some (.slice va x.near.length vc) := c5
      clear c5
      go_simp
      refine hK.out _ _ trivial (fun _ => ?_)
      exact h111 W y g st hgp hgl hg
    refine AllReadyH.cons (o := ?_) ?_ (fun K hK => ?_) ?_
    rotate_left 1
    · rw [hops.out]; unfold anyOps; simp only [List.getElem?_toArray, List.getElem?_cons_succ, List.getElem?_cons_zero]; rfl
    · rw [if_pos (by rfl)]
      go_simp
      refine (pickR_any (fun _ => True) p a len cap g 4 _ st.cur (by omega) (by omega) hgp hg).mono ?_
      rintro e w2 ⟨u, rfl, _, hc, hgr⟩
      have st2 := st.grown hc hgr hp hz
      refine hK.out _ _ trivial (fun _ => ?_)
      clear hK K
      try simp only [Act.put, List.setIfInBounds_toArray, List.set_cons_zero, List.set_cons_succ]
      refine take_do 7 (oi := ?_) (v := ?_) ?_ (by rw [hops.out]; kernel_rfl) ?_ ?_ ?_ trivial ?_
      rotate_left 2
      · rw [hops.out]; unfold anyOps; simp only [List.getElem?_toArray, List.getElem?_cons_succ, List.getElem?_cons_zero]; rfl
      · rw [hops.out]; kernel_rfl
      · intro W _; go_simp <;> with_reducible rfl
      · exact fun c _ w h => hpan c _ _ w h
      try simp only [Act.put, List.setIfInBounds_toArray, List.set_cons_zero, List.set_cons_succ]
      exact h021 w2 y g u st2
    exact AllReadyH.nil
  have h101 : ∀ (W : World) (g : Nat), RcSt w W p B0 z a len cap (.slice va x.near.length vc) x → g ≠ p → g < W.heap.size → (∀ k, k < 4 → ∃ q : Int, True ∧ W.cell? ⟨g, k, none⟩ = some (.int .i64 q)) → wpAnyH Tryz.prog .any ops Q (fun _ => True) 7 #[true, true, true, false, true, true, false, false, false, false, false, false] { tmps := #[.pointer (some ⟨p, 0, none⟩), t1, t2, .pointer (some ⟨z, 0, none⟩), t4, t5, t6, t7, t8, t9, t10, t11, t12, t13, t14, t15, t16, t17, t18, t19, t20, t21, t22, t23, t24, t25, t26, t27, t28, t29, t30, t31, t32, t33, t34, t35, t36, t37, t38, t39, .pointer (some ⟨z, 5, none⟩), .slice va x.near.length vc, .pointer (some ⟨p, 0, none⟩), t43, .pointer (some ⟨p, 0, none⟩), .slice (some ⟨g, 0, none⟩) 4 4, t46, t47, t48, t49, t50, t51, t52, t53, t54, t55, t56, t57, t58, t59, t60, t61, t62, t63], defers := [] } W := by
    intro W g st hgp hgl hg
    refine wpAnyH_ready (rs := [3]) (by rw [hops.out]; kernel_rfl) (by simp) ?_
    refine AllReadyH.cons (o := ?_) ?_ (fun K hK => ?_) ?_
    rotate_left 1
    · rw [hops.out]; unfold anyOps; simp only [List.getElem?_toArray, List.getElem?_cons_succ, List.getElem?_cons_zero]; rfl
    · rw [if_pos (by rfl)]
      go_simp
      refine (below_any p a len cap 8 _ st.cur (by omega) (by omega)).mono ?_
      rintro e w2 ⟨y, rfl, hy0, hy1, hc, hgr⟩
      have st2 := st.grown hc hgr hp hz
      have hg2 := ints_kept hg hgr hgp hgl
      have hgl2 := Nat.lt_of_lt_of_le hgl hgr.size
      refine hK.out _ _ trivial (fun _ => ?_)
      exact h111 w2 y g st2 hgp hgl2 hg2
    exact AllReadyH.nil
  have h001 : ∀ (W : World) (g : Nat), RcSt w W p B0 z a len cap (.slice va x.near.length vc) x → g ≠ p → g < W.heap.size → (∀ k, k < 4 → ∃ q : Int, True ∧ W.cell? ⟨g, k, none⟩ = some (.int .i64 q)) → wpAnyH Tryz.prog .any ops Q (fun _ => True) 8 #[true, false, true, false, true, true, false, false, false, false, false, false] { tmps := #[.pointer (some ⟨p, 0, none⟩), t1, t2, .pointer (some ⟨z, 0, none⟩), t4, t5, t6, t7, t8, t9, t10, t11, t12, t13, t14, t15, t16, t17, t18, t19, t20, t21, t22, t23, t24, t25, t26, t27, t28, t29, t30, t31, t32, t33, t34, t35, t36, t37, t38, t39, .pointer (some ⟨z, 5, none⟩), t41, .pointer (some ⟨p, 0, none⟩), t43, .pointer (some ⟨p, 0, none⟩), .slice (some ⟨g, 0, none⟩) 4 4, t46, t47, t48, t49, t50, t51, t52, t53, t54, t55, t56, t57, t58, t59, t60, t61, t62, t63], defers := [] } W := by
    intro W g st hgp hgl hg
    refine wpAnyH_ready (rs := [1, 3]) (by rw [hops.out]; kernel_rfl) (by simp) ?_
    refine AllReadyH.cons (o := ?_) ?_ (fun K hK => ?_) ?_
    rotate_left 1
    · rw [hops.out]; unfold anyOps; simp only [List.getElem?_toArray, List.getElem?_cons_succ, List.getElem?_cons_zero]; rfl
    · rw [if_pos (by rfl)]
      have c5 := cells_at st.box 5
      simp only [recC] at c5
      have c6 : W.cell? ⟨z, 5, none⟩ = some (.slice va x.near.length vc) := c5
      clear c5
      go_simp
      refine hK.out _ _ trivial (fun _ => ?_)
      exact h101 W g st hgp hgl hg
    refine AllReadyH.cons (o := ?_) ?_ (fun K hK => ?_) ?_
    rotate_left 1
    · rw [hops.out]; unfold anyOps; simp only [List.getElem?_toArray, List.getElem?_cons_succ, List.getElem?_cons_zero]; rfl
    · rw [if_pos (by rfl)]
      go_simp
      refine (below_any p a len cap 8 _ st.cur (by omega) (by omega)).mono ?_
      rintro e w2 ⟨y, rfl, hy0, hy1, hc, hgr⟩
      have st2 := st.grown hc hgr hp hz
      have hg2 := ints_kept hg hgr hgp hgl
      have hgl2 := Nat.lt_of_lt_of_le hgl hgr.size
      refine hK.out _ _ trivial (fun _ => ?_)
      exact h011 w2 y g st2 hgp hgl2 hg2
    exact AllReadyH.nil
  have h110 : ∀ (W : World) (y : Int), RcSt w W p B0 z a len cap (.slice va x.near.length vc) x → wpAnyH Tryz.prog .any ops Q (fun _ => True) 7 #[true, true, true, true, true, false, false, false, false, false, false, false] { tmps := #[.pointer (some ⟨p, 0, none⟩), t1, t2, .pointer (some ⟨z, 0, none⟩), t4, t5, t6, t7, t8, t9, t10, t11, t12, t13, t14, t15, t16, t17, t18, t19, t20, t21, t22, t23, t24, t25, t26, t27, t28, t29, t30, t31, t32, t33, t34, t35, t36, t37, t38, t39, .pointer (some ⟨z, 5, none⟩), .slice va x.near.length vc, .pointer (some ⟨p, 0, none⟩), .int .i64 y, .pointer (some ⟨p, 0, none⟩), t45, t46, t47, t48, t49, t50, t51, t52, t53, t54, t55, t56, t57, t58, t59, t60, t61, t62, t63], defers := [] } W := by
    intro W y st
    refine wpAnyH_ready (rs := [5]) (by rw [hops.out]; kernel_rfl) (by simp) ?_
    refine AllReadyH.cons (o := ?_) ?_ (fun K hK => ?_) ?_
    rotate_left 1
    · rw [hops.out]; unfold anyOps; simp only [List.getElem?_toArray, List.getElem?_cons_succ, List.getElem?_cons_zero]; rfl
    · rw [if_pos (by rfl)]
      go_simp
      refine hK.out _ _ trivial (fun _ => ?_)
      exact h111 _ y W.heap.size (st.alloc _) (by have := lt_of_cur st.cur; omega) (by simp) (ints_cells W [0, 1, 1000, 1001])
    exact AllReadyH.nil
  have h010 : ∀ (W : World) (y : Int), RcSt w W p B0 z a len cap (.slice va x.near.length vc) x → wpAnyH Tryz.prog .any ops Q (fun _ => True) 8 #[true, false, true, true, true, false, false, false, false, false, false, false] { tmps := #[.pointer (some ⟨p, 0, none⟩), t1, t2, .pointer (some ⟨z, 0, none⟩), t4, t5, t6, t7, t8, t9, t10, t11, t12, t13, t14, t15, t16, t17, t18, t19, t20, t21, t22, t23, t24, t25, t26, t27, t28, t29, t30, t31, t32, t33, t34, t35, t36, t37, t38, t39, .pointer (some ⟨z, 5, none⟩), t41, .pointer (some ⟨p, 0, none⟩), .int .i64 y, .pointer (some ⟨p, 0, none⟩), t45, t46, t47, t48, t49, t50, t51, t52, t53, t54, t55, t56, t57, t58, t59, t60, t61, t62, t63], defers := [] } W := by
    intro W y st
    refine wpAnyH_ready (rs := [1, 5]) (by rw [hops.out]; kernel_rfl) (by simp) ?_
    refine AllReadyH.cons (o := ?_) ?_ (fun K hK => ?_) ?_
    rotate_left 1
    · rw [hops.out]; unfold anyOps; simp only [List.getElem?_toArray, List.getElem?_cons_succ, List.getElem?_cons_zero]; rfl
    · rw [if_pos (by rfl)]
      have c5 := cells_at st.box 5
      simp only [recC] at c5
      have c6 : W.cell? ⟨z, 5, none⟩ = some (.slice va x.near.length vc) := c5
      clear c5
      go_simp
      refine hK.out _ _ trivial (fun _ => ?_)
      exact h110 W y st
    refine AllReadyH.cons (o := ?_) ?_ (fun K hK => ?_) ?_
    rotate_left 1
    · rw [hops.out]; unfold anyOps; simp only [List.getElem?_toArray, List.getElem?_cons_succ, List.getElem?_cons_zero]; rfl
    · rw [if_pos (by rfl)]
      go_simp
      refine hK.out _ _ trivial (fun _ => ?_)
      exact h011 _ y W.heap.size (st.alloc _) (by have := lt_of_cur st.cur; omega) (by simp) (ints_cells W [0, 1, 1000, 1001])
    exact AllReadyH.nil
  have h100 : ∀ (W : World), RcSt w W p B0 z a len cap (.slice va x.near.length vc) x → wpAnyH Tryz.prog .any ops Q (fun _ => True) 8 #[true, true, true, false, true, false, false, false, false, false, false, false] { tmps := #[.pointer (some ⟨p, 0, none⟩), t1, t2, .pointer (some ⟨z, 0, none⟩), t4, t5, t6, t7, t8, t9, t10, t11, t12, t13, t14, t15, t16, t17, t18, t19, t20, t21, t22, t23, t24, t25, t26, t27, t28, t29, t30, t31, t32, t33, t34, t35, t36, t37, t38, t39, .pointer (some ⟨z, 5, none⟩), .slice va x.near.length vc, .pointer (some ⟨p, 0, none⟩), t43, .pointer (some ⟨p, 0, none⟩), t45, t46, t47, t48, t49, t50, t51, t52, t53, t54, t55, t56, t57, t58, t59, t60, t61, t62, t63], defers := [] } W := by
    intro W st
    refine wpAnyH_ready (rs := [3, 5]) (by rw [hops.out]; kernel_rfl) (by simp) ?_
    refine AllReadyH.cons (o := ?_) ?_ (fun K hK => ?_) ?_
    rotate_left 1
    · rw [hops.out]; unfold anyOps; simp only [List.getElem?_toArray, List.getElem?_cons_succ, List.getElem?_cons_zero]; rfl
    · rw [if_pos (by rfl)]
      go_simp
      refine (below_any p a len cap 8 _ st.cur (by omega) (by omega)).mono ?_
      rintro e w2 ⟨y, rfl, hy0, hy1, hc, hgr⟩
      have st2 := st.grown hc hgr hp hz
      refine hK.out _ _ trivial (fun _ => ?_)
      exact h110 w2 y st2
    refine AllReadyH.cons (o := ?_) ?_ (fun K hK => ?_) ?_
    rotate_left 1
    · rw [hops.out]; unfold anyOps; simp only [List.getElem?_toArray, List.getElem?_cons_succ, List.getElem?_cons_zero]; rfl
    · rw [if_pos (by rfl)]
      go_simp
      refine hK.out _ _ trivial (fun _ => ?_)
      exact h101 _ W.heap.size (st.alloc _) (by have := lt_of_cur st.cur; omega) (by simp) (ints_cells W [0, 1, 1000, 1001])
    exact AllReadyH.nil
  have h000 : ∀ (W : World), RcSt w W p B0 z a len cap (.slice va x.near.length vc) x → wpAnyH Tryz.prog .any ops Q (fun _ => True) 9 #[true, false, true, false, true, false, false, false, false, false, false, false] { tmps := #[.pointer (some ⟨p, 0, none⟩), t1, t2, .pointer (some ⟨z, 0, none⟩), t4, t5, t6, t7, t8, t9, t10, t11, t12, t13, t14, t15, t16, t17, t18, t19, t20, t21, t22, t23, t24, t25, t26, t27, t28, t29, t30, t31, t32, t33, t34, t35, t36, t37, t38, t39, .pointer (some ⟨z, 5, none⟩), t41, .pointer (some ⟨p, 0, none⟩), t43, .pointer (some ⟨p, 0, none⟩), t45, t46, t47, t48, t49, t50, t51, t52, t53, t54, t55, t56, t57, t58, t59, t60, t61, t62, t63], defers := [] } W := by
    intro W st
    refine wpAnyH_ready (rs := [1, 3, 5]) (by rw [hops.out]; kernel_rfl) (by simp) ?_
    refine AllReadyH.cons (o := ?_) ?_ (fun K hK => ?_) ?_
    rotate_left 1
    · rw [hops.out]; unfold anyOps; simp only [List.getElem?_toArray, List.getElem?_cons_succ, List.getElem?_cons_zero]; rfl
    · rw [if_pos (by rfl)]
      have c5 := cells_at st.box 5
      simp only [recC] at c5
      have c6 : W.cell? ⟨z, 5, none⟩ = some (.slice va x.near.length vc) := c5
      clear c5
      go_simp
      refine hK.out _ _ trivial (fun _ => ?_)
      exact h100 W st
    refine AllReadyH.cons (o := ?_) ?_ (fun K hK => ?_) ?_
    rotate_left 1
    · rw [hops.out]; unfold anyOps; simp only [List.getElem?_toArray, List.getElem?_cons_succ, List.getElem?_cons_zero]; rfl
    · rw [if_pos (by rfl)]
      go_simp
      refine (below_any p a len cap 8 _ st.cur (by omega) (by omega)).mono ?_
      rintro e w2 ⟨y, rfl, hy0, hy1, hc, hgr⟩
      have st2 := st.grown hc hgr hp hz
      refine hK.out _ _ trivial (fun _ => ?_)
      exact h010 w2 y st2
    refine AllReadyH.cons (o := ?_) ?_ (fun K hK => ?_) ?_
    rotate_left 1
    · rw [hops.out]; unfold anyOps; simp only [List.getElem?_toArray, List.getElem?_cons_succ, List.getElem?_cons_zero]; rfl
    · rw [if_pos (by rfl)]
      go_simp
      refine hK.out _ _ trivial (fun _ => ?_)
      exact h001 _ W.heap.size (st.alloc _) (by have := lt_of_cur st.cur; omega) (by simp) (ints_cells W [0, 1, 1000, 1001])
    exact AllReadyH.nil
  show wpAnyH Tryz.prog .any ops Q (fun _ => True) 12 #[false, false, false, false, false, false, false, false, false, false, false, false] _ W0
  refine take_do 0 (oi := ?_) (v := ?_) ?_ (by rw [hops.out]; kernel_rfl) ?_ ?_ ?_ trivial ?_
  rotate_left 2
  · rw [hops.out]; unfold anyOps; simp only [List.getElem?_toArray, List.getElem?_cons_succ, List.getElem?_cons_zero]; rfl
  · rw [hops.out]; kernel_rfl
  · intro W _; go_simp <;> with_reducible rfl
  · exact fun c _ w h => hpan c _ _ w h
  try simp only [Act.put, List.setIfInBounds_toArray, List.set_cons_zero, List.set_cons_succ]
  refine take_do 2 (oi := ?_) (v := ?_) ?_ (by rw [hops.out]; kernel_rfl) ?_ ?_ ?_ trivial ?_
  rotate_left 2
  · rw [hops.out]; unfold anyOps; simp only [List.getElem?_toArray, List.getElem?_cons_succ, List.getElem?_cons_zero]; rfl
  · rw [hops.out]; kernel_rfl
  · intro W _; go_simp <;> with_reducible rfl
  · exact fun c _ w h => hpan c _ _ w h
  try simp only [Act.put, List.setIfInBounds_toArray, List.set_cons_zero, List.set_cons_succ]
  refine take_do 4 (oi := ?_) (v := ?_) ?_ (by rw [hops.out]; kernel_rfl) ?_ ?_ ?_ trivial ?_
  rotate_left 2
  · rw [hops.out]; unfold anyOps; simp only [List.getElem?_toArray, List.getElem?_cons_succ, List.getElem?_cons_zero]; rfl
  · rw [hops.out]; kernel_rfl
  · intro W _; go_simp <;> with_reducible rfl
  · exact fun c _ w h => hpan c _ _ w h
  try simp only [Act.put, List.setIfInBounds_toArray, List.set_cons_zero, List.set_cons_succ]
  exact h000 W0 st0
end Go.Proofs.YtchmmekhfcojgaaGreatDoor
