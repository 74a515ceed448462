/-
  spec.l04Record: the region that draws a near, in every order.
  What stays when a drawn record is handed back.
-/
import Derived.Test.YtchmmekhfcojgaaGreatDoorPq12
import Derived.Test.YtchmmekhfcojgaaGreatDoorPq4
namespace Go.Proofs.YtchmmekhfcojgaaGreatDoor
open Go.RowKit

set_option linter.unusedSimpArgs false

/-- 'append(out, x)' of a struct, as an operation that may come up in a region -/
theorem wp_append_struct {α : Type} {enc : α → List Value} {sz bytes : Nat} (hlen : ∀ a, (enc a).length = sz) (hpos : 0 < sz) (hone : ∀ a, ∀ u ∈ enc a, u.oneCell' = true) (hbb : bytes ≤ 100) {P : Program} (w : World) {o : Oper} {a : Act} {K : Act → World → Prop} {Q : Exit → Act → World → Prop} (s x : Operand) (t : TypeId)
    (ho : o.op = .call { callee := .builtin .append, args := #[s, x], argTypes := #[t, t] }) (base : Nat) (e : TypeId) (ht : P.underlying t = some (.slice e)) (zv : Value) (hzv : zv.cells.size = sz)
    (hinfo : (P.info? e).map (fun i => (i.zero, i.size, i.bytes)) = some (some zv, sz, bytes))
    (v : Value) (l : List α) (y : α) (hs : a.eval s = v) (hown : w.ownsRow base e sz v l.length (flat enc l))
    (ad : Addr) (c : Nat) (hx : a.eval x = .slice (some ad) 1 c) (hnews : ∀ j u, (enc y)[j]? = some u → w.cell? (ad.add j) = some u)
    (hl : l.length + 1 ≤ 1000000000) (hbase : base ≤ w.heap.size)
    (h : ∀ v' w' l', Hid (l' = l ++ [y]) → w'.ownsRow base e sz v' l'.length (flat enc l') → w.grownBy w' v.ownBlock → K (a.put o.dst v') w') : Oper.wp P o a w K Q := by
  obtain ⟨i0, hi, hz0, hz1, hz2⟩ := info_parts hinfo
  refine wp_append_own w s x t ho base e i0 zv sz bytes ht hi hz0 hz1 hz2 hzv hpos v l.length (flat enc l) hs hown ad 1 c (enc y) hx (by rw [hlen]; omega) hnews (hone y) (by unfold maxLen; omega) ?_ hbase ?_
  · have : (l.length + 1) * bytes ≤ 1000000000 * 100 := Nat.mul_le_mul hl hbb
    omega
  · intro v' w' h1 h2 _
    have e1 : flat enc l ++ enc y = flat enc (l ++ [y]) := by rw [flat_append]; simp [flat]
    rw [e1] at h1
    exact h v' w' (l ++ [y]) rfl (by simpa using h1) h2

section
variable {w wr w' : World} {p B0 z : Nat} {a : Option Addr} {len cap : Nat} {v : Value} {x : RecD}

theorem RcSt.box_app (h : RcSt w wr p B0 z a len cap v x) (hg : wr.grownBy w' v.ownBlock) : w'.heap[z]? = some (.cells (recC x v) 51) := by
  rw [hg.block z (lt_of_heap h.box) h.djn]; exact h.box

theorem RcSt.put2 (h : RcSt w wr p B0 z a len cap v x) {v' : Value} {l : List Nr} (hg : wr.grownBy w' v.ownBlock) (ho : w'.ownsRow (B0 + 1) 100 2 v' l.length (flat nrE l)) (hp : p < B0) (hz : B0 < z) :
    RcSt w (w'.setCell ⟨z, 5, none⟩ v') p B0 z a len cap v' { x with near := l } :=
  have hlt := h.own.lt
  have hbx := h.box_app hg
  have hd : some z ≠ v'.ownBlock := row_ne_box ho hbx
  have hcu : Cur w' p a len cap := h.cur.grown hg (fun b hb e => by have := (hlt b e.symm).1; omega)
  have hrs : w'.heap[B0]? = some (.cells zeroC 51) := by
    rw [hg.block B0 (lt_of_heap h.res) (fun e => by have := (hlt B0 e.symm).1; omega)]; exact h.res
  { cur := hcu.grown (grown_set w' z 5 v') (fun b hb => by simp; omega)
    low := h.low
    gro := gro_set (gro_step h.gro hg (fun k hk => .inr (by have := (hlt k hk).1; have := h.low; omega))) z 5 v' (by have := h.low; omega)
    box := heap_setCell_same _ _ 5 _ _ v' hbx
    res := by rw [heap_setCell_other w' ⟨z, 5, none⟩ _ _ (by show B0 ≠ z; omega)]; exact hrs
    own := by
      refine ho.kept (grown_set w' z 5 v') ?_
      cases hv : v'.ownBlock with
      | none => exact .inl rfl
      | some g => exact .inr (fun e => hd (by rw [hv]; exact e.symm))
    djn := hd }
end

def recOps : Array Oper := #[{ dst := some 33, op := Go.Op.fieldAddr 51 (Go.Operand.tmp 3) 5, type := 0, pos := "l04_record.go:154", after := #[], guard := none }, { dst := some 34, op := Go.Op.load 49 (Go.Operand.tmp 33), type := 49, pos := "l04_record.go:154", after := #[{ on := 0, ground := Go.Ground.data }], guard := none }, { dst := some 35, op := Go.Op.move (Go.Operand.tmp 4), type := 3, pos := "l04_record.go:154", after := #[], guard := none }, { dst := some 36, op := Go.Op.move (Go.Operand.tmp 0), type := 39, pos := "l04_record.go:154", after := #[], guard := none }, { dst := some 37, op := Go.Op.call { callee := Go.Callee.value (Go.Operand.func 27), args := #[Go.Operand.tmp 36, Go.Operand.const (Go.Value.int Go.IntKind.i64 4)], argTypes := #[39, 3] }, type := 3, pos := "l04_record.go:154", after := #[{ on := 3, ground := Go.Ground.data }], guard := none }, { dst := some 38, op := Go.Op.binOp Go.BinOp.add 3 (Go.Operand.const (Go.Value.int Go.IntKind.i64 1)) (Go.Operand.tmp 37) 3, type := 3, pos := "l04_record.go:154", after := #[{ on := 4, ground := Go.Ground.data }], guard := none }, { dst := some 39, op := Go.Op.build 100 #[(0, Go.Operand.tmp 35), (1, Go.Operand.tmp 38)], type := 100, pos := "l04_record.go:154", after := #[{ on := 2, ground := Go.Ground.data }, { on := 5, ground := Go.Ground.data }], guard := none }, { dst := some 40, op := Go.Op.buildSlice 49 1 #[(0, Go.Operand.tmp 39)], type := 49, pos := "l04_record.go:154", after := #[{ on := 6, ground := Go.Ground.data }], guard := none }, { dst := some 41, op := Go.Op.call { callee := Go.Callee.builtin Go.Builtin.append, args := #[Go.Operand.tmp 34, Go.Operand.tmp 40], argTypes := #[49, 49] }, type := 49, pos := "l04_record.go:154", after := #[{ on := 1, ground := Go.Ground.data }, { on := 7, ground := Go.Ground.data }, { on := 4, ground := Go.Ground.chain }], guard := none }, { dst := some 42, op := Go.Op.fieldAddr 51 (Go.Operand.tmp 3) 5, type := 0, pos := "l04_record.go:154", after := #[{ on := 0, ground := Go.Ground.phase }, { on := 1, ground := Go.Ground.phase }, { on := 2, ground := Go.Ground.phase }, { on := 3, ground := Go.Ground.phase }, { on := 4, ground := Go.Ground.phase }, { on := 5, ground := Go.Ground.phase }, { on := 6, ground := Go.Ground.phase }, { on := 7, ground := Go.Ground.phase }, { on := 8, ground := Go.Ground.phase }], guard := none }, { dst := none, op := Go.Op.store 49 (Go.Operand.tmp 42) (Go.Operand.tmp 41), type := 0, pos := "l04_record.go:154", after := #[{ on := 9, ground := Go.Ground.data }, { on := 8, ground := Go.Ground.data }, { on := 8, ground := Go.Ground.chain }, { on := 0, ground := Go.Ground.phase }, { on := 1, ground := Go.Ground.phase }, { on := 2, ground := Go.Ground.phase }, { on := 3, ground := Go.Ground.phase }, { on := 4, ground := Go.Ground.phase }, { on := 5, ground := Go.Ground.phase }, { on := 6, ground := Go.Ground.phase }, { on := 7, ground := Go.Ground.phase }, { on := 8, ground := Go.Ground.phase }], guard := none }]

set_option maxRecDepth 100000 in
set_option maxHeartbeats 1000000 in
theorem rec_dag (t1 t2 t5 t6 t7 t8 t9 t10 t11 t12 t13 t14 t15 t16 t17 t18 t19 t20 t21 t22 t23 t24 t25 t26 t27 t28 t29 t30 t31 t32 t33 t34 t35 t36 t37 t38 t39 t40 t41 t42 t43 t44 t45 t46 t47 t48 t49 t50 t51 t52 t53 t54 t55 t56 t57 t58 t59 t60 t61 t62 t63 t64 t65 t66 t67 : Value) (w W0 : World) (p B0 z : Nat) (a : Option Addr) (len cap : Nat) (va : Option Addr) (vc : Nat) (x : RecD) (vv : Int) (Q : Exit → Act → World → Prop) (ops : Array Oper) (hops : Hid (ops = recOps)) (hpan : ∀ c a1 a2 w, Q (.panic c) a1 w → Q (.panic c) a2 w) (hp : p < B0) (hz : B0 < z) (hxl : x.near.length ≤ 1000)
    (st0 : RcSt w W0 p B0 z a len cap (.slice va x.near.length vc) x)
    (hend : ∀ (W : World) (y : Int) (na : Option Addr) (nc : Nat) (l : List Nr), Hid (l = x.near ++ [⟨vv, 1 + y⟩]) → 0 ≤ y → y < 4 → RcSt w W p B0 z a len cap (.slice na l.length nc) { x with near := l } → ∀ sb, Q .normal { tmps := #[.pointer (some ⟨p, 0, none⟩), t1, t2, .pointer (some ⟨z, 0, none⟩), .int .i64 vv, t5, t6, t7, t8, t9, t10, t11, t12, t13, t14, t15, t16, t17, t18, t19, t20, t21, t22, t23, t24, t25, t26, t27, t28, t29, t30, t31, t32, .pointer (some ⟨z, 5, none⟩), .slice va x.near.length vc, .int .i64 vv, .pointer (some ⟨p, 0, none⟩), .int .i64 y, .int .i64 (1 + y), .agg #[.int .i64 vv, .int .i64 (1 + y)], .slice (some ⟨sb, 0, none⟩) 1 1, .slice na l.length nc, .pointer (some ⟨z, 5, none⟩), t43, t44, t45, t46, t47, t48, t49, t50, t51, t52, t53, t54, t55, t56, t57, t58, t59, t60, t61, t62, t63, t64, t65, t66, t67], defers := [] } W) :
    wpAnyH Tryz.prog .any ops Q (fun _ => True) 11 (Array.replicate 11 false) { tmps := #[.pointer (some ⟨p, 0, none⟩), t1, t2, .pointer (some ⟨z, 0, none⟩), .int .i64 vv, t5, t6, t7, t8, t9, t10, t11, t12, t13, t14, t15, t16, t17, t18, t19, t20, t21, t22, t23, t24, t25, t26, t27, t28, t29, t30, t31, t32, t33, t34, t35, t36, t37, t38, t39, t40, t41, t42, t43, t44, t45, t46, t47, t48, t49, t50, t51, t52, t53, t54, t55, t56, t57, t58, t59, t60, t61, t62, t63, t64, t65, t66, t67], defers := [] } W0 := by
  have h12 : ∀ (W : World) (y : Int) (sb : Nat), RcSt w W p B0 z a len cap (.slice va x.near.length vc) x → 0 ≤ y → y < 4 → W.cell? ⟨sb, 0, none⟩ = some (.int .i64 vv) → W.cell? ⟨sb, 1, none⟩ = some (.int .i64 (1 + y)) → wpAnyH Tryz.prog .any ops Q (fun _ => True) 3 #[true, true, true, true, true, true, true, true, false, false, false] { tmps := #[.pointer (some ⟨p, 0, none⟩), t1, t2, .pointer (some ⟨z, 0, none⟩), .int .i64 vv, t5, t6, t7, t8, t9, t10, t11, t12, t13, t14, t15, t16, t17, t18, t19, t20, t21, t22, t23, t24, t25, t26, t27, t28, t29, t30, t31, t32, .pointer (some ⟨z, 5, none⟩), .slice va x.near.length vc, .int .i64 vv, .pointer (some ⟨p, 0, none⟩), .int .i64 y, .int .i64 (1 + y), .agg #[.int .i64 vv, .int .i64 (1 + y)], .slice (some ⟨sb, 0, none⟩) 1 1, t41, t42, t43, t44, t45, t46, t47, t48, t49, t50, t51, t52, t53, t54, t55, t56, t57, t58, t59, t60, t61, t62, t63, t64, t65, t66, t67], defers := [] } W := by
    intro W y sb st hy0 hy1 k0 k1
    refine wpAnyH_ready (rs := [8]) (by rw [hops.out]; kernel_rfl) (by simp) ?_
    refine AllReadyH.cons (o := ?_) ?_ (fun K hK => ?_) ?_
    rotate_left 1
    · rw [hops.out]; unfold recOps; simp only [List.getElem?_toArray, List.getElem?_cons_succ, List.getElem?_cons_zero]; rfl
    · rw [if_pos (by rfl)]
      refine wp_append_struct nrE_len (by omega) nrE_one (by omega) _ _ _ 49 rfl (B0 + 1) 100 Tryz.underlying49 (nrV nr0) rfl Tryz.infoNr (.slice va x.near.length vc) x.near ⟨vv, 1 + y⟩ rfl st.own ⟨sb, 0, none⟩ 1 rfl ?_ (by omega) (by have := lt_of_heap st.res; omega) ?_
      · intro j u hj
        match j, hj with
        | 0, hj => simp [nrE] at hj; subst hj; exact k0
        | 1, hj => simp [nrE] at hj; subst hj; exact k1
      intro v' W' l' hl' hown' hgrow
      obtain ⟨na, nc, rfl⟩ := owns_lenS hown'
      have st2 := st.put2 hgrow hown' hp hz
      refine hK.out _ _ trivial (fun _ => ?_)
      clear hK K
      try simp only [Act.put, List.setIfInBounds_toArray, List.set_cons_zero, List.set_cons_succ]
      refine take_do 9 (oi := ?_) (v := ?_) ?_ (by rw [hops.out]; kernel_rfl) ?_ ?_ ?_ trivial ?_
      rotate_left 2
      · rw [hops.out]; unfold recOps; simp only [List.getElem?_toArray, List.getElem?_cons_succ, List.getElem?_cons_zero]; rfl
      · rw [hops.out]; kernel_rfl
      · intro W _; go_simp <;> with_reducible rfl
      · exact fun c _ w h => hpan c _ _ w h
      try simp only [Act.put, List.setIfInBounds_toArray, List.set_cons_zero, List.set_cons_succ]
      refine wpAnyH_ready (rs := [10]) (by rw [hops.out]; kernel_rfl) (by simp) ?_
      refine AllReadyH.cons (o := ?_) ?_ (fun K hK => ?_) ?_
      rotate_left 1
      · rw [hops.out]; unfold recOps; simp only [List.getElem?_toArray, List.getElem?_cons_succ, List.getElem?_cons_zero]; rfl
      · rw [if_pos (by rfl)]
        have bx := st.box_app hgrow
        have c5 := cells_at bx 5
        simp only [recC] at c5
        have c6 : W'.cell? ⟨z, 5, none⟩ = some (.slice va x.near.length vc) := c5
        have f6 := frozen_at bx 5
        clear c5 bx
        go_simp
        refine hK.out _ _ trivial (fun _ => ?_)
        refine wpAnyH_done (by rw [hops.out]; kernel_rfl) ?_ _
        exact hend _ y na nc l' hl' hy0 hy1 st2 sb
      · exact AllReadyH.nil
    · exact AllReadyH.nil
  have h02 : ∀ (W : World) (y : Int) (sb : Nat), RcSt w W p B0 z a len cap (.slice va x.near.length vc) x → 0 ≤ y → y < 4 → W.cell? ⟨sb, 0, none⟩ = some (.int .i64 vv) → W.cell? ⟨sb, 1, none⟩ = some (.int .i64 (1 + y)) → wpAnyH Tryz.prog .any ops Q (fun _ => True) 4 #[true, false, true, true, true, true, true, true, false, false, false] { tmps := #[.pointer (some ⟨p, 0, none⟩), t1, t2, .pointer (some ⟨z, 0, none⟩), .int .i64 vv, t5, t6, t7, t8, t9, t10, t11, t12, t13, t14, t15, t16, t17, t18, t19, t20, t21, t22, t23, t24, t25, t26, t27, t28, t29, t30, t31, t32, .pointer (some ⟨z, 5, none⟩), t34, .int .i64 vv, .pointer (some ⟨p, 0, none⟩), .int .i64 y, .int .i64 (1 + y), .agg #[.int .i64 vv, .int .i64 (1 + y)], .slice (some ⟨sb, 0, none⟩) 1 1, t41, t42, t43, t44, t45, t46, t47, t48, t49, t50, t51, t52, t53, t54, t55, t56, t57, t58, t59, t60, t61, t62, t63, t64, t65, t66, t67], defers := [] } W := by
    intro W y sb st hy0 hy1 k0 k1
    refine wpAnyH_ready (rs := [1]) (by rw [hops.out]; kernel_rfl) (by simp) ?_
    refine AllReadyH.cons (o := ?_) ?_ (fun K hK => ?_) ?_
    rotate_left 1
    · rw [hops.out]; unfold recOps; simp only [List.getElem?_toArray, List.getElem?_cons_succ, List.getElem?_cons_zero]; rfl
    · rw [if_pos (by rfl)]
      have c5 := cells_at st.box 5
      simp only [recC] at c5
      have c6 : W.cell? ⟨z, 5, none⟩ = some (.slice va x.near.length vc) := c5
      clear c5
      go_simp
      refine hK.out _ _ trivial (fun _ => ?_)
      exact h12 W y sb st hy0 hy1 k0 k1
    exact AllReadyH.nil
  have h11 : ∀ (W : World) (y : Int), RcSt w W p B0 z a len cap (.slice va x.near.length vc) x → 0 ≤ y → y < 4 → wpAnyH Tryz.prog .any ops Q (fun _ => True) 4 #[true, true, true, true, true, true, true, false, false, false, false] { tmps := #[.pointer (some ⟨p, 0, none⟩), t1, t2, .pointer (some ⟨z, 0, none⟩), .int .i64 vv, t5, t6, t7, t8, t9, t10, t11, t12, t13, t14, t15, t16, t17, t18, t19, t20, t21, t22, t23, t24, t25, t26, t27, t28, t29, t30, t31, t32, .pointer (some ⟨z, 5, none⟩), .slice va x.near.length vc, .int .i64 vv, .pointer (some ⟨p, 0, none⟩), .int .i64 y, .int .i64 (1 + y), .agg #[.int .i64 vv, .int .i64 (1 + y)], t40, t41, t42, t43, t44, t45, t46, t47, t48, t49, t50, t51, t52, t53, t54, t55, t56, t57, t58, t59, t60, t61, t62, t63, t64, t65, t66, t67], defers := [] } W := by
    intro W y st hy0 hy1
    refine wpAnyH_ready (rs := [7]) (by rw [hops.out]; kernel_rfl) (by simp) ?_
    refine AllReadyH.cons (o := ?_) ?_ (fun K hK => ?_) ?_
    rotate_left 1
    · rw [hops.out]; unfold recOps; simp only [List.getElem?_toArray, List.getElem?_cons_succ, List.getElem?_cons_zero]; rfl
    · rw [if_pos (by rfl)]
      go_simp
      refine hK.out _ _ trivial (fun _ => ?_)
      have n := heap_alloc_new W (.cells #[.int .i64 vv, .int .i64 (1 + y)] 100)
      exact h12 _ y W.heap.size (st.alloc _) hy0 hy1 (cells_at n 0) (cells_at n 1)
    exact AllReadyH.nil
  have h01 : ∀ (W : World) (y : Int), RcSt w W p B0 z a len cap (.slice va x.near.length vc) x → 0 ≤ y → y < 4 → wpAnyH Tryz.prog .any ops Q (fun _ => True) 5 #[true, false, true, true, true, true, true, false, false, false, false] { tmps := #[.pointer (some ⟨p, 0, none⟩), t1, t2, .pointer (some ⟨z, 0, none⟩), .int .i64 vv, t5, t6, t7, t8, t9, t10, t11, t12, t13, t14, t15, t16, t17, t18, t19, t20, t21, t22, t23, t24, t25, t26, t27, t28, t29, t30, t31, t32, .pointer (some ⟨z, 5, none⟩), t34, .int .i64 vv, .pointer (some ⟨p, 0, none⟩), .int .i64 y, .int .i64 (1 + y), .agg #[.int .i64 vv, .int .i64 (1 + y)], t40, t41, t42, t43, t44, t45, t46, t47, t48, t49, t50, t51, t52, t53, t54, t55, t56, t57, t58, t59, t60, t61, t62, t63, t64, t65, t66, t67], defers := [] } W := by
    intro W y st hy0 hy1
    refine wpAnyH_ready (rs := [1, 7]) (by rw [hops.out]; kernel_rfl) (by simp) ?_
    refine AllReadyH.cons (o := ?_) ?_ (fun K hK => ?_) ?_
    rotate_left 1
    · rw [hops.out]; unfold recOps; simp only [List.getElem?_toArray, List.getElem?_cons_succ, List.getElem?_cons_zero]; rfl
    · rw [if_pos (by rfl)]
      have c5 := cells_at st.box 5
      simp only [recC] at c5
      have c6 : W.cell? ⟨z, 5, none⟩ = some (.slice va x.near.length vc) := c5
      clear c5
      go_simp
      refine hK.out _ _ trivial (fun _ => ?_)
      exact h11 W y st hy0 hy1
    refine AllReadyH.cons (o := ?_) ?_ (fun K hK => ?_) ?_
    rotate_left 1
    · rw [hops.out]; unfold recOps; simp only [List.getElem?_toArray, List.getElem?_cons_succ, List.getElem?_cons_zero]; rfl
    · rw [if_pos (by rfl)]
      go_simp
      refine hK.out _ _ trivial (fun _ => ?_)
      have n := heap_alloc_new W (.cells #[.int .i64 vv, .int .i64 (1 + y)] 100)
      exact h02 _ y W.heap.size (st.alloc _) hy0 hy1 (cells_at n 0) (cells_at n 1)
    exact AllReadyH.nil
  have h10 : ∀ (W : World), RcSt w W p B0 z a len cap (.slice va x.near.length vc) x → wpAnyH Tryz.prog .any ops Q (fun _ => True) 7 #[true, true, true, true, false, false, false, false, false, false, false] { tmps := #[.pointer (some ⟨p, 0, none⟩), t1, t2, .pointer (some ⟨z, 0, none⟩), .int .i64 vv, t5, t6, t7, t8, t9, t10, t11, t12, t13, t14, t15, t16, t17, t18, t19, t20, t21, t22, t23, t24, t25, t26, t27, t28, t29, t30, t31, t32, .pointer (some ⟨z, 5, none⟩), .slice va x.near.length vc, .int .i64 vv, .pointer (some ⟨p, 0, none⟩), t37, t38, t39, t40, t41, t42, t43, t44, t45, t46, t47, t48, t49, t50, t51, t52, t53, t54, t55, t56, t57, t58, t59, t60, t61, t62, t63, t64, t65, t66, t67], defers := [] } W := by
    intro W st
    refine wpAnyH_ready (rs := [4]) (by rw [hops.out]; kernel_rfl) (by simp) ?_
    refine AllReadyH.cons (o := ?_) ?_ (fun K hK => ?_) ?_
    rotate_left 1
    · rw [hops.out]; unfold recOps; simp only [List.getElem?_toArray, List.getElem?_cons_succ, List.getElem?_cons_zero]; rfl
    · rw [if_pos (by rfl)]
      go_simp
      refine (below_any p a len cap 4 _ st.cur (by omega) (by omega)).mono ?_
      rintro e w2 ⟨y, rfl, hy0, hy1, hc, hg⟩
      have st2 := st.grown hc hg hp hz
      have hw1 : IntKind.i64.wrap (1 + y) = 1 + y := wrap_fit _ (by omega) (by omega)
      refine hK.out _ _ trivial (fun _ => ?_)
      clear hK K
      try simp only [Act.put, List.setIfInBounds_toArray, List.set_cons_zero, List.set_cons_succ]
      refine take_do 5 (oi := ?_) (v := ?_) ?_ (by rw [hops.out]; kernel_rfl) ?_ ?_ ?_ trivial ?_
      rotate_left 2
      · rw [hops.out]; unfold recOps; simp only [List.getElem?_toArray, List.getElem?_cons_succ, List.getElem?_cons_zero]; rfl
      · rw [hops.out]; kernel_rfl
      · intro W _; go_simp <;> with_reducible rfl
      · exact fun c _ w h => hpan c _ _ w h
      try simp only [Act.put, List.setIfInBounds_toArray, List.set_cons_zero, List.set_cons_succ]
      refine take_do 6 (oi := ?_) (v := ?_) ?_ (by rw [hops.out]; kernel_rfl) ?_ ?_ ?_ trivial ?_
      rotate_left 2
      · rw [hops.out]; unfold recOps; simp only [List.getElem?_toArray, List.getElem?_cons_succ, List.getElem?_cons_zero]; rfl
      · rw [hops.out]; kernel_rfl
      · intro W _; go_simp <;> with_reducible rfl
      · exact fun c _ w h => hpan c _ _ w h
      try simp only [Act.put, List.setIfInBounds_toArray, List.set_cons_zero, List.set_cons_succ]
      exact h11 w2 y st2 hy0 hy1
    exact AllReadyH.nil
  have h00 : ∀ (W : World), RcSt w W p B0 z a len cap (.slice va x.near.length vc) x → wpAnyH Tryz.prog .any ops Q (fun _ => True) 8 #[true, false, true, true, false, false, false, false, false, false, false] { tmps := #[.pointer (some ⟨p, 0, none⟩), t1, t2, .pointer (some ⟨z, 0, none⟩), .int .i64 vv, t5, t6, t7, t8, t9, t10, t11, t12, t13, t14, t15, t16, t17, t18, t19, t20, t21, t22, t23, t24, t25, t26, t27, t28, t29, t30, t31, t32, .pointer (some ⟨z, 5, none⟩), t34, .int .i64 vv, .pointer (some ⟨p, 0, none⟩), t37, t38, t39, t40, t41, t42, t43, t44, t45, t46, t47, t48, t49, t50, t51, t52, t53, t54, t55, t56, t57, t58, t59, t60, t61, t62, t63, t64, t65, t66, t67], defers := [] } W := by
    intro W st
    refine wpAnyH_ready (rs := [1, 4]) (by rw [hops.out]; kernel_rfl) (by simp) ?_
    refine AllReadyH.cons (o := ?_) ?_ (fun K hK => ?_) ?_
    rotate_left 1
    · rw [hops.out]; unfold recOps; simp only [List.getElem?_toArray, List.getElem?_cons_succ, List.getElem?_cons_zero]; rfl
    · rw [if_pos (by rfl)]
      have c5 := cells_at st.box 5
      simp only [recC] at c5
      have c6 : W.cell? ⟨z, 5, none⟩ = some (.slice va x.near.length vc) := c5
      clear c5
      go_simp
      refine hK.out _ _ trivial (fun _ => ?_)
      exact h10 W st
    refine AllReadyH.cons (o := ?_) ?_ (fun K hK => ?_) ?_
    rotate_left 1
    · rw [hops.out]; unfold recOps; simp only [List.getElem?_toArray, List.getElem?_cons_succ, List.getElem?_cons_zero]; rfl
    · rw [if_pos (by rfl)]
      go_simp
      refine (below_any p a len cap 4 _ st.cur (by omega) (by omega)).mono ?_
      rintro e w2 ⟨y, rfl, hy0, hy1, hc, hg⟩
      have st2 := st.grown hc hg hp hz
      have hw1 : IntKind.i64.wrap (1 + y) = 1 + y := wrap_fit _ (by omega) (by omega)
      refine hK.out _ _ trivial (fun _ => ?_)
      clear hK K
      try simp only [Act.put, List.setIfInBounds_toArray, List.set_cons_zero, List.set_cons_succ]
      refine take_do 5 (oi := ?_) (v := ?_) ?_ (by rw [hops.out]; kernel_rfl) ?_ ?_ ?_ trivial ?_
      rotate_left 2
      · rw [hops.out]; unfold recOps; simp only [List.getElem?_toArray, List.getElem?_cons_succ, List.getElem?_cons_zero]; rfl
      · rw [hops.out]; kernel_rfl
      · intro W _; go_simp <;> with_reducible rfl
      · exact fun c _ w h => hpan c _ _ w h
      try simp only [Act.put, List.setIfInBounds_toArray, List.set_cons_zero, List.set_cons_succ]
      refine take_do 6 (oi := ?_) (v := ?_) ?_ (by rw [hops.out]; kernel_rfl) ?_ ?_ ?_ trivial ?_
      rotate_left 2
      · rw [hops.out]; unfold recOps; simp only [List.getElem?_toArray, List.getElem?_cons_succ, List.getElem?_cons_zero]; rfl
      · rw [hops.out]; kernel_rfl
      · intro W _; go_simp <;> with_reducible rfl
      · exact fun c _ w h => hpan c _ _ w h
      try simp only [Act.put, List.setIfInBounds_toArray, List.set_cons_zero, List.set_cons_succ]
      exact h01 w2 y st2 hy0 hy1
    exact AllReadyH.nil
  show wpAnyH Tryz.prog .any ops Q (fun _ => True) 11 #[false, false, false, false, false, false, false, false, false, false, false] _ W0
  refine take_do 0 (oi := ?_) (v := ?_) ?_ (by rw [hops.out]; kernel_rfl) ?_ ?_ ?_ trivial ?_
  rotate_left 2
  · rw [hops.out]; unfold recOps; simp only [List.getElem?_toArray, List.getElem?_cons_succ, List.getElem?_cons_zero]; rfl
  · rw [hops.out]; kernel_rfl
  · intro W _; go_simp <;> with_reducible rfl
  · exact fun c _ w h => hpan c _ _ w h
  try simp only [Act.put, List.setIfInBounds_toArray, List.set_cons_zero, List.set_cons_succ]
  refine take_do 2 (oi := ?_) (v := ?_) ?_ (by rw [hops.out]; kernel_rfl) ?_ ?_ ?_ trivial ?_
  rotate_left 2
  · rw [hops.out]; unfold recOps; simp only [List.getElem?_toArray, List.getElem?_cons_succ, List.getElem?_cons_zero]; rfl
  · rw [hops.out]; kernel_rfl
  · intro W _; go_simp <;> with_reducible rfl
  · exact fun c _ w h => hpan c _ _ w h
  try simp only [Act.put, List.setIfInBounds_toArray, List.set_cons_zero, List.set_cons_succ]
  refine take_do 3 (oi := ?_) (v := ?_) ?_ (by rw [hops.out]; kernel_rfl) ?_ ?_ ?_ trivial ?_
  rotate_left 2
  · rw [hops.out]; unfold recOps; simp only [List.getElem?_toArray, List.getElem?_cons_succ, List.getElem?_cons_zero]; rfl
  · rw [hops.out]; kernel_rfl
  · intro W _; go_simp <;> with_reducible rfl
  · exact fun c _ w h => hpan c _ _ w h
  try simp only [Act.put, List.setIfInBounds_toArray, List.set_cons_zero, List.set_cons_succ]
  exact h00 W0 st0
end Go.Proofs.YtchmmekhfcojgaaGreatDoor
namespace Go.Proofs.YtchmmekhfcojgaaGreatDoor
open Go.RowKit

set_option linter.unusedSimpArgs false

abbrev put8 (W : World) (g : Nat) (v0 v1 v2 v3 v4 v5 v6 v7 : Value) : World := (((((((W.setCell ⟨g, 0, none⟩ v0).setCell ⟨g, 1, none⟩ v1).setCell ⟨g, 2, none⟩ v2).setCell ⟨g, 3, none⟩ v3).setCell ⟨g, 4, none⟩ v4).setCell ⟨g, 5, none⟩ v5).setCell ⟨g, 6, none⟩ v6).setCell ⟨g, 7, none⟩ v7

set_option maxHeartbeats 1000000 in
theorem RcSt.fin {w wr : World} {p B0 z : Nat} {a : Option Addr} {len cap : Nat} {v : Value} {x : RecD} (h : RcSt w wr p B0 z a len cap v x) (hp : p < B0) (_ : B0 < wr.heap.size) :
    (put8 wr B0 (.int .i64 x.area) (.int .i64 x.kind) (.int .i64 x.owner) (.int .i64 x.key) (.int .i64 x.seq) v (.int .i64 x.cost) (.bool x.far)).heap[B0]? = some (.cells (recC x v) 51) ∧
    Cur (put8 wr B0 (.int .i64 x.area) (.int .i64 x.kind) (.int .i64 x.owner) (.int .i64 x.key) (.int .i64 x.seq) v (.int .i64 x.cost) (.bool x.far)) p a len cap ∧
    w.grownBy (put8 wr B0 (.int .i64 x.area) (.int .i64 x.kind) (.int .i64 x.owner) (.int .i64 x.key) (.int .i64 x.seq) v (.int .i64 x.cost) (.bool x.far)) (some p) ∧
    (put8 wr B0 (.int .i64 x.area) (.int .i64 x.kind) (.int .i64 x.owner) (.int .i64 x.key) (.int .i64 x.seq) v (.int .i64 x.cost) (.bool x.far)).ownsRow (B0 + 1) 100 2 v x.near.length (flat nrE x.near) := by
  have k0 := h.res
  unfold zeroC at k0
  have k1 := heap_setCell_same _ _ 0 _ _ (.int .i64 x.area) k0
  have k2 := heap_setCell_same _ _ 1 _ _ (.int .i64 x.kind) k1
  have k3 := heap_setCell_same _ _ 2 _ _ (.int .i64 x.owner) k2
  have k4 := heap_setCell_same _ _ 3 _ _ (.int .i64 x.key) k3
  have k5 := heap_setCell_same _ _ 4 _ _ (.int .i64 x.seq) k4
  have k6 := heap_setCell_same _ _ 5 _ _ v k5
  have k7 := heap_setCell_same _ _ 6 _ _ (.int .i64 x.cost) k6
  have k8 := heap_setCell_same _ _ 7 _ _ (.bool x.far) k7
  have hne : ∀ b, b ≤ p → some b ≠ some B0 := fun b hb => by simp; omega
  refine ⟨by unfold recC; exact k8, ?_, ?_, ?_⟩
  · exact ((((((((h.cur.grown (grown_set _ B0 _ _) hne).grown (grown_set _ B0 _ _) hne).grown (grown_set _ B0 _ _) hne).grown (grown_set _ B0 _ _) hne).grown (grown_set _ B0 _ _) hne).grown (grown_set _ B0 _ _) hne).grown (grown_set _ B0 _ _) hne).grown (grown_set _ B0 _ _) hne)
  · have hlo := h.low
    exact gro_set (gro_set (gro_set (gro_set (gro_set (gro_set (gro_set (gro_set h.gro B0 0 _ hlo) B0 1 _ hlo) B0 2 _ hlo) B0 3 _ hlo) B0 4 _ hlo) B0 5 _ hlo) B0 6 _ hlo) B0 7 _ hlo
  · have hlt : B0 < B0 + 1 := by omega
    exact owns_set (j := 7) (owns_set (j := 6) (owns_set (j := 5) (owns_set (j := 4) (owns_set (j := 3) (owns_set (j := 2) (owns_set (j := 1) (owns_set (j := 0) (h.own) hlt) hlt) hlt) hlt) hlt) hlt) hlt) hlt

theorem five_cells (w : World) : ∀ k, k < 5 → ∃ z : Int, True ∧ (w.alloc (.cells #[.int .i64 0, .int .i64 1, .int .i64 2, .int .i64 5, .int .i64 60000] 3)).cell? ⟨w.heap.size, k, none⟩ = some (.int .i64 z) := by
  intro k hk
  have h := cells_at (heap_alloc_new w (.cells #[.int .i64 0, .int .i64 1, .int .i64 2, .int .i64 5, .int .i64 60000] 3)) k
  match k, hk with
  | 0, _ => exact ⟨_, trivial, h⟩
  | 1, _ => exact ⟨_, trivial, h⟩
  | 2, _ => exact ⟨_, trivial, h⟩
  | 3, _ => exact ⟨_, trivial, h⟩
  | 4, _ => exact ⟨_, trivial, h⟩

theorem fourb_cells (w : World) : ∀ k, k < 4 → ∃ z : Int, True ∧ (w.alloc (.cells #[.int .i64 1, .int .i64 2, .int .i64 5, .int .i64 60000] 3)).cell? ⟨w.heap.size, k, none⟩ = some (.int .i64 z) := by
  intro k hk
  have h := cells_at (heap_alloc_new w (.cells #[.int .i64 1, .int .i64 2, .int .i64 5, .int .i64 60000] 3)) k
  match k, hk with
  | 0, _ => exact ⟨_, trivial, h⟩
  | 1, _ => exact ⟨_, trivial, h⟩
  | 2, _ => exact ⟨_, trivial, h⟩
  | 3, _ => exact ⟨_, trivial, h⟩

end Go.Proofs.YtchmmekhfcojgaaGreatDoor
