/-
  The drawn region of spec.RoutesBeyond, in every order.
  One way more at the end of a list of the caller's own.
  append of one struct, with word on the block of what comes out.
-/
import Derived.Test.YtbknmgobmnjphaaWk2
import Derived.Test.YtbknmgobmnjphaaWk3
import Derived.Test.YtbknmgobmnjphaaWk7
import Derived.Maps.AppendAt
namespace Go.Proofs.Ytbknmgobmnjphaa
open Go.RowKit

set_option linter.unusedSimpArgs false

def opsRB : Array Oper := #[{ dst := some 72, op := Op.move (Operand.tmp 0), type := 31, pos := "l07_route.go:75", after := #[], guard := none }, { dst := some 73, op := Op.move (Operand.tmp 11), type := 109, pos := "l07_route.go:75", after := #[], guard := none }, { dst := some 74, op := Op.move (Operand.tmp 18), type := 3, pos := "l07_route.go:75", after := #[], guard := none }, { dst := some 75, op := Op.indexAddr 109 (Operand.tmp 73) (Operand.tmp 74), type := 0, pos := "l07_route.go:75", after := #[{ on := 1, ground := Ground.data }, { on := 2, ground := Ground.data }], guard := none }, { dst := some 76, op := Op.load 74 (Operand.tmp 75), type := 74, pos := "l07_route.go:75", after := #[{ on := 3, ground := Ground.data }], guard := none }, { dst := some 77, op := Op.move (Operand.tmp 1), type := 39, pos := "l07_route.go:75", after := #[], guard := none }, { dst := some 78, op := Op.move (Operand.tmp 18), type := 3, pos := "l07_route.go:75", after := #[], guard := none }, { dst := some 79, op := Op.indexAddr 39 (Operand.tmp 77) (Operand.tmp 78), type := 0, pos := "l07_route.go:75", after := #[{ on := 5, ground := Ground.data }, { on := 6, ground := Ground.data }], guard := none }, { dst := some 80, op := Op.load 3 (Operand.tmp 79), type := 3, pos := "l07_route.go:75", after := #[{ on := 7, ground := Ground.data }], guard := none }, { dst := some 81, op := Op.move (Operand.tmp 3), type := 3, pos := "l07_route.go:75", after := #[], guard := none }, { dst := some 82, op := Op.move (Operand.tmp 13), type := 3, pos := "l07_route.go:75", after := #[], guard := none }, { dst := some 83, op := Op.load 79 (Operand.tmp 16), type := 79, pos := "l07_route.go:75", after := #[], guard := none }, { dst := some 84, op := Op.move (Operand.tmp 17), type := 4, pos := "l07_route.go:75", after := #[], guard := none }, { dst := some 85, op := Op.call { callee := Callee.value (Operand.func 53), args := #[Operand.tmp 72, Operand.tmp 76, Operand.tmp 80, Operand.tmp 81, Operand.tmp 82, Operand.tmp 83, Operand.tmp 84], argTypes := #[31, 74, 3, 3, 3, 79, 4] }, type := 111, pos := "l07_route.go:75", after := #[{ on := 0, ground := Ground.data }, { on := 4, ground := Ground.data }, { on := 8, ground := Ground.data }, { on := 9, ground := Ground.data }, { on := 10, ground := Ground.data }, { on := 11, ground := Ground.data }, { on := 12, ground := Ground.data }], guard := none }, { dst := some 71, op := Op.move (Operand.tmp 85), type := 111, pos := "l07_route.go:75", after := #[{ on := 13, ground := Ground.data }], guard := none }, { dst := some 86, op := Op.extract (Operand.tmp 71) 0, type := 79, pos := "l07_route.go:75", after := #[{ on := 14, ground := Ground.data }], guard := none }, { dst := some 87, op := Op.extract (Operand.tmp 71) 1, type := 4, pos := "l07_route.go:75", after := #[{ on := 14, ground := Ground.data }, { on := 17, ground := Ground.gcOnly Departure.lateStores }], guard := none }, { dst := none, op := Op.store 79 (Operand.tmp 16) (Operand.tmp 86), type := 0, pos := "l07_route.go:75", after := #[{ on := 15, ground := Ground.data }, { on := 13, ground := Ground.chain }, { on := 0, ground := Ground.phase }, { on := 1, ground := Ground.phase }, { on := 2, ground := Ground.phase }, { on := 3, ground := Ground.phase }, { on := 4, ground := Ground.phase }, { on := 5, ground := Ground.phase }, { on := 6, ground := Ground.phase }, { on := 7, ground := Ground.phase }, { on := 8, ground := Ground.phase }, { on := 9, ground := Ground.phase }, { on := 10, ground := Ground.phase }, { on := 11, ground := Ground.phase }, { on := 12, ground := Ground.phase }, { on := 13, ground := Ground.phase }, { on := 14, ground := Ground.phase }, { on := 15, ground := Ground.phase }, { on := 16, ground := Ground.textOnly Departure.lateStores }], guard := none }, { dst := some 17, op := Op.assign (Operand.tmp 87), type := 4, pos := "l07_route.go:75", after := #[{ on := 16, ground := Ground.data }, { on := 17, ground := Ground.chain }, { on := 0, ground := Ground.phase }, { on := 1, ground := Ground.phase }, { on := 2, ground := Ground.phase }, { on := 3, ground := Ground.phase }, { on := 4, ground := Ground.phase }, { on := 5, ground := Ground.phase }, { on := 6, ground := Ground.phase }, { on := 7, ground := Ground.phase }, { on := 8, ground := Ground.phase }, { on := 9, ground := Ground.phase }, { on := 10, ground := Ground.phase }, { on := 11, ground := Ground.phase }, { on := 12, ground := Ground.phase }, { on := 13, ground := Ground.phase }, { on := 14, ground := Ground.phase }, { on := 15, ground := Ground.phase }, { on := 16, ground := Ground.phase }, { on := 17, ground := Ground.phase }], guard := none }]

theorem putW3_cell (W : World) (z : Nat) (q : WayD) (u : Value) (b j : Nat) (h : b ≠ z) : (putW3 W z q u).cell? ⟨b, j, none⟩ = W.cell? ⟨b, j, none⟩ := by
  have e : (putW3 W z q u).heap[b]? = W.heap[b]? := by
    unfold putW3
    rw [heap_setCell_other _ ⟨z, 2, none⟩ _ _ h, heap_setCell_other _ ⟨z, 1, none⟩ _ _ h, heap_setCell_other _ ⟨z, 0, none⟩ _ _ h]
  simp only [World.cell?, e]

set_option maxRecDepth 100000 in
set_option maxHeartbeats 2000000 in
theorem bey_dag (t2 t4 t5 t6 t7 t8 t9 t10 t12 t14 t15 t19 t20 t21 t22 t23 t24 t25 t26 t27 t28 t29 t30 t31 t32 t33 t34 t35 t36 t37 t38 t39 t40 t41 t42 t43 t44 t45 t46 t47 t48 t49 t50 t51 t52 t53 t54 t55 t56 t57 t58 t59 t60 t61 t62 t63 t64 t65 t66 t67 t68 t69 t70 t71 t72 t73 t74 t75 t76 t77 t78 t79 t80 t81 t82 t83 t84 t85 t86 t87 t88 t89 t90 t91 t92 t93 : Value) (W0 : World) (rv wv fv0 : Value) (g n cap b off m acap z k : Nat) (area src to : Int) (x : WayD) (xa : Option Addr) (xl xc : Nat) (RR : World → WayD → Value → Value → Prop) (Q : Exit → Act → World → Prop) (ops : Array Oper) (hops : Hid (ops = opsRB)) (hpan : ∀ c a1 a2 w, Q (.panic c) a1 w → Q (.panic c) a2 w)
    (hk0 : (0 : Int) ≤ (k : Int)) (hkn : (k : Int) < (n : Int)) (hkm : (k : Int) < (m : Int))
    (hS : (fun W => W.cell? ⟨g, k, none⟩ = some wv ∧ W.cell? ⟨b, off + k, none⟩ = some (.int .i64 area)) W0)
    (d0 : W0.cell? ⟨z, 0, none⟩ = some (.int .i64 x.to)) (d1 : W0.cell? ⟨z, 1, none⟩ = some (.int .i64 x.cost)) (d2 : W0.cell? ⟨z, 2, none⟩ = some (.slice xa xl xc))
    (hgz : g ≠ z) (hbz : b ≠ z)
    (HT : Hid (Calls Try.prog 53 #[rv, wv, .int .i64 area, .int .i64 src, .int .i64 to, .agg #[.int .i64 x.to, .int .i64 x.cost, .slice xa xl xc], fv0] W0 fun e w' => ∃ (q : WayD) (ua : Option Addr) (ul uc : Nat) (fv : Value), e = .returned (.tuple #[.agg #[.int .i64 q.to, .int .i64 q.cost, .slice ua ul uc], fv]) ∧ RR w' q (.slice ua ul uc) fv))
    (hSR : ∀ W q u fv, RR W q u fv → (fun W => W.cell? ⟨g, k, none⟩ = some wv ∧ W.cell? ⟨b, off + k, none⟩ = some (.int .i64 area)) W)
    (hcell : ∀ W q u fv, RR W q u fv → ∃ y0 y1 y2, W.cell? ⟨z, 0, none⟩ = some y0 ∧ W.cell? ⟨z, 1, none⟩ = some y1 ∧ W.cell? ⟨z, 2, none⟩ = some y2)
    (hfz : ∀ W q u fv, RR W q u fv → ∀ j, W.frozen? ⟨z, j, none⟩ = false)
    (hend : ∀ (W : World) (q : WayD) ua ul uc fv, RR W q (.slice ua ul uc) fv → Q .normal { tmps := #[rv, .slice (some ⟨b, off, none⟩) m acap, t2, .int .i64 src, t4, t5, t6, t7, t8, t9, t10, .slice (some ⟨g, 0, none⟩) n cap, t12, .int .i64 to, t14, t15, .pointer (some ⟨z, 0, none⟩), fv, .int .i64 (k : Int), t19, t20, t21, t22, t23, t24, t25, t26, t27, t28, t29, t30, t31, t32, t33, t34, t35, t36, t37, t38, t39, t40, t41, t42, t43, t44, t45, t46, t47, t48, t49, t50, t51, t52, t53, t54, t55, t56, t57, t58, t59, t60, t61, t62, t63, t64, t65, t66, t67, t68, t69, t70, .tuple #[.agg #[.int .i64 q.to, .int .i64 q.cost, .slice ua ul uc], fv], rv, .slice (some ⟨g, 0, none⟩) n cap, .int .i64 (k : Int), .pointer (some ⟨g, k, none⟩), wv, .slice (some ⟨b, off, none⟩) m acap, .int .i64 (k : Int), .pointer (some ⟨b, off + k, none⟩), .int .i64 area, .int .i64 src, .int .i64 to, .agg #[.int .i64 x.to, .int .i64 x.cost, .slice xa xl xc], fv0, .tuple #[.agg #[.int .i64 q.to, .int .i64 q.cost, .slice ua ul uc], fv], .agg #[.int .i64 q.to, .int .i64 q.cost, .slice ua ul uc], fv, t88, t89, t90, t91, t92, t93], defers := [] } (putW3 W z q (.slice ua ul uc))) :
    wpAnyH Try.prog .any ops Q (fun W => W.cell? ⟨g, k, none⟩ = some wv ∧ W.cell? ⟨b, off + k, none⟩ = some (.int .i64 area)) 19 (Array.replicate 19 false) { tmps := #[rv, .slice (some ⟨b, off, none⟩) m acap, t2, .int .i64 src, t4, t5, t6, t7, t8, t9, t10, .slice (some ⟨g, 0, none⟩) n cap, t12, .int .i64 to, t14, t15, .pointer (some ⟨z, 0, none⟩), fv0, .int .i64 (k : Int), t19, t20, t21, t22, t23, t24, t25, t26, t27, t28, t29, t30, t31, t32, t33, t34, t35, t36, t37, t38, t39, t40, t41, t42, t43, t44, t45, t46, t47, t48, t49, t50, t51, t52, t53, t54, t55, t56, t57, t58, t59, t60, t61, t62, t63, t64, t65, t66, t67, t68, t69, t70, t71, t72, t73, t74, t75, t76, t77, t78, t79, t80, t81, t82, t83, t84, t85, t86, t87, t88, t89, t90, t91, t92, t93], defers := [] } W0 := by
  have h13 : ∀ W (q : WayD) ua ul uc fv, RR W q (.slice ua ul uc) fv → wpAnyH Try.prog .any ops Q (fun W => W.cell? ⟨g, k, none⟩ = some wv ∧ W.cell? ⟨b, off + k, none⟩ = some (.int .i64 area)) 5 #[true, true, true, true, true, true, true, true, true, true, true, true, true, true, false, false, false, false, false] { tmps := #[rv, .slice (some ⟨b, off, none⟩) m acap, t2, .int .i64 src, t4, t5, t6, t7, t8, t9, t10, .slice (some ⟨g, 0, none⟩) n cap, t12, .int .i64 to, t14, t15, .pointer (some ⟨z, 0, none⟩), fv0, .int .i64 (k : Int), t19, t20, t21, t22, t23, t24, t25, t26, t27, t28, t29, t30, t31, t32, t33, t34, t35, t36, t37, t38, t39, t40, t41, t42, t43, t44, t45, t46, t47, t48, t49, t50, t51, t52, t53, t54, t55, t56, t57, t58, t59, t60, t61, t62, t63, t64, t65, t66, t67, t68, t69, t70, t71, rv, .slice (some ⟨g, 0, none⟩) n cap, .int .i64 (k : Int), .pointer (some ⟨g, k, none⟩), wv, .slice (some ⟨b, off, none⟩) m acap, .int .i64 (k : Int), .pointer (some ⟨b, off + k, none⟩), .int .i64 area, .int .i64 src, .int .i64 to, .agg #[.int .i64 x.to, .int .i64 x.cost, .slice xa xl xc], fv0, .tuple #[.agg #[.int .i64 q.to, .int .i64 q.cost, .slice ua ul uc], fv], t86, t87, t88, t89, t90, t91, t92, t93], defers := [] } W := by
    intro W q ua ul uc fv hr
    have hS := hSR W _ _ _ hr
    obtain ⟨y0, y1, y2, f0, f1, f2⟩ := hcell W _ _ _ hr
    have fz := hfz W _ _ _ hr
    refine take_do 14 (oi := ?_) (v := ?_) ?_ (by rw [hops.out]; kernel_rfl) ?_ ?_ ?_ hS ?_
    rotate_left 2
    · rw [hops.out]; unfold opsRB; simp only [List.getElem?_toArray, List.getElem?_cons_succ, List.getElem?_cons_zero]; rfl
    · rw [hops.out]; kernel_rfl
    · intro W hW; obtain ⟨g1, g2⟩ := hW; go_simp <;> with_reducible rfl
    · exact fun c _ w h => hpan c _ _ w h
    try simp only [Act.put, List.setIfInBounds_toArray, List.set_cons_zero, List.set_cons_succ]
    refine take_do 15 (oi := ?_) (v := ?_) ?_ (by rw [hops.out]; kernel_rfl) ?_ ?_ ?_ hS ?_
    rotate_left 2
    · rw [hops.out]; unfold opsRB; simp only [List.getElem?_toArray, List.getElem?_cons_succ, List.getElem?_cons_zero]; rfl
    · rw [hops.out]; kernel_rfl
    · intro W hW; obtain ⟨g1, g2⟩ := hW; go_simp <;> with_reducible rfl
    · exact fun c _ w h => hpan c _ _ w h
    try simp only [Act.put, List.setIfInBounds_toArray, List.set_cons_zero, List.set_cons_succ]
    refine take_do 16 (oi := ?_) (v := ?_) ?_ (by rw [hops.out]; kernel_rfl) ?_ ?_ ?_ hS ?_
    rotate_left 2
    · rw [hops.out]; unfold opsRB; simp only [List.getElem?_toArray, List.getElem?_cons_succ, List.getElem?_cons_zero]; rfl
    · rw [hops.out]; kernel_rfl
    · intro W hW; obtain ⟨g1, g2⟩ := hW; go_simp <;> with_reducible rfl
    · exact fun c _ w h => hpan c _ _ w h
    try simp only [Act.put, List.setIfInBounds_toArray, List.set_cons_zero, List.set_cons_succ]
    refine wpAnyH_ready (rs := [17]) (by rw [hops.out]; kernel_rfl) (by simp) ?_
    refine AllReadyH.cons (o := ?_) ?_ (fun K hK => ?_) ?_
    rotate_left 1
    · rw [hops.out]; unfold opsRB; simp only [List.getElem?_toArray, List.getElem?_cons_succ, List.getElem?_cons_zero]; rfl
    · rw [if_pos (by rfl)]
      go_simp
      have hS2 : (fun W => W.cell? ⟨g, k, none⟩ = some wv ∧ W.cell? ⟨b, off + k, none⟩ = some (.int .i64 area)) (putW3 W z q (.slice ua ul uc)) := by
        refine ⟨?_, ?_⟩
        · show (putW3 W z q (.slice ua ul uc)).cell? _ = _
          rw [putW3_cell W z q _ _ _ hgz]; exact hS.1
        · show (putW3 W z q (.slice ua ul uc)).cell? _ = _
          rw [putW3_cell W z q _ _ _ hbz]; exact hS.2
      refine hK.out _ _ hS2 (fun _ => ?_)
      refine wpAnyH_ready (rs := [18]) (by rw [hops.out]; kernel_rfl) (by simp) ?_
      refine AllReadyH.cons (o := ?_) ?_ (fun K hK => ?_) ?_
      rotate_left 1
      · rw [hops.out]; unfold opsRB; simp only [List.getElem?_toArray, List.getElem?_cons_succ, List.getElem?_cons_zero]; rfl
      · rw [if_pos (by rfl)]
        go_simp
        refine hK.out _ _ hS2 (fun _ => ?_)
        refine wpAnyH_done (by rw [hops.out]; kernel_rfl) ?_ _
        exact hend W q ua ul uc fv hr
      exact AllReadyH.nil
    exact AllReadyH.nil
  have h11 : wpAnyH Try.prog .any ops Q (fun W => W.cell? ⟨g, k, none⟩ = some wv ∧ W.cell? ⟨b, off + k, none⟩ = some (.int .i64 area)) 6 #[true, true, true, true, true, true, true, true, true, true, true, true, true, false, false, false, false, false, false] { tmps := #[rv, .slice (some ⟨b, off, none⟩) m acap, t2, .int .i64 src, t4, t5, t6, t7, t8, t9, t10, .slice (some ⟨g, 0, none⟩) n cap, t12, .int .i64 to, t14, t15, .pointer (some ⟨z, 0, none⟩), fv0, .int .i64 (k : Int), t19, t20, t21, t22, t23, t24, t25, t26, t27, t28, t29, t30, t31, t32, t33, t34, t35, t36, t37, t38, t39, t40, t41, t42, t43, t44, t45, t46, t47, t48, t49, t50, t51, t52, t53, t54, t55, t56, t57, t58, t59, t60, t61, t62, t63, t64, t65, t66, t67, t68, t69, t70, t71, rv, .slice (some ⟨g, 0, none⟩) n cap, .int .i64 (k : Int), .pointer (some ⟨g, k, none⟩), wv, .slice (some ⟨b, off, none⟩) m acap, .int .i64 (k : Int), .pointer (some ⟨b, off + k, none⟩), .int .i64 area, .int .i64 src, .int .i64 to, .agg #[.int .i64 x.to, .int .i64 x.cost, .slice xa xl xc], fv0, t85, t86, t87, t88, t89, t90, t91, t92, t93], defers := [] } W0 := by
    refine wpAnyH_ready (rs := [13]) (by rw [hops.out]; kernel_rfl) (by simp) ?_
    refine AllReadyH.cons (o := ?_) ?_ (fun K hK => ?_) ?_
    rotate_left 1
    · rw [hops.out]; unfold opsRB; simp only [List.getElem?_toArray, List.getElem?_cons_succ, List.getElem?_cons_zero]; rfl
    · rw [if_pos (by rfl)]
      go_simp
      refine HT.out.mono ?_
      rintro e w2 ⟨q, ua, ul, uc, fv, rfl, hr⟩
      refine hK.out _ _ (hSR w2 _ _ _ hr) (fun _ => ?_)
      exact h13 w2 q ua ul uc fv hr
    exact AllReadyH.nil
  show wpAnyH Try.prog .any ops Q (fun W => W.cell? ⟨g, k, none⟩ = some wv ∧ W.cell? ⟨b, off + k, none⟩ = some (.int .i64 area)) 19 #[false, false, false, false, false, false, false, false, false, false, false, false, false, false, false, false, false, false, false] _ W0
  refine take_do 0 (oi := ?_) (v := ?_) ?_ (by rw [hops.out]; kernel_rfl) ?_ ?_ ?_ hS ?_
  rotate_left 2
  · rw [hops.out]; unfold opsRB; simp only [List.getElem?_toArray, List.getElem?_cons_succ, List.getElem?_cons_zero]; rfl
  · rw [hops.out]; kernel_rfl
  · intro W hW; obtain ⟨g1, g2⟩ := hW; go_simp <;> with_reducible rfl
  · exact fun c _ w h => hpan c _ _ w h
  try simp only [Act.put, List.setIfInBounds_toArray, List.set_cons_zero, List.set_cons_succ]
  refine take_do 1 (oi := ?_) (v := ?_) ?_ (by rw [hops.out]; kernel_rfl) ?_ ?_ ?_ hS ?_
  rotate_left 2
  · rw [hops.out]; unfold opsRB; simp only [List.getElem?_toArray, List.getElem?_cons_succ, List.getElem?_cons_zero]; rfl
  · rw [hops.out]; kernel_rfl
  · intro W hW; obtain ⟨g1, g2⟩ := hW; go_simp <;> with_reducible rfl
  · exact fun c _ w h => hpan c _ _ w h
  try simp only [Act.put, List.setIfInBounds_toArray, List.set_cons_zero, List.set_cons_succ]
  refine take_do 2 (oi := ?_) (v := ?_) ?_ (by rw [hops.out]; kernel_rfl) ?_ ?_ ?_ hS ?_
  rotate_left 2
  · rw [hops.out]; unfold opsRB; simp only [List.getElem?_toArray, List.getElem?_cons_succ, List.getElem?_cons_zero]; rfl
  · rw [hops.out]; kernel_rfl
  · intro W hW; obtain ⟨g1, g2⟩ := hW; go_simp <;> with_reducible rfl
  · exact fun c _ w h => hpan c _ _ w h
  try simp only [Act.put, List.setIfInBounds_toArray, List.set_cons_zero, List.set_cons_succ]
  refine take_do 3 (oi := ?_) (v := ?_) ?_ (by rw [hops.out]; kernel_rfl) ?_ ?_ ?_ hS ?_
  rotate_left 2
  · rw [hops.out]; unfold opsRB; simp only [List.getElem?_toArray, List.getElem?_cons_succ, List.getElem?_cons_zero]; rfl
  · rw [hops.out]; kernel_rfl
  · intro W hW; obtain ⟨g1, g2⟩ := hW; go_simp <;> with_reducible rfl
  · exact fun c _ w h => hpan c _ _ w h
  try simp only [Act.put, List.setIfInBounds_toArray, List.set_cons_zero, List.set_cons_succ]
  refine take_do 4 (oi := ?_) (v := ?_) ?_ (by rw [hops.out]; kernel_rfl) ?_ ?_ ?_ hS ?_
  rotate_left 2
  · rw [hops.out]; unfold opsRB; simp only [List.getElem?_toArray, List.getElem?_cons_succ, List.getElem?_cons_zero]; rfl
  · rw [hops.out]; kernel_rfl
  · intro W hW; obtain ⟨g1, g2⟩ := hW; go_simp <;> with_reducible rfl
  · exact fun c _ w h => hpan c _ _ w h
  try simp only [Act.put, List.setIfInBounds_toArray, List.set_cons_zero, List.set_cons_succ]
  refine take_do 5 (oi := ?_) (v := ?_) ?_ (by rw [hops.out]; kernel_rfl) ?_ ?_ ?_ hS ?_
  rotate_left 2
  · rw [hops.out]; unfold opsRB; simp only [List.getElem?_toArray, List.getElem?_cons_succ, List.getElem?_cons_zero]; rfl
  · rw [hops.out]; kernel_rfl
  · intro W hW; obtain ⟨g1, g2⟩ := hW; go_simp <;> with_reducible rfl
  · exact fun c _ w h => hpan c _ _ w h
  try simp only [Act.put, List.setIfInBounds_toArray, List.set_cons_zero, List.set_cons_succ]
  refine take_do 6 (oi := ?_) (v := ?_) ?_ (by rw [hops.out]; kernel_rfl) ?_ ?_ ?_ hS ?_
  rotate_left 2
  · rw [hops.out]; unfold opsRB; simp only [List.getElem?_toArray, List.getElem?_cons_succ, List.getElem?_cons_zero]; rfl
  · rw [hops.out]; kernel_rfl
  · intro W hW; obtain ⟨g1, g2⟩ := hW; go_simp <;> with_reducible rfl
  · exact fun c _ w h => hpan c _ _ w h
  try simp only [Act.put, List.setIfInBounds_toArray, List.set_cons_zero, List.set_cons_succ]
  refine take_do 7 (oi := ?_) (v := ?_) ?_ (by rw [hops.out]; kernel_rfl) ?_ ?_ ?_ hS ?_
  rotate_left 2
  · rw [hops.out]; unfold opsRB; simp only [List.getElem?_toArray, List.getElem?_cons_succ, List.getElem?_cons_zero]; rfl
  · rw [hops.out]; kernel_rfl
  · intro W hW; obtain ⟨g1, g2⟩ := hW; go_simp <;> with_reducible rfl
  · exact fun c _ w h => hpan c _ _ w h
  try simp only [Act.put, List.setIfInBounds_toArray, List.set_cons_zero, List.set_cons_succ]
  refine take_do 8 (oi := ?_) (v := ?_) ?_ (by rw [hops.out]; kernel_rfl) ?_ ?_ ?_ hS ?_
  rotate_left 2
  · rw [hops.out]; unfold opsRB; simp only [List.getElem?_toArray, List.getElem?_cons_succ, List.getElem?_cons_zero]; rfl
  · rw [hops.out]; kernel_rfl
  · intro W hW; obtain ⟨g1, g2⟩ := hW; go_simp <;> with_reducible rfl
  · exact fun c _ w h => hpan c _ _ w h
  try simp only [Act.put, List.setIfInBounds_toArray, List.set_cons_zero, List.set_cons_succ]
  refine take_do 9 (oi := ?_) (v := ?_) ?_ (by rw [hops.out]; kernel_rfl) ?_ ?_ ?_ hS ?_
  rotate_left 2
  · rw [hops.out]; unfold opsRB; simp only [List.getElem?_toArray, List.getElem?_cons_succ, List.getElem?_cons_zero]; rfl
  · rw [hops.out]; kernel_rfl
  · intro W hW; obtain ⟨g1, g2⟩ := hW; go_simp <;> with_reducible rfl
  · exact fun c _ w h => hpan c _ _ w h
  try simp only [Act.put, List.setIfInBounds_toArray, List.set_cons_zero, List.set_cons_succ]
  refine take_do 10 (oi := ?_) (v := ?_) ?_ (by rw [hops.out]; kernel_rfl) ?_ ?_ ?_ hS ?_
  rotate_left 2
  · rw [hops.out]; unfold opsRB; simp only [List.getElem?_toArray, List.getElem?_cons_succ, List.getElem?_cons_zero]; rfl
  · rw [hops.out]; kernel_rfl
  · intro W hW; obtain ⟨g1, g2⟩ := hW; go_simp <;> with_reducible rfl
  · exact fun c _ w h => hpan c _ _ w h
  try simp only [Act.put, List.setIfInBounds_toArray, List.set_cons_zero, List.set_cons_succ]
  refine take_do 12 (oi := ?_) (v := ?_) ?_ (by rw [hops.out]; kernel_rfl) ?_ ?_ ?_ hS ?_
  rotate_left 2
  · rw [hops.out]; unfold opsRB; simp only [List.getElem?_toArray, List.getElem?_cons_succ, List.getElem?_cons_zero]; rfl
  · rw [hops.out]; kernel_rfl
  · intro W hW; obtain ⟨g1, g2⟩ := hW; go_simp <;> with_reducible rfl
  · exact fun c _ w h => hpan c _ _ w h
  try simp only [Act.put, List.setIfInBounds_toArray, List.set_cons_zero, List.set_cons_succ]
  refine wpAnyH_ready (rs := [11]) (by rw [hops.out]; kernel_rfl) (by simp) ?_
  refine AllReadyH.cons (o := ?_) ?_ (fun K hK => ?_) ?_
  rotate_left 1
  · rw [hops.out]; unfold opsRB; simp only [List.getElem?_toArray, List.getElem?_cons_succ, List.getElem?_cons_zero]; rfl
  · rw [if_pos (by rfl)]
    go_simp
    refine hK.out _ _ hS (fun _ => ?_)
    exact h11
  exact AllReadyH.nil
end Go.Proofs.Ytbknmgobmnjphaa
namespace Go.Proofs.Ytbknmgobmnjphaa
open Go.RowKit

theorem encW_one (x : WayD) (a : Option Addr) (n c : Nat) : ∀ u ∈ encW (x, .slice a n c), u.oneCell' = true := by
  intro u hu
  simp only [encW, List.mem_cons, List.not_mem_nil, or_false] at hu
  rcases hu with rfl | rfl | rfl <;> rfl

theorem hop_row_ne {W : World} {lo lo2 hi n size2 : Nat} {v : Value} {xs : List Value} {q : WP} (hq : HopOwn W lo hi q) (hr : W.ownsRow lo2 79 size2 v n xs) (j : Nat) (hj : q.2.ownBlock = some j) : some j ≠ v.ownBlock := by
  intro e
  rcases hr.2 with ⟨h0, _⟩ | ⟨g, cap, cur, hv, _, hh, _⟩
  · rw [h0] at e; simp [Value.ownBlock] at e
  · rw [hv] at e
    simp [Value.ownBlock] at e
    subst e
    exact own_type_ne2 hq.1 hh (by decide) hj.symm

/-- one more way, its row behind all that was there -/
theorem WaysOwn.push {W Wa W2 : World} {lo : Nat} {v v' : Value} {qs : List WP} {p : WP} (h : WaysOwn W lo W.heap.size v qs) (hb : Below W.heap.size W Wa) (hlo : lo ≤ W.heap.size) (hp : HopOwn Wa W.heap.size Wa.heap.size p)
    (row : W2.ownsRow lo 79 3 v' (qs.length + 1) (flat encW (qs ++ [p]))) (hg : Wa.grownBy W2 v.ownBlock) : WaysOwn W2 lo W2.heap.size v' (qs ++ [p]) where
  row := by simpa using row
  top := fun k hk => (row.lt k hk).2
  apart := apartW_add h.apart h.nears (fun k hk => (hp.1.lt k hk).1)
  nears := by
    have rowa := owns_below h.row hb (Nat.le_refl _)
    have key : ∀ q, HopOwn Wa lo Wa.heap.size q → HopOwn W2 lo W2.heap.size q := fun q hq =>
      ⟨owns_keepB hq.1 (fun j hj => hg.block j (hq.2 j hj) (hop_row_ne hq rowa j hj)), fun k hk => Nat.lt_of_lt_of_le (hq.2 k hk) hg.size⟩
    intro q hq
    rcases List.mem_append.1 hq with h1 | h1
    · exact key q (((h.nears q h1).keep (W' := Wa) (fun j _ h2 _ => hb.block j h2)).wide (Nat.le_refl _) hb.size)
    · have : q = p := by simpa using h1
      subst this
      exact key q (hp.wide hlo (Nat.le_refl _))
end Go.Proofs.Ytbknmgobmnjphaa
namespace Go.Proofs.Ytbknmgobmnjphaa
open Go.RowKit

theorem append_struct6 {α : Type} {enc : α → List Value} {sz bytes : Nat} (hlen : ∀ a, (enc a).length = sz) (hpos : 0 < sz) (hbb : bytes ≤ 100) {P : Program} (w : World) {ops : Array Oper} {rest : List Oper} {o : Oper} {a : Act} {Q : Exit → Act → World → Prop} (hgd : o.guard = none) (s x : Operand) (t : TypeId)
    (ho : o.op = .call { callee := .builtin .append, args := #[s, x], argTypes := #[t, t] }) (base : Nat) (e : TypeId) (ht : P.underlying t = some (.slice e)) (zv : Value) (hzv : zv.cells.size = sz)
    (hinfo : (P.info? e).map (fun i => (i.zero, i.size, i.bytes)) = some (some zv, sz, bytes))
    (v : Value) (l : List α) (y : α) (hone : ∀ u ∈ enc y, u.oneCell' = true) (hs : a.eval s = v) (hown : w.ownsRow base e sz v l.length (flat enc l))
    (ad : Addr) (c : Nat) (hx : a.eval x = .slice (some ad) 1 c) (hnews : ∀ j u, (enc y)[j]? = some u → w.cell? (ad.add j) = some u)
    (hl : l.length + 1 ≤ 1000000000) (hbase : base ≤ w.heap.size)
    (h : ∀ v' w', w'.ownsRow base e sz v' (l ++ [y]).length (flat enc (l ++ [y])) → w.grownBy w' v.ownBlock → (v'.ownBlock = v.ownBlock ∨ v'.ownBlock = some w.heap.size) → wpList P ops Q rest (a.put o.dst v') w') : wpList P ops Q (o :: rest) a w := by
  obtain ⟨i0, hi, hz0, hz1, hz2⟩ := info_parts hinfo
  refine wpList_append_own_at w hgd s x t ho base e i0 zv sz bytes ht hi hz0 hz1 hz2 hzv hpos v l.length (flat enc l) hs hown ad 1 c (enc y) hx (by rw [hlen]; omega) hnews hone (by unfold maxLen; omega) ?_ hbase ?_
  · have : (l.length + 1) * bytes ≤ 1000000000 * 100 := Nat.mul_le_mul hl hbb
    omega
  · intro v' w' h1 h2 _ h4
    have e1 : flat enc l ++ enc y = flat enc (l ++ [y]) := by rw [flat_append]; simp [flat]
    rw [e1] at h1
    exact h v' w' (by simpa using h1) h2 h4
end Go.Proofs.Ytbknmgobmnjphaa
