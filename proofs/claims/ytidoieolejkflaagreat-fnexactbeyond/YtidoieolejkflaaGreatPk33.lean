/-
  The drawn region of spec.RoutesBeyond, in every order.
  What is beyond: the sets of ways that records tell of.
-/
import Derived.Test.YtidoieolejkflaaGreatPk5
import Derived.Test.YtidoieolejkflaaGreatPk7
import Derived.Test.YtidoieolejkflaaGreatPk15
namespace Go.Proofs.YtidoieolejkflaaGreat
open Go.RowKit

set_option linter.unusedSimpArgs false

def opsRB : Array Oper := #[{ dst := some 72, op := Op.move (Operand.tmp 0), type := 31, pos := "l07_route.go:75", after := #[], guard := none }, { dst := some 73, op := Op.move (Operand.tmp 11), type := 114, pos := "l07_route.go:75", after := #[], guard := none }, { dst := some 74, op := Op.move (Operand.tmp 18), type := 3, pos := "l07_route.go:75", after := #[], guard := none }, { dst := some 75, op := Op.indexAddr 114 (Operand.tmp 73) (Operand.tmp 74), type := 0, pos := "l07_route.go:75", after := #[{ on := 1, ground := Ground.data }, { on := 2, ground := Ground.data }], guard := none }, { dst := some 76, op := Op.load 39 (Operand.tmp 75), type := 39, pos := "l07_route.go:75", after := #[{ on := 3, ground := Ground.data }], guard := none }, { dst := some 77, op := Op.move (Operand.tmp 1), type := 34, pos := "l07_route.go:75", after := #[], guard := none }, { dst := some 78, op := Op.move (Operand.tmp 18), type := 3, pos := "l07_route.go:75", after := #[], guard := none }, { dst := some 79, op := Op.indexAddr 34 (Operand.tmp 77) (Operand.tmp 78), type := 0, pos := "l07_route.go:75", after := #[{ on := 5, ground := Ground.data }, { on := 6, ground := Ground.data }], guard := none }, { dst := some 80, op := Op.load 3 (Operand.tmp 79), type := 3, pos := "l07_route.go:75", after := #[{ on := 7, ground := Ground.data }], guard := none }, { dst := some 81, op := Op.move (Operand.tmp 3), type := 3, pos := "l07_route.go:75", after := #[], guard := none }, { dst := some 82, op := Op.move (Operand.tmp 13), type := 3, pos := "l07_route.go:75", after := #[], guard := none }, { dst := some 83, op := Op.load 46 (Operand.tmp 16), type := 46, pos := "l07_route.go:75", after := #[], guard := none }, { dst := some 84, op := Op.move (Operand.tmp 17), type := 4, pos := "l07_route.go:75", after := #[], guard := none }, { dst := some 85, op := Op.call { callee := Callee.value (Operand.func 82), args := #[Operand.tmp 72, Operand.tmp 76, Operand.tmp 80, Operand.tmp 81, Operand.tmp 82, Operand.tmp 83, Operand.tmp 84], argTypes := #[31, 39, 3, 3, 3, 46, 4] }, type := 47, pos := "l07_route.go:75", after := #[{ on := 0, ground := Ground.data }, { on := 4, ground := Ground.data }, { on := 8, ground := Ground.data }, { on := 9, ground := Ground.data }, { on := 10, ground := Ground.data }, { on := 11, ground := Ground.data }, { on := 12, ground := Ground.data }], guard := none }, { dst := some 71, op := Op.move (Operand.tmp 85), type := 47, pos := "l07_route.go:75", after := #[{ on := 13, ground := Ground.data }], guard := none }, { dst := some 86, op := Op.extract (Operand.tmp 71) 0, type := 46, pos := "l07_route.go:75", after := #[{ on := 14, ground := Ground.data }], guard := none }, { dst := some 87, op := Op.extract (Operand.tmp 71) 1, type := 4, pos := "l07_route.go:75", after := #[{ on := 14, ground := Ground.data }, { on := 17, ground := Ground.gcOnly Departure.lateStores }], guard := none }, { dst := none, op := Op.store 46 (Operand.tmp 16) (Operand.tmp 86), type := 0, pos := "l07_route.go:75", after := #[{ on := 15, ground := Ground.data }, { on := 13, ground := Ground.chain }, { on := 0, ground := Ground.phase }, { on := 1, ground := Ground.phase }, { on := 2, ground := Ground.phase }, { on := 3, ground := Ground.phase }, { on := 4, ground := Ground.phase }, { on := 5, ground := Ground.phase }, { on := 6, ground := Ground.phase }, { on := 7, ground := Ground.phase }, { on := 8, ground := Ground.phase }, { on := 9, ground := Ground.phase }, { on := 10, ground := Ground.phase }, { on := 11, ground := Ground.phase }, { on := 12, ground := Ground.phase }, { on := 13, ground := Ground.phase }, { on := 14, ground := Ground.phase }, { on := 15, ground := Ground.phase }, { on := 16, ground := Ground.textOnly Departure.lateStores }], guard := none }, { dst := some 17, op := Op.assign (Operand.tmp 87), type := 4, pos := "l07_route.go:75", after := #[{ on := 16, ground := Ground.data }, { on := 17, ground := Ground.chain }, { on := 0, ground := Ground.phase }, { on := 1, ground := Ground.phase }, { on := 2, ground := Ground.phase }, { on := 3, ground := Ground.phase }, { on := 4, ground := Ground.phase }, { on := 5, ground := Ground.phase }, { on := 6, ground := Ground.phase }, { on := 7, ground := Ground.phase }, { on := 8, ground := Ground.phase }, { on := 9, ground := Ground.phase }, { on := 10, ground := Ground.phase }, { on := 11, ground := Ground.phase }, { on := 12, ground := Ground.phase }, { on := 13, ground := Ground.phase }, { on := 14, ground := Ground.phase }, { on := 15, ground := Ground.phase }, { on := 16, ground := Ground.phase }, { on := 17, ground := Ground.phase }], guard := none }]

theorem putW3_cell (W : World) (z : Nat) (q : WayD) (u : Value) (b j : Nat) (h : b ≠ z) : (putW3 W z q u).cell? ⟨b, j, none⟩ = W.cell? ⟨b, j, none⟩ := by
  have e : (putW3 W z q u).heap[b]? = W.heap[b]? := by
    unfold putW3
    rw [heap_setCell_other _ ⟨z, 2, none⟩ _ _ h, heap_setCell_other _ ⟨z, 1, none⟩ _ _ h, heap_setCell_other _ ⟨z, 0, none⟩ _ _ h]
  simp only [World.cell?, e]

set_option maxRecDepth 100000 in
set_option maxHeartbeats 2000000 in
theorem bey_dag (t2 t4 t5 t6 t7 t8 t9 t10 t12 t14 t15 t19 t20 t21 t22 t23 t24 t25 t26 t27 t28 t29 t30 t31 t32 t33 t34 t35 t36 t37 t38 t39 t40 t41 t42 t43 t44 t45 t46 t47 t48 t49 t50 t51 t52 t53 t54 t55 t56 t57 t58 t59 t60 t61 t62 t63 t64 t65 t66 t67 t68 t69 t70 t71 t72 t73 t74 t75 t76 t77 t78 t79 t80 t81 t82 t83 t84 t85 t86 t87 t88 t89 t90 t91 t92 t93 : Value) (W0 : World) (rv wv fv0 : Value) (g n cap b off m acap z k : Nat) (area src to : Int) (x : WayD) (xa : Option Addr) (xl xc : Nat) (RR : World → WayD → Value → Value → Prop) (Q : Exit → Act → World → Prop) (ops : Array Oper) (hops : Hid (ops = opsRB)) (hpan : ∀ c a1 a2 w, Q (.panic c) a1 w → Q (.panic c) a2 w)
    (hk0 : (0 : Int) ≤ (k : Int)) (hkn : (k : Int) < (n : Int)) (hkm : (k : Int) < (m : Int))
    (hS : (fun W => W.cell? ⟨g, k, none⟩ = some wv ∧ W.cell? ⟨b, off + k, none⟩ = some (.int .i64 area)) W0)
    (d0 : W0.cell? ⟨z, 0, none⟩ = some (.int .i64 x.to)) (d1 : W0.cell? ⟨z, 1, none⟩ = some (.int .i64 x.cost)) (d2 : W0.cell? ⟨z, 2, none⟩ = some (.slice xa xl xc))
    (hgz : g ≠ z) (hbz : b ≠ z)
    (HT : Hid (Calls Tryz.prog 82 #[rv, wv, .int .i64 area, .int .i64 src, .int .i64 to, .agg #[.int .i64 x.to, .int .i64 x.cost, .slice xa xl xc], fv0] W0 fun e w' => ∃ (q : WayD) (ua : Option Addr) (ul uc : Nat) (fv : Value), e = .returned (.tuple #[.agg #[.int .i64 q.to, .int .i64 q.cost, .slice ua ul uc], fv]) ∧ RR w' q (.slice ua ul uc) fv))
    (hSR : ∀ W q u fv, RR W q u fv → (fun W => W.cell? ⟨g, k, none⟩ = some wv ∧ W.cell? ⟨b, off + k, none⟩ = some (.int .i64 area)) W)
    (hcell : ∀ W q u fv, RR W q u fv → ∃ y0 y1 y2, W.cell? ⟨z, 0, none⟩ = some y0 ∧ W.cell? ⟨z, 1, none⟩ = some y1 ∧ W.cell? ⟨z, 2, none⟩ = some y2)
    (hfz : ∀ W q u fv, RR W q u fv → ∀ j, W.frozen? ⟨z, j, none⟩ = false)
    (hend : ∀ (W : World) (q : WayD) ua ul uc fv, RR W q (.slice ua ul uc) fv → Q .normal { tmps := #[rv, .slice (some ⟨b, off, none⟩) m acap, t2, .int .i64 src, t4, t5, t6, t7, t8, t9, t10, .slice (some ⟨g, 0, none⟩) n cap, t12, .int .i64 to, t14, t15, .pointer (some ⟨z, 0, none⟩), fv, .int .i64 (k : Int), t19, t20, t21, t22, t23, t24, t25, t26, t27, t28, t29, t30, t31, t32, t33, t34, t35, t36, t37, t38, t39, t40, t41, t42, t43, t44, t45, t46, t47, t48, t49, t50, t51, t52, t53, t54, t55, t56, t57, t58, t59, t60, t61, t62, t63, t64, t65, t66, t67, t68, t69, t70, .tuple #[.agg #[.int .i64 q.to, .int .i64 q.cost, .slice ua ul uc], fv], rv, .slice (some ⟨g, 0, none⟩) n cap, .int .i64 (k : Int), .pointer (some ⟨g, k, none⟩), wv, .slice (some ⟨b, off, none⟩) m acap, .int .i64 (k : Int), .pointer (some ⟨b, off + k, none⟩), .int .i64 area, .int .i64 src, .int .i64 to, .agg #[.int .i64 x.to, .int .i64 x.cost, .slice xa xl xc], fv0, .tuple #[.agg #[.int .i64 q.to, .int .i64 q.cost, .slice ua ul uc], fv], .agg #[.int .i64 q.to, .int .i64 q.cost, .slice ua ul uc], fv, t88, t89, t90, t91, t92, t93], defers := [] } (putW3 W z q (.slice ua ul uc))) :
    wpAnyH Tryz.prog .any ops Q (fun W => W.cell? ⟨g, k, none⟩ = some wv ∧ W.cell? ⟨b, off + k, none⟩ = some (.int .i64 area)) 19 (Array.replicate 19 false) { tmps := #[rv, .slice (some ⟨b, off, none⟩) m acap, t2, .int .i64 src, t4, t5, t6, t7, t8, t9, t10, .slice (some ⟨g, 0, none⟩) n cap, t12, .int .i64 to, t14, t15, .pointer (some ⟨z, 0, none⟩), fv0, .int .i64 (k : Int), t19, t20, t21, t22, t23, t24, t25, t26, t27, t28, t29, t30, t31, t32, t33, t34, t35, t36, t37, t38, t39, t40, t41, t42, t43, t44, t45, t46, t47, t48, t49, t50, t51, t52, t53, t54, t55, t56, t57, t58, t59, t60, t61, t62, t63, t64, t65, t66, t67, t68, t69, t70, t71, t72, t73, t74, t75, t76, t77, t78, t79, t80, t81, t82, t83, t84, t85, t86, t87, t88, t89, t90, t91, t92, t93], defers := [] } W0 := by
  have h13 : ∀ W (q : WayD) ua ul uc fv, RR W q (.slice ua ul uc) fv → wpAnyH Tryz.prog .any ops Q (fun W => W.cell? ⟨g, k, none⟩ = some wv ∧ W.cell? ⟨b, off + k, none⟩ = some (.int .i64 area)) 5 #[true, true, true, true, true, true, true, true, true, true, true, true, true, true, false, false, false, false, false] { tmps := #[rv, .slice (some ⟨b, off, none⟩) m acap, t2, .int .i64 src, t4, t5, t6, t7, t8, t9, t10, .slice (some ⟨g, 0, none⟩) n cap, t12, .int .i64 to, t14, t15, .pointer (some ⟨z, 0, none⟩), fv0, .int .i64 (k : Int), t19, t20, t21, t22, t23, t24, t25, t26, t27, t28, t29, t30, t31, t32, t33, t34, t35, t36, t37, t38, t39, t40, t41, t42, t43, t44, t45, t46, t47, t48, t49, t50, t51, t52, t53, t54, t55, t56, t57, t58, t59, t60, t61, t62, t63, t64, t65, t66, t67, t68, t69, t70, t71, rv, .slice (some ⟨g, 0, none⟩) n cap, .int .i64 (k : Int), .pointer (some ⟨g, k, none⟩), wv, .slice (some ⟨b, off, none⟩) m acap, .int .i64 (k : Int), .pointer (some ⟨b, off + k, none⟩), .int .i64 area, .int .i64 src, .int .i64 to, .agg #[.int .i64 x.to, .int .i64 x.cost, .slice xa xl xc], fv0, .tuple #[.agg #[.int .i64 q.to, .int .i64 q.cost, .slice ua ul uc], fv], t86, t87, t88, t89, t90, t91, t92, t93], defers := [] } W := by
    intro W q ua ul uc fv hr
    have hS := hSR W _ _ _ hr
    obtain ⟨y0, y1, y2, f0, f1, f2⟩ := hcell W _ _ _ hr
    have fz := hfz W _ _ _ hr
    refine take_do 14 (oi := ?_) (v := ?_) ?_ (by rw [hops.out]; kernel_rfl) ?_ ?_ ?_ hS ?_
    rotate_left 2
    · rw [hops.out]; unfold opsRB; simp only [List.getElem?_toArray, List.getElem?_cons_succ, List.getElem?_cons_zero]; rfl
    · rw [hops.out]; kernel_rfl
    · intro W hW; obtain ⟨g1, g2⟩ := hW; go_simp <;> with_reducible rfl
    · exact fun c _ w h => hpan c _ _ w h
    try simp only [Act.put, List.setIfInBounds_toArray, List.set_cons_zero, List.set_cons_succ]
    refine take_do 15 (oi := ?_) (v := ?_) ?_ (by rw [hops.out]; kernel_rfl) ?_ ?_ ?_ hS ?_
    rotate_left 2
    · rw [hops.out]; unfold opsRB; simp only [List.getElem?_toArray, List.getElem?_cons_succ, List.getElem?_cons_zero]; rfl
    · rw [hops.out]; kernel_rfl
    · intro W hW; obtain ⟨g1, g2⟩ := hW; go_simp <;> with_reducible rfl
    · exact fun c _ w h => hpan c _ _ w h
    try simp only [Act.put, List.setIfInBounds_toArray, List.set_cons_zero, List.set_cons_succ]
    refine take_do 16 (oi := ?_) (v := ?_) ?_ (by rw [hops.out]; kernel_rfl) ?_ ?_ ?_ hS ?_
    rotate_left 2
    · rw [hops.out]; unfold opsRB; simp only [List.getElem?_toArray, List.getElem?_cons_succ, List.getElem?_cons_zero]; rfl
    · rw [hops.out]; kernel_rfl
    · intro W hW; obtain ⟨g1, g2⟩ := hW; go_simp <;> with_reducible rfl
    · exact fun c _ w h => hpan c _ _ w h
    try simp only [Act.put, List.setIfInBounds_toArray, List.set_cons_zero, List.set_cons_succ]
    refine wpAnyH_ready (rs := [17]) (by rw [hops.out]; kernel_rfl) (by simp) ?_
    refine AllReadyH.cons (o := ?_) ?_ (fun K hK => ?_) ?_
    rotate_left 1
    · rw [hops.out]; unfold opsRB; simp only [List.getElem?_toArray, List.getElem?_cons_succ, List.getElem?_cons_zero]; rfl
    · rw [if_pos (by rfl)]
      go_simp
      have hS2 : (fun W => W.cell? ⟨g, k, none⟩ = some wv ∧ W.cell? ⟨b, off + k, none⟩ = some (.int .i64 area)) (putW3 W z q (.slice ua ul uc)) := by
        refine ⟨?_, ?_⟩
        · show (putW3 W z q (.slice ua ul uc)).cell? _ = _
          rw [putW3_cell W z q _ _ _ hgz]; exact hS.1
        · show (putW3 W z q (.slice ua ul uc)).cell? _ = _
          rw [putW3_cell W z q _ _ _ hbz]; exact hS.2
      refine hK.out _ _ hS2 (fun _ => ?_)
      refine wpAnyH_ready (rs := [18]) (by rw [hops.out]; kernel_rfl) (by simp) ?_
      refine AllReadyH.cons (o := ?_) ?_ (fun K hK => ?_) ?_
      rotate_left 1
      · rw [hops.out]; unfold opsRB; simp only [List.getElem?_toArray, List.getElem?_cons_succ, List.getElem?_cons_zero]; rfl
      · rw [if_pos (by rfl)]
        go_simp
        refine hK.out _ _ hS2 (fun _ => ?_)
        refine wpAnyH_done (by rw [hops.out]; kernel_rfl) ?_ _
        exact hend W q ua ul uc fv hr
      exact AllReadyH.nil
    exact AllReadyH.nil
  have h11 : wpAnyH Tryz.prog .any ops Q (fun W => W.cell? ⟨g, k, none⟩ = some wv ∧ W.cell? ⟨b, off + k, none⟩ = some (.int .i64 area)) 6 #[true, true, true, true, true, true, true, true, true, true, true, true, true, false, false, false, false, false, false] { tmps := #[rv, .slice (some ⟨b, off, none⟩) m acap, t2, .int .i64 src, t4, t5, t6, t7, t8, t9, t10, .slice (some ⟨g, 0, none⟩) n cap, t12, .int .i64 to, t14, t15, .pointer (some ⟨z, 0, none⟩), fv0, .int .i64 (k : Int), t19, t20, t21, t22, t23, t24, t25, t26, t27, t28, t29, t30, t31, t32, t33, t34, t35, t36, t37, t38, t39, t40, t41, t42, t43, t44, t45, t46, t47, t48, t49, t50, t51, t52, t53, t54, t55, t56, t57, t58, t59, t60, t61, t62, t63, t64, t65, t66, t67, t68, t69, t70, t71, rv, .slice (some ⟨g, 0, none⟩) n cap, .int .i64 (k : Int), .pointer (some ⟨g, k, none⟩), wv, .slice (some ⟨b, off, none⟩) m acap, .int .i64 (k : Int), .pointer (some ⟨b, off + k, none⟩), .int .i64 area, .int .i64 src, .int .i64 to, .agg #[.int .i64 x.to, .int .i64 x.cost, .slice xa xl xc], fv0, t85, t86, t87, t88, t89, t90, t91, t92, t93], defers := [] } W0 := by
    refine wpAnyH_ready (rs := [13]) (by rw [hops.out]; kernel_rfl) (by simp) ?_
    refine AllReadyH.cons (o := ?_) ?_ (fun K hK => ?_) ?_
    rotate_left 1
    · rw [hops.out]; unfold opsRB; simp only [List.getElem?_toArray, List.getElem?_cons_succ, List.getElem?_cons_zero]; rfl
    · rw [if_pos (by rfl)]
      go_simp
      refine HT.out.mono ?_
      rintro e w2 ⟨q, ua, ul, uc, fv, rfl, hr⟩
      refine hK.out _ _ (hSR w2 _ _ _ hr) (fun _ => ?_)
      exact h13 w2 q ua ul uc fv hr
    exact AllReadyH.nil
  show wpAnyH Tryz.prog .any ops Q (fun W => W.cell? ⟨g, k, none⟩ = some wv ∧ W.cell? ⟨b, off + k, none⟩ = some (.int .i64 area)) 19 #[false, false, false, false, false, false, false, false, false, false, false, false, false, false, false, false, false, false, false] _ W0
  refine take_do 0 (oi := ?_) (v := ?_) ?_ (by rw [hops.out]; kernel_rfl) ?_ ?_ ?_ hS ?_
  rotate_left 2
  · rw [hops.out]; unfold opsRB; simp only [List.getElem?_toArray, List.getElem?_cons_succ, List.getElem?_cons_zero]; rfl
  · rw [hops.out]; kernel_rfl
  · intro W hW; obtain ⟨g1, g2⟩ := hW; go_simp <;> with_reducible rfl
  · exact fun c _ w h => hpan c _ _ w h
  try simp only [Act.put, List.setIfInBounds_toArray, List.set_cons_zero, List.set_cons_succ]
  refine take_do 1 (oi := ?_) (v := ?_) ?_ (by rw [hops.out]; kernel_rfl) ?_ ?_ ?_ hS ?_
  rotate_left 2
  · rw [hops.out]; unfold opsRB; simp only [List.getElem?_toArray, List.getElem?_cons_succ, List.getElem?_cons_zero]; rfl
  · rw [hops.out]; kernel_rfl
  · intro W hW; obtain ⟨g1, g2⟩ := hW; go_simp <;> with_reducible rfl
  · exact fun c _ w h => hpan c _ _ w h
  try simp only [Act.put, List.setIfInBounds_toArray, List.set_cons_zero, List.set_cons_succ]
  refine take_do 2 (oi := ?_) (v := ?_) ?_ (by rw [hops.out]; kernel_rfl) ?_ ?_ ?_ hS ?_
  rotate_left 2
  · rw [hops.out]; unfold opsRB; simp only [List.getElem?_toArray, List.getElem?_cons_succ, List.getElem?_cons_zero]; rfl
  · rw [hops.out]; kernel_rfl
  · intro W hW; obtain ⟨g1, g2⟩ := hW; go_simp <;> with_reducible rfl
  · exact fun c _ w h => hpan c _ _ w h
  try simp only [Act.put, List.setIfInBounds_toArray, List.set_cons_zero, List.set_cons_succ]
  refine take_do 3 (oi := ?_) (v := ?_) ?_ (by rw [hops.out]; kernel_rfl) ?_ ?_ ?_ hS ?_
  rotate_left 2
  · rw [hops.out]; unfold opsRB; simp only [List.getElem?_toArray, List.getElem?_cons_succ, List.getElem?_cons_zero]; rfl
  · rw [hops.out]; kernel_rfl
  · intro W hW; obtain ⟨g1, g2⟩ := hW; go_simp <;> with_reducible rfl
  · exact fun c _ w h => hpan c _ _ w h
  try simp only [Act.put, List.setIfInBounds_toArray, List.set_cons_zero, List.set_cons_succ]
  refine take_do 4 (oi := ?_) (v := ?_) ?_ (by rw [hops.out]; kernel_rfl) ?_ ?_ ?_ hS ?_
  rotate_left 2
  · rw [hops.out]; unfold opsRB; simp only [List.getElem?_toArray, List.getElem?_cons_succ, List.getElem?_cons_zero]; rfl
  · rw [hops.out]; kernel_rfl
  · intro W hW; obtain ⟨g1, g2⟩ := hW; go_simp <;> with_reducible rfl
  · exact fun c _ w h => hpan c _ _ w h
  try simp only [Act.put, List.setIfInBounds_toArray, List.set_cons_zero, List.set_cons_succ]
  refine take_do 5 (oi := ?_) (v := ?_) ?_ (by rw [hops.out]; kernel_rfl) ?_ ?_ ?_ hS ?_
  rotate_left 2
  · rw [hops.out]; unfold opsRB; simp only [List.getElem?_toArray, List.getElem?_cons_succ, List.getElem?_cons_zero]; rfl
  · rw [hops.out]; kernel_rfl
  · intro W hW; obtain ⟨g1, g2⟩ := hW; go_simp <;> with_reducible rfl
  · exact fun c _ w h => hpan c _ _ w h
  try simp only [Act.put, List.setIfInBounds_toArray, List.set_cons_zero, List.set_cons_succ]
  refine take_do 6 (oi := ?_) (v := ?_) ?_ (by rw [hops.out]; kernel_rfl) ?_ ?_ ?_ hS ?_
  rotate_left 2
  · rw [hops.out]; unfold opsRB; simp only [List.getElem?_toArray, List.getElem?_cons_succ, List.getElem?_cons_zero]; rfl
  · rw [hops.out]; kernel_rfl
  · intro W hW; obtain ⟨g1, g2⟩ := hW; go_simp <;> with_reducible rfl
  · exact fun c _ w h => hpan c _ _ w h
  try simp only [Act.put, List.setIfInBounds_toArray, List.set_cons_zero, List.set_cons_succ]
  refine take_do 7 (oi := ?_) (v := ?_) ?_ (by rw [hops.out]; kernel_rfl) ?_ ?_ ?_ hS ?_
  rotate_left 2
  · rw [hops.out]; unfold opsRB; simp only [List.getElem?_toArray, List.getElem?_cons_succ, List.getElem?_cons_zero]; rfl
  · rw [hops.out]; kernel_rfl
  · intro W hW; obtain ⟨g1, g2⟩ := hW; go_simp <;> with_reducible rfl
  · exact fun c _ w h => hpan c _ _ w h
  try simp only [Act.put, List.setIfInBounds_toArray, List.set_cons_zero, List.set_cons_succ]
  refine take_do 8 (oi := ?_) (v := ?_) ?_ (by rw [hops.out]; kernel_rfl) ?_ ?_ ?_ hS ?_
  rotate_left 2
  · rw [hops.out]; unfold opsRB; simp only [List.getElem?_toArray, List.getElem?_cons_succ, List.getElem?_cons_zero]; rfl
  · rw [hops.out]; kernel_rfl
  · intro W hW; obtain ⟨g1, g2⟩ := hW; go_simp <;> with_reducible rfl
  · exact fun c _ w h => hpan c _ _ w h
  try simp only [Act.put, List.setIfInBounds_toArray, List.set_cons_zero, List.set_cons_succ]
  refine take_do 9 (oi := ?_) (v := ?_) ?_ (by rw [hops.out]; kernel_rfl) ?_ ?_ ?_ hS ?_
  rotate_left 2
  · rw [hops.out]; unfold opsRB; simp only [List.getElem?_toArray, List.getElem?_cons_succ, List.getElem?_cons_zero]; rfl
  · rw [hops.out]; kernel_rfl
  · intro W hW; obtain ⟨g1, g2⟩ := hW; go_simp <;> with_reducible rfl
  · exact fun c _ w h => hpan c _ _ w h
  try simp only [Act.put, List.setIfInBounds_toArray, List.set_cons_zero, List.set_cons_succ]
  refine take_do 10 (oi := ?_) (v := ?_) ?_ (by rw [hops.out]; kernel_rfl) ?_ ?_ ?_ hS ?_
  rotate_left 2
  · rw [hops.out]; unfold opsRB; simp only [List.getElem?_toArray, List.getElem?_cons_succ, List.getElem?_cons_zero]; rfl
  · rw [hops.out]; kernel_rfl
  · intro W hW; obtain ⟨g1, g2⟩ := hW; go_simp <;> with_reducible rfl
  · exact fun c _ w h => hpan c _ _ w h
  try simp only [Act.put, List.setIfInBounds_toArray, List.set_cons_zero, List.set_cons_succ]
  refine take_do 12 (oi := ?_) (v := ?_) ?_ (by rw [hops.out]; kernel_rfl) ?_ ?_ ?_ hS ?_
  rotate_left 2
  · rw [hops.out]; unfold opsRB; simp only [List.getElem?_toArray, List.getElem?_cons_succ, List.getElem?_cons_zero]; rfl
  · rw [hops.out]; kernel_rfl
  · intro W hW; obtain ⟨g1, g2⟩ := hW; go_simp <;> with_reducible rfl
  · exact fun c _ w h => hpan c _ _ w h
  try simp only [Act.put, List.setIfInBounds_toArray, List.set_cons_zero, List.set_cons_succ]
  refine wpAnyH_ready (rs := [11]) (by rw [hops.out]; kernel_rfl) (by simp) ?_
  refine AllReadyH.cons (o := ?_) ?_ (fun K hK => ?_) ?_
  rotate_left 1
  · rw [hops.out]; unfold opsRB; simp only [List.getElem?_toArray, List.getElem?_cons_succ, List.getElem?_cons_zero]; rfl
  · rw [if_pos (by rfl)]
    go_simp
    refine hK.out _ _ hS (fun _ => ?_)
    exact h11
  exact AllReadyH.nil
end Go.Proofs.YtidoieolejkflaaGreat
namespace Go.Proofs.YtidoieolejkflaaGreat
open Go.RowKit

/-- what a record of an area tells of beyond -/
def tellsOf (xs : List RecD) (area src : Int) (r : RecD) (d : WayD) : Prop :=
  r.kind = 2 ∧ r.area = area ∧ r.owner ≠ src ∧ ∃ v, findW (waysD xs area src) r.owner = some v ∧ v.cost + r.cost < 60000 ∧ d = ⟨r.key, v.cost + r.cost, v.hops⟩

/-- a way beyond an area to a node, by the records rs -/
def outS (xs rs : List RecD) (area src to : Int) (d : WayD) : Prop := d.to = to ∧ ∃ r ∈ rs, tellsOf xs area src r d

theorem rec_beyond {xs : List RecD} {r : RecD} (hs : storeB xs = true) (hr : r ∈ xs) (hk : r.kind = 2) : (1 ≤ r.key ∧ r.key ≤ 6) ∧ (0 ≤ r.cost ∧ r.cost ≤ 60000) := by
  unfold storeB at hs
  simp only [Bool.and_eq_true] at hs
  have hok := allOk_mem hs.1.2 hr
  unfold recOkB at hok
  rw [if_neg (by omega), if_pos hk] at hok
  simp only [Bool.and_eq_true, inB, decide_eq_true_eq] at hok
  omega

theorem tellsOf_good {xs : List RecD} {area src : Int} {r : RecD} {d : WayD} (hr : r ∈ xs) (h : tellsOf xs area src r d) : GoodW d := by
  obtain ⟨h1, _, _, v, h4, h5, rfl⟩ := h
  have hm := (findW_some h4).1
  have hv := ((waysD_asc xs area src).2 v hm).1
  have hb := rec_beyond (waysD_area hm).1 hr h1
  exact ⟨hb.1, ⟨by show 0 ≤ v.cost + r.cost; have := hv.cost; omega, by show v.cost + r.cost ≤ 60000; omega⟩, hv.asc, hv.hop6⟩

theorem outS_good {xs rs : List RecD} {area src to : Int} {d : WayD} (hs : ∀ r ∈ rs, r ∈ xs) (h : outS xs rs area src to d) : GoodW d ∧ d.to = to := by
  obtain ⟨h1, r, hr, h2⟩ := h
  exact ⟨tellsOf_good (hs r hr) h2, h1⟩

/-- one record more -/
theorem outS_step {xs rs : List RecD} {area src to : Int} {k : Nat} {r : RecD} (h : rs[k]? = some r) (d : WayD) : outS xs (rs.take (k + 1)) area src to d ↔ outS xs (rs.take k) area src to d ∨ (d.to = to ∧ tellsOf xs area src r d) := by
  obtain ⟨hk, e⟩ := List.getElem?_eq_some_iff.1 h
  unfold outS
  rw [List.take_succ_eq_append_getElem hk, e]
  constructor
  · rintro ⟨h1, x, h2, h3⟩
    rcases List.mem_append.1 h2 with h4 | h4
    · exact .inl ⟨h1, x, h4, h3⟩
    · have : x = r := by simpa using h4
      subst this
      exact .inr ⟨h1, h3⟩
  · rintro (⟨h1, x, h2, h3⟩ | ⟨h1, h3⟩)
    · exact ⟨h1, x, List.mem_append.2 (.inl h2), h3⟩
    · exact ⟨h1, r, List.mem_append.2 (.inr (by simp)), h3⟩

/-- the areas by which it goes on -/
def byArea (border : Bool) (a : Int) : Prop := border = true → a = 0

/-- a way beyond to a node that is not within -/
def beyondS (xs : List RecD) (al : List Int) (border : Bool) (src to : Int) (d : WayD) : Prop := (∀ x, ¬ withinS xs al src to x) ∧ ∃ a ∈ al, byArea border a ∧ outS xs xs a src to d

theorem beyondS_good {xs : List RecD} {al : List Int} {border : Bool} {src to : Int} {d : WayD} (h : beyondS xs al border src to d) : GoodW d ∧ d.to = to := by
  obtain ⟨_, a, _, _, h2⟩ := h
  exact outS_good (fun _ h => h) h2

theorem outS_area {xs rs : List RecD} {area src to : Int} {d : WayD} (h : outS xs rs area src to d) : storeB xs = true ∧ 0 ≤ area ∧ area < 3 := by
  obtain ⟨_, r, _, _, _, _, v, h4, _⟩ := h
  exact waysD_area (findW_some h4).1

/-- the ways of the first areas alone -/
def someS (xs : List RecD) (al : List Int) (border : Bool) (src to : Int) (d : WayD) : Prop := ∃ a ∈ al, byArea border a ∧ outS xs xs a src to d

theorem someS_good {xs : List RecD} {al : List Int} {border : Bool} {src to : Int} {d : WayD} (h : someS xs al border src to d) : GoodW d ∧ d.to = to := by
  obtain ⟨a, _, _, h2⟩ := h
  exact outS_good (fun _ h => h) h2

theorem someS_step {xs : List RecD} {al : List Int} {border : Bool} {src to a : Int} {k : Nat} (h : al[k]? = some a) (d : WayD) : someS xs (al.take (k + 1)) border src to d ↔ someS xs (al.take k) border src to d ∨ (byArea border a ∧ outS xs xs a src to d) := by
  obtain ⟨hk, e⟩ := List.getElem?_eq_some_iff.1 h
  unfold someS
  rw [List.take_succ_eq_append_getElem hk, e]
  constructor
  · rintro ⟨b, h2, h3, h4⟩
    rcases List.mem_append.1 h2 with h5 | h5
    · exact .inl ⟨b, h5, h3, h4⟩
    · have : b = a := by simpa using h5
      subst this
      exact .inr ⟨h3, h4⟩
  · rintro (⟨b, h2, h3, h4⟩ | ⟨h3, h4⟩)
    · exact ⟨b, List.mem_append.2 (.inl h2), h3, h4⟩
    · exact ⟨a, List.mem_append.2 (.inr (by simp)), h3, h4⟩

/-- one way more beside the best -/
theorem bestOf_tell {tog : WayD → WayD → WayD} (ht : TogOk tog) {xs : List RecD} {area src to : Int} {k : Nat} {r : RecD} {o : Option WayD} {S0 : WayD → Prop} (hS0 : ∀ d, S0 d → GoodW d ∧ d.to = to) (h : xs[k]? = some r) (hb : BestOf to (fun d => S0 d ∨ outS xs (xs.take k) area src to d) o) {d : WayD} (hd : tellsOf xs area src r d) (hto : d.to = to) :
    BestOf to (fun d => S0 d ∨ outS xs (xs.take (k + 1)) area src to d) (moreW tog o (some d)) := by
  have hg := tellsOf_good (List.mem_of_getElem? h) hd
  refine (hb.add ht (fun w hw => ?_) hto hg.asc hg.hop6).congr (fun w => ?_)
  · rcases hw with h1 | h1
    · exact (hS0 w h1).1.hop6
    · exact (outS_good (fun r hr => List.mem_of_mem_take hr) h1).1.hop6
  · rw [outS_step h]
    have huniq : ∀ w, tellsOf xs area src r w → w = d := by
      rintro w ⟨_, _, _, v, h4, _, rfl⟩
      obtain ⟨_, _, _, v', h4', _, rfl⟩ := hd
      rw [h4] at h4'
      cases h4'
      rfl
    constructor
    · rintro ((h1 | h1) | h1)
      · exact .inl h1
      · exact .inr (.inl h1)
      · subst h1; exact .inr (.inr ⟨hto, hd⟩)
    · rintro (h1 | h1 | ⟨_, h1⟩)
      · exact .inl (.inl h1)
      · exact .inl (.inr h1)
      · exact .inr (huniq w h1)

theorem bestOf_quiet {xs : List RecD} {area src to : Int} {k : Nat} {r : RecD} {o : Option WayD} {S0 : WayD → Prop} (h : xs[k]? = some r) (hb : BestOf to (fun d => S0 d ∨ outS xs (xs.take k) area src to d) o) (hn : ∀ d, d.to = to → ¬ tellsOf xs area src r d) :
    BestOf to (fun d => S0 d ∨ outS xs (xs.take (k + 1)) area src to d) o := by
  refine hb.congr (fun w => ?_)
  rw [outS_step h]
  constructor
  · rintro (h1 | h1)
    · exact .inl h1
    · exact .inr (.inl h1)
  · rintro (h1 | h1 | ⟨h1, h2⟩)
    · exact .inl h1
    · exact .inr h1
    · exact absurd h2 (hn w h1)

/-- a way in a box, its hops a row of the caller's own -/
structure BoxT (W : World) (z lo : Nat) (b : WayD) (bv : Value) : Prop where
  box : W.heap[z]? = some (.cells (wayC b bv) 46)
  own : W.ownsRow lo 3 1 bv b.hops.length (flat intE b.hops)
  len : b.hops.length ≤ 6

theorem BoxT.below {W W' : World} {z lo : Nat} {b : WayD} {bv : Value} (h : BoxT W z lo b bv) (hb : Below W.heap.size W W') : BoxT W' z lo b bv :=
  ⟨(hb.block _ (lt_of_heap h.box)).trans h.box, owns_below h.own hb (Nat.le_refl _), h.len⟩

theorem BoxT.other {W W' : World} {z g lo : Nat} {b : WayD} {bv : Value} {cs : Array Value} {T : TypeId} {fr : Nat × Nat} (h : BoxT W z lo b bv) (hg : W.grownBy W' (some g)) (hgz : z ≠ g) (hbox : W.heap[g]? = some (.cells cs T fr)) (hT : (3 : TypeId) ≠ T) : BoxT W' z lo b bv :=
  ⟨(hg.block z (lt_of_heap h.box) (by simp; omega)).trans h.box, owns_keepB h.own (fun j hj => hg.block j (h.own.lt j hj).2 (fun e => own_type_ne2 h.own hbox hT (by rw [hj]; exact e.symm))), h.len⟩

theorem BoxT.put {W : World} {z lo : Nat} {b : WayD} {bv : Value} (h : BoxT W z lo b bv) {d : WayD} {u : Value} (hu : W.ownsRow lo 3 1 u d.hops.length (flat intE d.hops)) (hl : d.hops.length ≤ 6) : BoxT (putW3 W z d u) z lo d u := by
  have hb := h.box
  unfold wayC at hb
  have hg := grownW3 W z d u
  exact ⟨finW3 d u hb, owns_keepB hu (fun j hj => hg.block j (hu.lt j hj).2 (fun e => own_type_ne2 hu h.box (by decide) (by rw [hj]; exact e.symm))), hl⟩

theorem putW3_other {W : World} {z g : Nat} {d : WayD} {u : Value} {o : Obj} (h : W.heap[g]? = some o) (hne : g ≠ z) : (putW3 W z d u).heap[g]? = some o := ((grownW3 W z d u).block g (lt_of_heap h) (by simp; omega)).trans h
end Go.Proofs.YtidoieolejkflaaGreat
