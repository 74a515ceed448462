/-
  The regions of laws.FnExactFind that call Find on new copies, in every order.
-/
import Derived.Test.YtohjphhocdgpgaaFindK
import Derived.Test.YtohjphhocdgpgaaLaw5K
import Derived.Test.YtohjphhocdgpgaaReg
namespace Go.Proofs.Ytohjphhocdgpgaa
open Go.RowKit

set_option linter.unusedVariables false
set_option linter.unusedSimpArgs false

/-- a record in a block of its own, its row too -/
structure RecBox (W : World) (lo z : Nat) (x : RecD) (u : Value) : Prop where
  box : W.heap[z]? = some (.cells (recC x u) 26)
  own : W.ownsRow lo 67 2 u x.near.length (flat nrE x.near)
  low : lo ≤ z

def fOps8 : Array Oper := #[{ dst := some 28, op := Go.Op.move (Go.Operand.tmp 0), type := 52, pos := "exact.go:2481", after := #[], guard := none }, { dst := some 29, op := Go.Op.call { callee := Go.Callee.value (Go.Operand.func 43), args := #[Go.Operand.tmp 28], argTypes := #[52] }, type := 43, pos := "exact.go:2481", after := #[{ on := 0, ground := Go.Ground.data }], guard := none }, { dst := some 30, op := Go.Op.load 39 (Go.Operand.tmp 3), type := 39, pos := "exact.go:2481", after := #[], guard := none }, { dst := some 31, op := Go.Op.call { callee := Go.Callee.value (Go.Operand.func 32), args := #[Go.Operand.tmp 30], argTypes := #[39] }, type := 26, pos := "exact.go:2481", after := #[{ on := 2, ground := Go.Ground.data }, { on := 1, ground := Go.Ground.chain }], guard := none }, { dst := some 32, op := Go.Op.call { callee := Go.Callee.value (Go.Operand.func 45), args := #[Go.Operand.tmp 29, Go.Operand.tmp 31], argTypes := #[43, 26] }, type := 30, pos := "exact.go:2481", after := #[{ on := 1, ground := Go.Ground.data }, { on := 3, ground := Go.Ground.data }, { on := 3, ground := Go.Ground.chain }], guard := none }, { dst := some 27, op := Go.Op.move (Go.Operand.tmp 32), type := 30, pos := "exact.go:2481", after := #[{ on := 4, ground := Go.Ground.data }], guard := none }, { dst := some 33, op := Go.Op.extract (Go.Operand.tmp 27) 0, type := 26, pos := "exact.go:2481", after := #[{ on := 5, ground := Go.Ground.data }], guard := none }, { dst := some 34, op := Go.Op.extract (Go.Operand.tmp 27) 1, type := 4, pos := "exact.go:2481", after := #[{ on := 5, ground := Go.Ground.data }, { on := 9, ground := Go.Ground.gcOnly Go.Departure.lateStores }], guard := none }, { dst := some 6, op := Go.Op.alloc 26, type := 0, pos := "exact.go:2481", after := #[], guard := none }, { dst := none, op := Go.Op.store 26 (Go.Operand.tmp 6) (Go.Operand.tmp 33), type := 0, pos := "exact.go:2481", after := #[{ on := 8, ground := Go.Ground.data }, { on := 6, ground := Go.Ground.data }, { on := 4, ground := Go.Ground.chain }, { on := 0, ground := Go.Ground.phase }, { on := 1, ground := Go.Ground.phase }, { on := 2, ground := Go.Ground.phase }, { on := 3, ground := Go.Ground.phase }, { on := 4, ground := Go.Ground.phase }, { on := 5, ground := Go.Ground.phase }, { on := 6, ground := Go.Ground.phase }, { on := 7, ground := Go.Ground.textOnly Go.Departure.lateStores }, { on := 8, ground := Go.Ground.phase }], guard := none }, { dst := some 7, op := Go.Op.assign (Go.Operand.tmp 34), type := 4, pos := "exact.go:2481", after := #[{ on := 7, ground := Go.Ground.data }, { on := 9, ground := Go.Ground.chain }, { on := 0, ground := Go.Ground.phase }, { on := 1, ground := Go.Ground.phase }, { on := 2, ground := Go.Ground.phase }, { on := 3, ground := Go.Ground.phase }, { on := 4, ground := Go.Ground.phase }, { on := 5, ground := Go.Ground.phase }, { on := 6, ground := Go.Ground.phase }, { on := 7, ground := Go.Ground.phase }, { on := 8, ground := Go.Ground.phase }, { on := 9, ground := Go.Ground.phase }], guard := none }]

set_option maxRecDepth 100000 in
set_option maxHeartbeats 8000000 in
theorem find_dag8 {t0 t1 t2 t3 t4 t5 t6 t7 t8 t9 t10 t11 t12 t13 t14 t15 t16 t17 t18 t19 t20 t21 t22 t23 t24 t25 t26 t27 t29 t31 t32 t33 t34 t35 t36 t37 t38 t39 t40 t41 t42 t43 t44 t45 t46 t47 t48 t49 t50 t51 t52 t53 t54 t55 t56 t57 t58 t59 t60 t61 t62 t63 t64 t65 t66 t67 t68 t69 t70 t71 t72 t73 t74 t75 t76 t77 t78 t79 t80 t81 t82 t83 t84 t85 t86 t87 t88 t89 t90 t91 t92 t93 t94 t95 t96 t97 t98 t99 t100 t101 t102 t103 t104 t105 t106 t107 t108 t109 t110 t111 t112 t113 t114 t115 t116 t117 t118 : Value} (x D : RecD) (F : Bool) (L : List RecD) (x28 x30 : Value) (n1 : Nat) (w1 : World) (Q : Exit → Act → World → Prop) (S : World → Prop) (ops : Array Oper) (hops : Hid (ops = fOps8)) (hn1 : n1 ≤ w1.heap.size) (hS : ∀ W, Below n1 w1 W → S W)
    (H1 : ∀ W, Below n1 w1 W → Calls Try.prog 43 #[x28] W fun e w' => ∃ x qs, e = .returned x ∧ fsts qs = L ∧ RecsOwn w' W.heap.size w'.heap.size x qs ∧ Below W.heap.size W w')
    (H2 : ∀ W, Below n1 w1 W → Calls Try.prog 32 #[x30] W fun e w' => ∃ v1, e = .returned (.agg #[.int .i64 x.area, .int .i64 x.kind, .int .i64 x.owner, .int .i64 x.key, .int .i64 x.seq, v1, .int .i64 x.cost, .bool x.far]) ∧ w'.ownsRow W.heap.size 67 2 v1 x.near.length (flat nrE x.near) ∧ Below W.heap.size W w')
    (H3 : ∀ v qs lo hi u rlo W, fsts qs = L → RecsOwn W lo hi v qs → hi ≤ W.heap.size → W.ownsRow rlo 67 2 u x.near.length (flat nrE x.near) → Calls Try.prog 45 #[v, .agg #[.int .i64 x.area, .int .i64 x.kind, .int .i64 x.owner, .int .i64 x.key, .int .i64 x.seq, u, .int .i64 x.cost, .bool x.far]] W fun e w' => ∃ u', e = .returned (.tuple #[.agg #[.int .i64 D.area, .int .i64 D.kind, .int .i64 D.owner, .int .i64 D.key, .int .i64 D.seq, u', .int .i64 D.cost, .bool D.far], .bool F]) ∧ w'.ownsRow W.heap.size 67 2 u' D.near.length (flat nrE D.near) ∧ Below W.heap.size W w')
    (hend : ∀ W vA v4 ua uc z, Below n1 w1 W → RecBox W n1 z D (.slice ua D.near.length uc) → Q .normal { tmps := #[t0, t1, t2, t3, t4, t5, .pointer (some ⟨z, 0, none⟩), .bool F, t8, t9, t10, t11, t12, t13, t14, t15, t16, t17, t18, t19, t20, t21, t22, t23, t24, t25, t26, .tuple #[.agg #[.int .i64 D.area, .int .i64 D.kind, .int .i64 D.owner, .int .i64 D.key, .int .i64 D.seq, (.slice ua D.near.length uc), .int .i64 D.cost, .bool D.far], .bool F], x28, vA, x30, .agg #[.int .i64 x.area, .int .i64 x.kind, .int .i64 x.owner, .int .i64 x.key, .int .i64 x.seq, v4, .int .i64 x.cost, .bool x.far], .tuple #[.agg #[.int .i64 D.area, .int .i64 D.kind, .int .i64 D.owner, .int .i64 D.key, .int .i64 D.seq, (.slice ua D.near.length uc), .int .i64 D.cost, .bool D.far], .bool F], .agg #[.int .i64 D.area, .int .i64 D.kind, .int .i64 D.owner, .int .i64 D.key, .int .i64 D.seq, (.slice ua D.near.length uc), .int .i64 D.cost, .bool D.far], .bool F, t35, t36, t37, t38, t39, t40, t41, t42, t43, t44, t45, t46, t47, t48, t49, t50, t51, t52, t53, t54, t55, t56, t57, t58, t59, t60, t61, t62, t63, t64, t65, t66, t67, t68, t69, t70, t71, t72, t73, t74, t75, t76, t77, t78, t79, t80, t81, t82, t83, t84, t85, t86, t87, t88, t89, t90, t91, t92, t93, t94, t95, t96, t97, t98, t99, t100, t101, t102, t103, t104, t105, t106, t107, t108, t109, t110, t111, t112, t113, t114, t115, t116, t117, t118], defers := [] } W) :
    wpAnyH Try.prog .any ops (NoPanic Q) S 9 #[true, false, true, false, false, false, false, false, false, false, false] { tmps := #[t0, t1, t2, t3, t4, t5, t6, t7, t8, t9, t10, t11, t12, t13, t14, t15, t16, t17, t18, t19, t20, t21, t22, t23, t24, t25, t26, t27, x28, t29, x30, t31, t32, t33, t34, t35, t36, t37, t38, t39, t40, t41, t42, t43, t44, t45, t46, t47, t48, t49, t50, t51, t52, t53, t54, t55, t56, t57, t58, t59, t60, t61, t62, t63, t64, t65, t66, t67, t68, t69, t70, t71, t72, t73, t74, t75, t76, t77, t78, t79, t80, t81, t82, t83, t84, t85, t86, t87, t88, t89, t90, t91, t92, t93, t94, t95, t96, t97, t98, t99, t100, t101, t102, t103, t104, t105, t106, t107, t108, t109, t110, t111, t112, t113, t114, t115, t116, t117, t118], defers := [] } w1 := by
  have h31 : ∀ (W : World) (vA v4 : Value) (qA : List RP) (hA : Nat) (ua : Option Addr) (uc z : Nat), Below n1 w1 W → n1 ≤ W.heap.size → W.ownsRow n1 67 2 (.slice ua D.near.length uc) D.near.length (flat nrE D.near) → (W.heap[z]? = some (.cells #[.int .i64 0, .int .i64 0, .int .i64 0, .int .i64 0, .int .i64 0, .slice none 0 0, .int .i64 0, .bool false] 26) ∧ n1 ≤ z) → wpAnyH Try.prog .any ops (NoPanic Q) S 2 #[true, true, true, true, true, true, true, true, true, false, false] { tmps := #[t0, t1, t2, t3, t4, t5, .pointer (some ⟨z, 0, none⟩), t7, t8, t9, t10, t11, t12, t13, t14, t15, t16, t17, t18, t19, t20, t21, t22, t23, t24, t25, t26, .tuple #[.agg #[.int .i64 D.area, .int .i64 D.kind, .int .i64 D.owner, .int .i64 D.key, .int .i64 D.seq, (.slice ua D.near.length uc), .int .i64 D.cost, .bool D.far], .bool F], x28, vA, x30, .agg #[.int .i64 x.area, .int .i64 x.kind, .int .i64 x.owner, .int .i64 x.key, .int .i64 x.seq, v4, .int .i64 x.cost, .bool x.far], .tuple #[.agg #[.int .i64 D.area, .int .i64 D.kind, .int .i64 D.owner, .int .i64 D.key, .int .i64 D.seq, (.slice ua D.near.length uc), .int .i64 D.cost, .bool D.far], .bool F], .agg #[.int .i64 D.area, .int .i64 D.kind, .int .i64 D.owner, .int .i64 D.key, .int .i64 D.seq, (.slice ua D.near.length uc), .int .i64 D.cost, .bool D.far], .bool F, t35, t36, t37, t38, t39, t40, t41, t42, t43, t44, t45, t46, t47, t48, t49, t50, t51, t52, t53, t54, t55, t56, t57, t58, t59, t60, t61, t62, t63, t64, t65, t66, t67, t68, t69, t70, t71, t72, t73, t74, t75, t76, t77, t78, t79, t80, t81, t82, t83, t84, t85, t86, t87, t88, t89, t90, t91, t92, t93, t94, t95, t96, t97, t98, t99, t100, t101, t102, t103, t104, t105, t106, t107, t108, t109, t110, t111, t112, t113, t114, t115, t116, t117, t118], defers := [] } W := by
    intro W vA v4 qA hA ua uc z g hn k5 kz
    refine wpAnyH_ready (rs := [9]) (by rw [hops.out]; kernel_rfl) (by simp) ?_
    refine AllReadyH.cons (o := ?_) ?_ (fun K hK => ?_) ?_
    rotate_left 1
    · rw [hops.out]; unfold fOps8; simp only [List.getElem?_toArray, List.getElem?_cons_succ, List.getElem?_cons_zero]; rfl
    · rw [if_pos (by rfl)]
      have y0 := cells_at kz.1 0
      have y1 := cells_at kz.1 1
      have y2 := cells_at kz.1 2
      have y3 := cells_at kz.1 3
      have y4 := cells_at kz.1 4
      have y5 := cells_at kz.1 5
      have y6 := cells_at kz.1 6
      have y7 := cells_at kz.1 7
      simp at y0 y1 y2 y3 y4 y5 y6 y7
      have fy := frozen_at kz.1
      have FF := fin85 D (.slice ua D.near.length uc) kz.1
      have G8 := grown85 W z D (.slice ua D.near.length uc)
      have hzl := lt_of_heap kz.1
      have g2 := g.grown G8 hn (fun k hk => by have := kz.2; simp at hk; omega)
      have o8 := owns_keepB k5 (W' := putR5 W z D (.slice ua D.near.length uc)) (fun j hj => G8.block j (k5.lt j hj).2 (fun e => own_type_ne2 k5 kz.1 (by decide) (by rw [hj, e])))
      have hSW := hS _ g2
      have hlow := kz.2
      go_simp
      refine hK.out _ _ hSW (fun _ => ?_)
      refine take_do 10 (oi := ?_) (v := ?_) ?_ (by rw [hops.out]; kernel_rfl) ?_ ?_ ?_ (by assumption) ?_
      rotate_left 2
      · rw [hops.out]; unfold fOps8; simp only [List.getElem?_toArray, List.getElem?_cons_succ, List.getElem?_cons_zero]; rfl
      · rw [hops.out]; kernel_rfl
      · intro W hW; (try dsimp only at hW); go_simp <;> with_reducible rfl
      · exact fun _ _ _ h => h
      try simp only [Act.put, List.setIfInBounds_toArray, List.set_cons_zero, List.set_cons_succ]
      exact wpAnyH_done (by rw [hops.out]; kernel_rfl) (NoPanic.normal (hend _ vA v4 ua uc z g2 ⟨FF, o8, hlow⟩)) _
    exact AllReadyH.nil
  have h21 : ∀ (W : World) (vA v4 : Value) (qA : List RP) (hA : Nat) (ua : Option Addr) (uc z : Nat), Below n1 w1 W → n1 ≤ W.heap.size → (fsts qA = L ∧ RecsOwn W n1 hA vA qA ∧ hA ≤ W.heap.size) → W.ownsRow n1 67 2 v4 x.near.length (flat nrE x.near) → (W.heap[z]? = some (.cells #[.int .i64 0, .int .i64 0, .int .i64 0, .int .i64 0, .int .i64 0, .slice none 0 0, .int .i64 0, .bool false] 26) ∧ n1 ≤ z) → wpAnyH Try.prog .any ops (NoPanic Q) S 6 #[true, true, true, true, false, false, false, false, true, false, false] { tmps := #[t0, t1, t2, t3, t4, t5, .pointer (some ⟨z, 0, none⟩), t7, t8, t9, t10, t11, t12, t13, t14, t15, t16, t17, t18, t19, t20, t21, t22, t23, t24, t25, t26, t27, x28, vA, x30, .agg #[.int .i64 x.area, .int .i64 x.kind, .int .i64 x.owner, .int .i64 x.key, .int .i64 x.seq, v4, .int .i64 x.cost, .bool x.far], t32, t33, t34, t35, t36, t37, t38, t39, t40, t41, t42, t43, t44, t45, t46, t47, t48, t49, t50, t51, t52, t53, t54, t55, t56, t57, t58, t59, t60, t61, t62, t63, t64, t65, t66, t67, t68, t69, t70, t71, t72, t73, t74, t75, t76, t77, t78, t79, t80, t81, t82, t83, t84, t85, t86, t87, t88, t89, t90, t91, t92, t93, t94, t95, t96, t97, t98, t99, t100, t101, t102, t103, t104, t105, t106, t107, t108, t109, t110, t111, t112, t113, t114, t115, t116, t117, t118], defers := [] } W := by
    intro W vA v4 qA hA ua uc z g hn kA k4 kz
    refine wpAnyH_ready (rs := [4]) (by rw [hops.out]; kernel_rfl) (by simp) ?_
    refine AllReadyH.cons (o := ?_) ?_ (fun K hK => ?_) ?_
    rotate_left 1
    · rw [hops.out]; unfold fOps8; simp only [List.getElem?_toArray, List.getElem?_cons_succ, List.getElem?_cons_zero]; rfl
    · rw [if_pos (by rfl)]
      go_simp
      refine (H3 vA qA n1 hA v4 n1 W kA.1 kA.2.1 kA.2.2 k4).mono ?_
      rintro e w2 ⟨y, rfl, oy, b2⟩
      obtain ⟨ya, yc, rfl⟩ := owns_lenS oy
      unfold recC at *
      have b2s := b2.size
      have g2 : Below n1 w1 w2 := g.trans (b2.mono hn)
      have hn2 : n1 ≤ w2.heap.size := Nat.le_trans hn b2.size
      have hSW := hS w2 g2
      refine hK.out _ _ hSW (fun _ => ?_)
      refine take_do 5 (oi := ?_) (v := ?_) ?_ (by rw [hops.out]; kernel_rfl) ?_ ?_ ?_ (by assumption) ?_
      rotate_left 2
      · rw [hops.out]; unfold fOps8; simp only [List.getElem?_toArray, List.getElem?_cons_succ, List.getElem?_cons_zero]; rfl
      · rw [hops.out]; kernel_rfl
      · intro W hW; (try dsimp only at hW); go_simp <;> with_reducible rfl
      · exact fun _ _ _ h => h
      try simp only [Act.put, List.setIfInBounds_toArray, List.set_cons_zero, List.set_cons_succ]
      refine take_do 6 (oi := ?_) (v := ?_) ?_ (by rw [hops.out]; kernel_rfl) ?_ ?_ ?_ (by assumption) ?_
      rotate_left 2
      · rw [hops.out]; unfold fOps8; simp only [List.getElem?_toArray, List.getElem?_cons_succ, List.getElem?_cons_zero]; rfl
      · rw [hops.out]; kernel_rfl
      · intro W hW; (try dsimp only at hW); go_simp <;> with_reducible rfl
      · exact fun _ _ _ h => h
      try simp only [Act.put, List.setIfInBounds_toArray, List.set_cons_zero, List.set_cons_succ]
      refine take_do 7 (oi := ?_) (v := ?_) ?_ (by rw [hops.out]; kernel_rfl) ?_ ?_ ?_ (by assumption) ?_
      rotate_left 2
      · rw [hops.out]; unfold fOps8; simp only [List.getElem?_toArray, List.getElem?_cons_succ, List.getElem?_cons_zero]; rfl
      · rw [hops.out]; kernel_rfl
      · intro W hW; (try dsimp only at hW); go_simp <;> with_reducible rfl
      · exact fun _ _ _ h => h
      try simp only [Act.put, List.setIfInBounds_toArray, List.set_cons_zero, List.set_cons_succ]
      exact h31 w2 vA v4 qA hA ya yc z g2 hn2 (owns_baseS oy hn) ⟨(b2.block _ (lt_of_heap kz.1)).trans kz.1, kz.2⟩
    exact AllReadyH.nil
  have h11 : ∀ (W : World) (vA v4 : Value) (qA : List RP) (hA : Nat) (ua : Option Addr) (uc z : Nat), Below n1 w1 W → n1 ≤ W.heap.size → (fsts qA = L ∧ RecsOwn W n1 hA vA qA ∧ hA ≤ W.heap.size) → (W.heap[z]? = some (.cells #[.int .i64 0, .int .i64 0, .int .i64 0, .int .i64 0, .int .i64 0, .slice none 0 0, .int .i64 0, .bool false] 26) ∧ n1 ≤ z) → wpAnyH Try.prog .any ops (NoPanic Q) S 7 #[true, true, true, false, false, false, false, false, true, false, false] { tmps := #[t0, t1, t2, t3, t4, t5, .pointer (some ⟨z, 0, none⟩), t7, t8, t9, t10, t11, t12, t13, t14, t15, t16, t17, t18, t19, t20, t21, t22, t23, t24, t25, t26, t27, x28, vA, x30, t31, t32, t33, t34, t35, t36, t37, t38, t39, t40, t41, t42, t43, t44, t45, t46, t47, t48, t49, t50, t51, t52, t53, t54, t55, t56, t57, t58, t59, t60, t61, t62, t63, t64, t65, t66, t67, t68, t69, t70, t71, t72, t73, t74, t75, t76, t77, t78, t79, t80, t81, t82, t83, t84, t85, t86, t87, t88, t89, t90, t91, t92, t93, t94, t95, t96, t97, t98, t99, t100, t101, t102, t103, t104, t105, t106, t107, t108, t109, t110, t111, t112, t113, t114, t115, t116, t117, t118], defers := [] } W := by
    intro W vA v4 qA hA ua uc z g hn kA kz
    refine wpAnyH_ready (rs := [3]) (by rw [hops.out]; kernel_rfl) (by simp) ?_
    refine AllReadyH.cons (o := ?_) ?_ (fun K hK => ?_) ?_
    rotate_left 1
    · rw [hops.out]; unfold fOps8; simp only [List.getElem?_toArray, List.getElem?_cons_succ, List.getElem?_cons_zero]; rfl
    · rw [if_pos (by rfl)]
      go_simp
      refine (H2 W g).mono ?_
      rintro e w2 ⟨y, rfl, oy, b2⟩
      unfold recC at *
      have b2s := b2.size
      have g2 : Below n1 w1 w2 := g.trans (b2.mono hn)
      have hn2 : n1 ≤ w2.heap.size := Nat.le_trans hn b2.size
      have hSW := hS w2 g2
      refine hK.out _ _ hSW (fun _ => ?_)
      exact h21 w2 vA y qA hA ua uc z g2 hn2 ⟨kA.1, kA.2.1.below b2 kA.2.2, Nat.le_trans kA.2.2 b2s⟩ (owns_baseS oy hn) ⟨(b2.block _ (lt_of_heap kz.1)).trans kz.1, kz.2⟩
    exact AllReadyH.nil
  have h01 : ∀ (W : World) (vA v4 : Value) (qA : List RP) (hA : Nat) (ua : Option Addr) (uc z : Nat), Below n1 w1 W → n1 ≤ W.heap.size → (W.heap[z]? = some (.cells #[.int .i64 0, .int .i64 0, .int .i64 0, .int .i64 0, .int .i64 0, .slice none 0 0, .int .i64 0, .bool false] 26) ∧ n1 ≤ z) → wpAnyH Try.prog .any ops (NoPanic Q) S 8 #[true, false, true, false, false, false, false, false, true, false, false] { tmps := #[t0, t1, t2, t3, t4, t5, .pointer (some ⟨z, 0, none⟩), t7, t8, t9, t10, t11, t12, t13, t14, t15, t16, t17, t18, t19, t20, t21, t22, t23, t24, t25, t26, t27, x28, t29, x30, t31, t32, t33, t34, t35, t36, t37, t38, t39, t40, t41, t42, t43, t44, t45, t46, t47, t48, t49, t50, t51, t52, t53, t54, t55, t56, t57, t58, t59, t60, t61, t62, t63, t64, t65, t66, t67, t68, t69, t70, t71, t72, t73, t74, t75, t76, t77, t78, t79, t80, t81, t82, t83, t84, t85, t86, t87, t88, t89, t90, t91, t92, t93, t94, t95, t96, t97, t98, t99, t100, t101, t102, t103, t104, t105, t106, t107, t108, t109, t110, t111, t112, t113, t114, t115, t116, t117, t118], defers := [] } W := by
    intro W vA v4 qA hA ua uc z g hn kz
    refine wpAnyH_ready (rs := [1]) (by rw [hops.out]; kernel_rfl) (by simp) ?_
    refine AllReadyH.cons (o := ?_) ?_ (fun K hK => ?_) ?_
    rotate_left 1
    · rw [hops.out]; unfold fOps8; simp only [List.getElem?_toArray, List.getElem?_cons_succ, List.getElem?_cons_zero]; rfl
    · rw [if_pos (by rfl)]
      go_simp
      refine (H1 W g).mono ?_
      rintro e w2 ⟨y, qs, rfl, fq, oq, b2⟩
      have b2s := b2.size
      have g2 : Below n1 w1 w2 := g.trans (b2.mono hn)
      have hn2 : n1 ≤ w2.heap.size := Nat.le_trans hn b2.size
      have hSW := hS w2 g2
      refine hK.out _ _ hSW (fun _ => ?_)
      exact h11 w2 y v4 qs w2.heap.size ua uc z g2 hn2 ⟨fq, oq.wide hn (Nat.le_refl _), Nat.le_refl _⟩ ⟨(b2.block _ (lt_of_heap kz.1)).trans kz.1, kz.2⟩
    exact AllReadyH.nil
  have h30 : ∀ (W : World) (vA v4 : Value) (qA : List RP) (hA : Nat) (ua : Option Addr) (uc z : Nat), Below n1 w1 W → n1 ≤ W.heap.size → W.ownsRow n1 67 2 (.slice ua D.near.length uc) D.near.length (flat nrE D.near) → wpAnyH Try.prog .any ops (NoPanic Q) S 3 #[true, true, true, true, true, true, true, true, false, false, false] { tmps := #[t0, t1, t2, t3, t4, t5, t6, t7, t8, t9, t10, t11, t12, t13, t14, t15, t16, t17, t18, t19, t20, t21, t22, t23, t24, t25, t26, .tuple #[.agg #[.int .i64 D.area, .int .i64 D.kind, .int .i64 D.owner, .int .i64 D.key, .int .i64 D.seq, (.slice ua D.near.length uc), .int .i64 D.cost, .bool D.far], .bool F], x28, vA, x30, .agg #[.int .i64 x.area, .int .i64 x.kind, .int .i64 x.owner, .int .i64 x.key, .int .i64 x.seq, v4, .int .i64 x.cost, .bool x.far], .tuple #[.agg #[.int .i64 D.area, .int .i64 D.kind, .int .i64 D.owner, .int .i64 D.key, .int .i64 D.seq, (.slice ua D.near.length uc), .int .i64 D.cost, .bool D.far], .bool F], .agg #[.int .i64 D.area, .int .i64 D.kind, .int .i64 D.owner, .int .i64 D.key, .int .i64 D.seq, (.slice ua D.near.length uc), .int .i64 D.cost, .bool D.far], .bool F, t35, t36, t37, t38, t39, t40, t41, t42, t43, t44, t45, t46, t47, t48, t49, t50, t51, t52, t53, t54, t55, t56, t57, t58, t59, t60, t61, t62, t63, t64, t65, t66, t67, t68, t69, t70, t71, t72, t73, t74, t75, t76, t77, t78, t79, t80, t81, t82, t83, t84, t85, t86, t87, t88, t89, t90, t91, t92, t93, t94, t95, t96, t97, t98, t99, t100, t101, t102, t103, t104, t105, t106, t107, t108, t109, t110, t111, t112, t113, t114, t115, t116, t117, t118], defers := [] } W := by
    intro W vA v4 qA hA ua uc z g hn k5
    refine wpAnyH_ready (rs := [8]) (by rw [hops.out]; kernel_rfl) (by simp) ?_
    refine AllReadyH.cons (o := ?_) ?_ (fun K hK => ?_) ?_
    rotate_left 1
    · rw [hops.out]; unfold fOps8; simp only [List.getElem?_toArray, List.getElem?_cons_succ, List.getElem?_cons_zero]; rfl
    · rw [if_pos (by rfl)]
      go_simp
      have g2 : Below n1 w1 (W.alloc (.cells #[.int .i64 0, .int .i64 0, .int .i64 0, .int .i64 0, .int .i64 0, .slice none 0 0, .int .i64 0, .bool false] 26)) := g.alloc hn _
      refine hK.out _ _ (hS _ g2) (fun _ => ?_)
      exact h31 _ vA v4 qA hA ua uc _ g2 (by simp; omega) (k5.alloc _) ⟨heap_alloc_new _ _, hn⟩
    exact AllReadyH.nil
  have h20 : ∀ (W : World) (vA v4 : Value) (qA : List RP) (hA : Nat) (ua : Option Addr) (uc z : Nat), Below n1 w1 W → n1 ≤ W.heap.size → (fsts qA = L ∧ RecsOwn W n1 hA vA qA ∧ hA ≤ W.heap.size) → W.ownsRow n1 67 2 v4 x.near.length (flat nrE x.near) → wpAnyH Try.prog .any ops (NoPanic Q) S 7 #[true, true, true, true, false, false, false, false, false, false, false] { tmps := #[t0, t1, t2, t3, t4, t5, t6, t7, t8, t9, t10, t11, t12, t13, t14, t15, t16, t17, t18, t19, t20, t21, t22, t23, t24, t25, t26, t27, x28, vA, x30, .agg #[.int .i64 x.area, .int .i64 x.kind, .int .i64 x.owner, .int .i64 x.key, .int .i64 x.seq, v4, .int .i64 x.cost, .bool x.far], t32, t33, t34, t35, t36, t37, t38, t39, t40, t41, t42, t43, t44, t45, t46, t47, t48, t49, t50, t51, t52, t53, t54, t55, t56, t57, t58, t59, t60, t61, t62, t63, t64, t65, t66, t67, t68, t69, t70, t71, t72, t73, t74, t75, t76, t77, t78, t79, t80, t81, t82, t83, t84, t85, t86, t87, t88, t89, t90, t91, t92, t93, t94, t95, t96, t97, t98, t99, t100, t101, t102, t103, t104, t105, t106, t107, t108, t109, t110, t111, t112, t113, t114, t115, t116, t117, t118], defers := [] } W := by
    intro W vA v4 qA hA ua uc z g hn kA k4
    refine wpAnyH_ready (rs := [4, 8]) (by rw [hops.out]; kernel_rfl) (by simp) ?_
    refine AllReadyH.cons (o := ?_) ?_ (fun K hK => ?_) ?_
    rotate_left 1
    · rw [hops.out]; unfold fOps8; simp only [List.getElem?_toArray, List.getElem?_cons_succ, List.getElem?_cons_zero]; rfl
    · rw [if_pos (by rfl)]
      go_simp
      refine (H3 vA qA n1 hA v4 n1 W kA.1 kA.2.1 kA.2.2 k4).mono ?_
      rintro e w2 ⟨y, rfl, oy, b2⟩
      obtain ⟨ya, yc, rfl⟩ := owns_lenS oy
      unfold recC at *
      have b2s := b2.size
      have g2 : Below n1 w1 w2 := g.trans (b2.mono hn)
      have hn2 : n1 ≤ w2.heap.size := Nat.le_trans hn b2.size
      have hSW := hS w2 g2
      refine hK.out _ _ hSW (fun _ => ?_)
      refine take_do 5 (oi := ?_) (v := ?_) ?_ (by rw [hops.out]; kernel_rfl) ?_ ?_ ?_ (by assumption) ?_
      rotate_left 2
      · rw [hops.out]; unfold fOps8; simp only [List.getElem?_toArray, List.getElem?_cons_succ, List.getElem?_cons_zero]; rfl
      · rw [hops.out]; kernel_rfl
      · intro W hW; (try dsimp only at hW); go_simp <;> with_reducible rfl
      · exact fun _ _ _ h => h
      try simp only [Act.put, List.setIfInBounds_toArray, List.set_cons_zero, List.set_cons_succ]
      refine take_do 6 (oi := ?_) (v := ?_) ?_ (by rw [hops.out]; kernel_rfl) ?_ ?_ ?_ (by assumption) ?_
      rotate_left 2
      · rw [hops.out]; unfold fOps8; simp only [List.getElem?_toArray, List.getElem?_cons_succ, List.getElem?_cons_zero]; rfl
      · rw [hops.out]; kernel_rfl
      · intro W hW; (try dsimp only at hW); go_simp <;> with_reducible rfl
      · exact fun _ _ _ h => h
      try simp only [Act.put, List.setIfInBounds_toArray, List.set_cons_zero, List.set_cons_succ]
      refine take_do 7 (oi := ?_) (v := ?_) ?_ (by rw [hops.out]; kernel_rfl) ?_ ?_ ?_ (by assumption) ?_
      rotate_left 2
      · rw [hops.out]; unfold fOps8; simp only [List.getElem?_toArray, List.getElem?_cons_succ, List.getElem?_cons_zero]; rfl
      · rw [hops.out]; kernel_rfl
      · intro W hW; (try dsimp only at hW); go_simp <;> with_reducible rfl
      · exact fun _ _ _ h => h
      try simp only [Act.put, List.setIfInBounds_toArray, List.set_cons_zero, List.set_cons_succ]
      exact h30 w2 vA v4 qA hA ya yc z g2 hn2 (owns_baseS oy hn) 
    refine AllReadyH.cons (o := ?_) ?_ (fun K hK => ?_) ?_
    rotate_left 1
    · rw [hops.out]; unfold fOps8; simp only [List.getElem?_toArray, List.getElem?_cons_succ, List.getElem?_cons_zero]; rfl
    · rw [if_pos (by rfl)]
      go_simp
      have g2 : Below n1 w1 (W.alloc (.cells #[.int .i64 0, .int .i64 0, .int .i64 0, .int .i64 0, .int .i64 0, .slice none 0 0, .int .i64 0, .bool false] 26)) := g.alloc hn _
      refine hK.out _ _ (hS _ g2) (fun _ => ?_)
      exact h21 _ vA v4 qA hA ua uc _ g2 (by simp; omega) ⟨kA.1, kA.2.1.below ((Below.refl _ _).alloc (Nat.le_refl _) _) kA.2.2, by have := kA.2.2; simp; omega⟩ (k4.alloc _) ⟨heap_alloc_new _ _, hn⟩
    exact AllReadyH.nil
  have h10 : ∀ (W : World) (vA v4 : Value) (qA : List RP) (hA : Nat) (ua : Option Addr) (uc z : Nat), Below n1 w1 W → n1 ≤ W.heap.size → (fsts qA = L ∧ RecsOwn W n1 hA vA qA ∧ hA ≤ W.heap.size) → wpAnyH Try.prog .any ops (NoPanic Q) S 8 #[true, true, true, false, false, false, false, false, false, false, false] { tmps := #[t0, t1, t2, t3, t4, t5, t6, t7, t8, t9, t10, t11, t12, t13, t14, t15, t16, t17, t18, t19, t20, t21, t22, t23, t24, t25, t26, t27, x28, vA, x30, t31, t32, t33, t34, t35, t36, t37, t38, t39, t40, t41, t42, t43, t44, t45, t46, t47, t48, t49, t50, t51, t52, t53, t54, t55, t56, t57, t58, t59, t60, t61, t62, t63, t64, t65, t66, t67, t68, t69, t70, t71, t72, t73, t74, t75, t76, t77, t78, t79, t80, t81, t82, t83, t84, t85, t86, t87, t88, t89, t90, t91, t92, t93, t94, t95, t96, t97, t98, t99, t100, t101, t102, t103, t104, t105, t106, t107, t108, t109, t110, t111, t112, t113, t114, t115, t116, t117, t118], defers := [] } W := by
    intro W vA v4 qA hA ua uc z g hn kA
    refine wpAnyH_ready (rs := [3, 8]) (by rw [hops.out]; kernel_rfl) (by simp) ?_
    refine AllReadyH.cons (o := ?_) ?_ (fun K hK => ?_) ?_
    rotate_left 1
    · rw [hops.out]; unfold fOps8; simp only [List.getElem?_toArray, List.getElem?_cons_succ, List.getElem?_cons_zero]; rfl
    · rw [if_pos (by rfl)]
      go_simp
      refine (H2 W g).mono ?_
      rintro e w2 ⟨y, rfl, oy, b2⟩
      unfold recC at *
      have b2s := b2.size
      have g2 : Below n1 w1 w2 := g.trans (b2.mono hn)
      have hn2 : n1 ≤ w2.heap.size := Nat.le_trans hn b2.size
      have hSW := hS w2 g2
      refine hK.out _ _ hSW (fun _ => ?_)
      exact h20 w2 vA y qA hA ua uc z g2 hn2 ⟨kA.1, kA.2.1.below b2 kA.2.2, Nat.le_trans kA.2.2 b2s⟩ (owns_baseS oy hn) 
    refine AllReadyH.cons (o := ?_) ?_ (fun K hK => ?_) ?_
    rotate_left 1
    · rw [hops.out]; unfold fOps8; simp only [List.getElem?_toArray, List.getElem?_cons_succ, List.getElem?_cons_zero]; rfl
    · rw [if_pos (by rfl)]
      go_simp
      have g2 : Below n1 w1 (W.alloc (.cells #[.int .i64 0, .int .i64 0, .int .i64 0, .int .i64 0, .int .i64 0, .slice none 0 0, .int .i64 0, .bool false] 26)) := g.alloc hn _
      refine hK.out _ _ (hS _ g2) (fun _ => ?_)
      exact h11 _ vA v4 qA hA ua uc _ g2 (by simp; omega) ⟨kA.1, kA.2.1.below ((Below.refl _ _).alloc (Nat.le_refl _) _) kA.2.2, by have := kA.2.2; simp; omega⟩ ⟨heap_alloc_new _ _, hn⟩
    exact AllReadyH.nil
  have h00 : ∀ (W : World) (vA v4 : Value) (qA : List RP) (hA : Nat) (ua : Option Addr) (uc z : Nat), Below n1 w1 W → n1 ≤ W.heap.size → wpAnyH Try.prog .any ops (NoPanic Q) S 9 #[true, false, true, false, false, false, false, false, false, false, false] { tmps := #[t0, t1, t2, t3, t4, t5, t6, t7, t8, t9, t10, t11, t12, t13, t14, t15, t16, t17, t18, t19, t20, t21, t22, t23, t24, t25, t26, t27, x28, t29, x30, t31, t32, t33, t34, t35, t36, t37, t38, t39, t40, t41, t42, t43, t44, t45, t46, t47, t48, t49, t50, t51, t52, t53, t54, t55, t56, t57, t58, t59, t60, t61, t62, t63, t64, t65, t66, t67, t68, t69, t70, t71, t72, t73, t74, t75, t76, t77, t78, t79, t80, t81, t82, t83, t84, t85, t86, t87, t88, t89, t90, t91, t92, t93, t94, t95, t96, t97, t98, t99, t100, t101, t102, t103, t104, t105, t106, t107, t108, t109, t110, t111, t112, t113, t114, t115, t116, t117, t118], defers := [] } W := by
    intro W vA v4 qA hA ua uc z g hn
    refine wpAnyH_ready (rs := [1, 8]) (by rw [hops.out]; kernel_rfl) (by simp) ?_
    refine AllReadyH.cons (o := ?_) ?_ (fun K hK => ?_) ?_
    rotate_left 1
    · rw [hops.out]; unfold fOps8; simp only [List.getElem?_toArray, List.getElem?_cons_succ, List.getElem?_cons_zero]; rfl
    · rw [if_pos (by rfl)]
      go_simp
      refine (H1 W g).mono ?_
      rintro e w2 ⟨y, qs, rfl, fq, oq, b2⟩
      have b2s := b2.size
      have g2 : Below n1 w1 w2 := g.trans (b2.mono hn)
      have hn2 : n1 ≤ w2.heap.size := Nat.le_trans hn b2.size
      have hSW := hS w2 g2
      refine hK.out _ _ hSW (fun _ => ?_)
      exact h10 w2 y v4 qs w2.heap.size ua uc z g2 hn2 ⟨fq, oq.wide hn (Nat.le_refl _), Nat.le_refl _⟩ 
    refine AllReadyH.cons (o := ?_) ?_ (fun K hK => ?_) ?_
    rotate_left 1
    · rw [hops.out]; unfold fOps8; simp only [List.getElem?_toArray, List.getElem?_cons_succ, List.getElem?_cons_zero]; rfl
    · rw [if_pos (by rfl)]
      go_simp
      have g2 : Below n1 w1 (W.alloc (.cells #[.int .i64 0, .int .i64 0, .int .i64 0, .int .i64 0, .int .i64 0, .slice none 0 0, .int .i64 0, .bool false] 26)) := g.alloc hn _
      refine hK.out _ _ (hS _ g2) (fun _ => ?_)
      exact h01 _ vA v4 qA hA ua uc _ g2 (by simp; omega) ⟨heap_alloc_new _ _, hn⟩
    exact AllReadyH.nil
  exact h00 w1 undef undef [] 0 none 0 0 (Below.refl _ _) hn1

def fOps31 : Array Oper := #[{ dst := some 95, op := Go.Op.move (Go.Operand.tmp 0), type := 52, pos := "exact.go:2510", after := #[], guard := none }, { dst := some 96, op := Go.Op.call { callee := Go.Callee.value (Go.Operand.func 43), args := #[Go.Operand.tmp 95], argTypes := #[52] }, type := 43, pos := "exact.go:2510", after := #[{ on := 0, ground := Go.Ground.data }], guard := none }, { dst := some 97, op := Go.Op.load 39 (Go.Operand.tmp 3), type := 39, pos := "exact.go:2510", after := #[], guard := none }, { dst := some 98, op := Go.Op.call { callee := Go.Callee.value (Go.Operand.func 32), args := #[Go.Operand.tmp 97], argTypes := #[39] }, type := 26, pos := "exact.go:2510", after := #[{ on := 2, ground := Go.Ground.data }, { on := 1, ground := Go.Ground.chain }], guard := none }, { dst := some 99, op := Go.Op.call { callee := Go.Callee.value (Go.Operand.func 38), args := #[Go.Operand.tmp 96, Go.Operand.tmp 98], argTypes := #[43, 26] }, type := 30, pos := "exact.go:2510", after := #[{ on := 1, ground := Go.Ground.data }, { on := 3, ground := Go.Ground.data }, { on := 3, ground := Go.Ground.chain }], guard := none }, { dst := some 94, op := Go.Op.move (Go.Operand.tmp 99), type := 30, pos := "exact.go:2510", after := #[{ on := 4, ground := Go.Ground.data }], guard := none }, { dst := some 100, op := Go.Op.extract (Go.Operand.tmp 94) 0, type := 26, pos := "exact.go:2510", after := #[{ on := 5, ground := Go.Ground.data }], guard := none }, { dst := some 101, op := Go.Op.extract (Go.Operand.tmp 94) 1, type := 4, pos := "exact.go:2510", after := #[{ on := 5, ground := Go.Ground.data }, { on := 9, ground := Go.Ground.gcOnly Go.Departure.lateStores }], guard := none }, { dst := some 15, op := Go.Op.alloc 26, type := 0, pos := "exact.go:2510", after := #[], guard := none }, { dst := none, op := Go.Op.store 26 (Go.Operand.tmp 15) (Go.Operand.tmp 100), type := 0, pos := "exact.go:2510", after := #[{ on := 8, ground := Go.Ground.data }, { on := 6, ground := Go.Ground.data }, { on := 4, ground := Go.Ground.chain }, { on := 0, ground := Go.Ground.phase }, { on := 1, ground := Go.Ground.phase }, { on := 2, ground := Go.Ground.phase }, { on := 3, ground := Go.Ground.phase }, { on := 4, ground := Go.Ground.phase }, { on := 5, ground := Go.Ground.phase }, { on := 6, ground := Go.Ground.phase }, { on := 7, ground := Go.Ground.textOnly Go.Departure.lateStores }, { on := 8, ground := Go.Ground.phase }], guard := none }, { dst := some 16, op := Go.Op.assign (Go.Operand.tmp 101), type := 4, pos := "exact.go:2510", after := #[{ on := 7, ground := Go.Ground.data }, { on := 9, ground := Go.Ground.chain }, { on := 0, ground := Go.Ground.phase }, { on := 1, ground := Go.Ground.phase }, { on := 2, ground := Go.Ground.phase }, { on := 3, ground := Go.Ground.phase }, { on := 4, ground := Go.Ground.phase }, { on := 5, ground := Go.Ground.phase }, { on := 6, ground := Go.Ground.phase }, { on := 7, ground := Go.Ground.phase }, { on := 8, ground := Go.Ground.phase }, { on := 9, ground := Go.Ground.phase }], guard := none }]

set_option maxRecDepth 100000 in
set_option maxHeartbeats 8000000 in
theorem find_dag31 {t0 t1 t2 t3 t4 t5 t6 t7 t8 t9 t10 t11 t12 t13 t14 t15 t16 t17 t18 t19 t20 t21 t22 t23 t24 t25 t26 t27 t28 t29 t30 t31 t32 t33 t34 t35 t36 t37 t38 t39 t40 t41 t42 t43 t44 t45 t46 t47 t48 t49 t50 t51 t52 t53 t54 t55 t56 t57 t58 t59 t60 t61 t62 t63 t64 t65 t66 t67 t68 t69 t70 t71 t72 t73 t74 t75 t76 t77 t78 t79 t80 t81 t82 t83 t84 t85 t86 t87 t88 t89 t90 t91 t92 t93 t94 t96 t98 t99 t100 t101 t102 t103 t104 t105 t106 t107 t108 t109 t110 t111 t112 t113 t114 t115 t116 t117 t118 : Value} (x D : RecD) (F : Bool) (L : List RecD) (x28 x30 : Value) (n1 : Nat) (w1 : World) (Q : Exit → Act → World → Prop) (S : World → Prop) (ops : Array Oper) (hops : Hid (ops = fOps31)) (hn1 : n1 ≤ w1.heap.size) (hS : ∀ W, Below n1 w1 W → S W)
    (H1 : ∀ W, Below n1 w1 W → Calls Try.prog 43 #[x28] W fun e w' => ∃ x qs, e = .returned x ∧ fsts qs = L ∧ RecsOwn w' W.heap.size w'.heap.size x qs ∧ Below W.heap.size W w')
    (H2 : ∀ W, Below n1 w1 W → Calls Try.prog 32 #[x30] W fun e w' => ∃ v1, e = .returned (.agg #[.int .i64 x.area, .int .i64 x.kind, .int .i64 x.owner, .int .i64 x.key, .int .i64 x.seq, v1, .int .i64 x.cost, .bool x.far]) ∧ w'.ownsRow W.heap.size 67 2 v1 x.near.length (flat nrE x.near) ∧ Below W.heap.size W w')
    (H3 : ∀ v qs lo hi u rlo W, fsts qs = L → RecsOwn W lo hi v qs → hi ≤ W.heap.size → W.ownsRow rlo 67 2 u x.near.length (flat nrE x.near) → Calls Try.prog 38 #[v, .agg #[.int .i64 x.area, .int .i64 x.kind, .int .i64 x.owner, .int .i64 x.key, .int .i64 x.seq, u, .int .i64 x.cost, .bool x.far]] W fun e w' => ∃ u', e = .returned (.tuple #[.agg #[.int .i64 D.area, .int .i64 D.kind, .int .i64 D.owner, .int .i64 D.key, .int .i64 D.seq, u', .int .i64 D.cost, .bool D.far], .bool F]) ∧ w'.ownsRow W.heap.size 67 2 u' D.near.length (flat nrE D.near) ∧ Below W.heap.size W w')
    (hend : ∀ W vA v4 ua uc z, Below n1 w1 W → RecBox W n1 z D (.slice ua D.near.length uc) → Q .normal { tmps := #[t0, t1, t2, t3, t4, t5, t6, t7, t8, t9, t10, t11, t12, t13, t14, .pointer (some ⟨z, 0, none⟩), .bool F, t17, t18, t19, t20, t21, t22, t23, t24, t25, t26, t27, t28, t29, t30, t31, t32, t33, t34, t35, t36, t37, t38, t39, t40, t41, t42, t43, t44, t45, t46, t47, t48, t49, t50, t51, t52, t53, t54, t55, t56, t57, t58, t59, t60, t61, t62, t63, t64, t65, t66, t67, t68, t69, t70, t71, t72, t73, t74, t75, t76, t77, t78, t79, t80, t81, t82, t83, t84, t85, t86, t87, t88, t89, t90, t91, t92, t93, .tuple #[.agg #[.int .i64 D.area, .int .i64 D.kind, .int .i64 D.owner, .int .i64 D.key, .int .i64 D.seq, (.slice ua D.near.length uc), .int .i64 D.cost, .bool D.far], .bool F], x28, vA, x30, .agg #[.int .i64 x.area, .int .i64 x.kind, .int .i64 x.owner, .int .i64 x.key, .int .i64 x.seq, v4, .int .i64 x.cost, .bool x.far], .tuple #[.agg #[.int .i64 D.area, .int .i64 D.kind, .int .i64 D.owner, .int .i64 D.key, .int .i64 D.seq, (.slice ua D.near.length uc), .int .i64 D.cost, .bool D.far], .bool F], .agg #[.int .i64 D.area, .int .i64 D.kind, .int .i64 D.owner, .int .i64 D.key, .int .i64 D.seq, (.slice ua D.near.length uc), .int .i64 D.cost, .bool D.far], .bool F, t102, t103, t104, t105, t106, t107, t108, t109, t110, t111, t112, t113, t114, t115, t116, t117, t118], defers := [] } W) :
    wpAnyH Try.prog .any ops (NoPanic Q) S 9 #[true, false, true, false, false, false, false, false, false, false, false] { tmps := #[t0, t1, t2, t3, t4, t5, t6, t7, t8, t9, t10, t11, t12, t13, t14, t15, t16, t17, t18, t19, t20, t21, t22, t23, t24, t25, t26, t27, t28, t29, t30, t31, t32, t33, t34, t35, t36, t37, t38, t39, t40, t41, t42, t43, t44, t45, t46, t47, t48, t49, t50, t51, t52, t53, t54, t55, t56, t57, t58, t59, t60, t61, t62, t63, t64, t65, t66, t67, t68, t69, t70, t71, t72, t73, t74, t75, t76, t77, t78, t79, t80, t81, t82, t83, t84, t85, t86, t87, t88, t89, t90, t91, t92, t93, t94, x28, t96, x30, t98, t99, t100, t101, t102, t103, t104, t105, t106, t107, t108, t109, t110, t111, t112, t113, t114, t115, t116, t117, t118], defers := [] } w1 := by
  have h31 : ∀ (W : World) (vA v4 : Value) (qA : List RP) (hA : Nat) (ua : Option Addr) (uc z : Nat), Below n1 w1 W → n1 ≤ W.heap.size → W.ownsRow n1 67 2 (.slice ua D.near.length uc) D.near.length (flat nrE D.near) → (W.heap[z]? = some (.cells #[.int .i64 0, .int .i64 0, .int .i64 0, .int .i64 0, .int .i64 0, .slice none 0 0, .int .i64 0, .bool false] 26) ∧ n1 ≤ z) → wpAnyH Try.prog .any ops (NoPanic Q) S 2 #[true, true, true, true, true, true, true, true, true, false, false] { tmps := #[t0, t1, t2, t3, t4, t5, t6, t7, t8, t9, t10, t11, t12, t13, t14, .pointer (some ⟨z, 0, none⟩), t16, t17, t18, t19, t20, t21, t22, t23, t24, t25, t26, t27, t28, t29, t30, t31, t32, t33, t34, t35, t36, t37, t38, t39, t40, t41, t42, t43, t44, t45, t46, t47, t48, t49, t50, t51, t52, t53, t54, t55, t56, t57, t58, t59, t60, t61, t62, t63, t64, t65, t66, t67, t68, t69, t70, t71, t72, t73, t74, t75, t76, t77, t78, t79, t80, t81, t82, t83, t84, t85, t86, t87, t88, t89, t90, t91, t92, t93, .tuple #[.agg #[.int .i64 D.area, .int .i64 D.kind, .int .i64 D.owner, .int .i64 D.key, .int .i64 D.seq, (.slice ua D.near.length uc), .int .i64 D.cost, .bool D.far], .bool F], x28, vA, x30, .agg #[.int .i64 x.area, .int .i64 x.kind, .int .i64 x.owner, .int .i64 x.key, .int .i64 x.seq, v4, .int .i64 x.cost, .bool x.far], .tuple #[.agg #[.int .i64 D.area, .int .i64 D.kind, .int .i64 D.owner, .int .i64 D.key, .int .i64 D.seq, (.slice ua D.near.length uc), .int .i64 D.cost, .bool D.far], .bool F], .agg #[.int .i64 D.area, .int .i64 D.kind, .int .i64 D.owner, .int .i64 D.key, .int .i64 D.seq, (.slice ua D.near.length uc), .int .i64 D.cost, .bool D.far], .bool F, t102, t103, t104, t105, t106, t107, t108, t109, t110, t111, t112, t113, t114, t115, t116, t117, t118], defers := [] } W := by
    intro W vA v4 qA hA ua uc z g hn k5 kz
    refine wpAnyH_ready (rs := [9]) (by rw [hops.out]; kernel_rfl) (by simp) ?_
    refine AllReadyH.cons (o := ?_) ?_ (fun K hK => ?_) ?_
    rotate_left 1
    · rw [hops.out]; unfold fOps31; simp only [List.getElem?_toArray, List.getElem?_cons_succ, List.getElem?_cons_zero]; rfl
    · rw [if_pos (by rfl)]
      have y0 := cells_at kz.1 0
      have y1 := cells_at kz.1 1
      have y2 := cells_at kz.1 2
      have y3 := cells_at kz.1 3
      have y4 := cells_at kz.1 4
      have y5 := cells_at kz.1 5
      have y6 := cells_at kz.1 6
      have y7 := cells_at kz.1 7
      simp at y0 y1 y2 y3 y4 y5 y6 y7
      have fy := frozen_at kz.1
      have FF := fin85 D (.slice ua D.near.length uc) kz.1
      have G8 := grown85 W z D (.slice ua D.near.length uc)
      have hzl := lt_of_heap kz.1
      have g2 := g.grown G8 hn (fun k hk => by have := kz.2; simp at hk; omega)
      have o8 := owns_keepB k5 (W' := putR5 W z D (.slice ua D.near.length uc)) (fun j hj => G8.block j (k5.lt j hj).2 (fun e => own_type_ne2 k5 kz.1 (by decide) (by rw [hj, e])))
      have hSW := hS _ g2
      have hlow := kz.2
      go_simp
      refine hK.out _ _ hSW (fun _ => ?_)
      refine take_do 10 (oi := ?_) (v := ?_) ?_ (by rw [hops.out]; kernel_rfl) ?_ ?_ ?_ (by assumption) ?_
      rotate_left 2
      · rw [hops.out]; unfold fOps31; simp only [List.getElem?_toArray, List.getElem?_cons_succ, List.getElem?_cons_zero]; rfl
      · rw [hops.out]; kernel_rfl
      · intro W hW; (try dsimp only at hW); go_simp <;> with_reducible rfl
      · exact fun _ _ _ h => h
      try simp only [Act.put, List.setIfInBounds_toArray, List.set_cons_zero, List.set_cons_succ]
      exact wpAnyH_done (by rw [hops.out]; kernel_rfl) (NoPanic.normal (hend _ vA v4 ua uc z g2 ⟨FF, o8, hlow⟩)) _
    exact AllReadyH.nil
  have h21 : ∀ (W : World) (vA v4 : Value) (qA : List RP) (hA : Nat) (ua : Option Addr) (uc z : Nat), Below n1 w1 W → n1 ≤ W.heap.size → (fsts qA = L ∧ RecsOwn W n1 hA vA qA ∧ hA ≤ W.heap.size) → W.ownsRow n1 67 2 v4 x.near.length (flat nrE x.near) → (W.heap[z]? = some (.cells #[.int .i64 0, .int .i64 0, .int .i64 0, .int .i64 0, .int .i64 0, .slice none 0 0, .int .i64 0, .bool false] 26) ∧ n1 ≤ z) → wpAnyH Try.prog .any ops (NoPanic Q) S 6 #[true, true, true, true, false, false, false, false, true, false, false] { tmps := #[t0, t1, t2, t3, t4, t5, t6, t7, t8, t9, t10, t11, t12, t13, t14, .pointer (some ⟨z, 0, none⟩), t16, t17, t18, t19, t20, t21, t22, t23, t24, t25, t26, t27, t28, t29, t30, t31, t32, t33, t34, t35, t36, t37, t38, t39, t40, t41, t42, t43, t44, t45, t46, t47, t48, t49, t50, t51, t52, t53, t54, t55, t56, t57, t58, t59, t60, t61, t62, t63, t64, t65, t66, t67, t68, t69, t70, t71, t72, t73, t74, t75, t76, t77, t78, t79, t80, t81, t82, t83, t84, t85, t86, t87, t88, t89, t90, t91, t92, t93, t94, x28, vA, x30, .agg #[.int .i64 x.area, .int .i64 x.kind, .int .i64 x.owner, .int .i64 x.key, .int .i64 x.seq, v4, .int .i64 x.cost, .bool x.far], t99, t100, t101, t102, t103, t104, t105, t106, t107, t108, t109, t110, t111, t112, t113, t114, t115, t116, t117, t118], defers := [] } W := by
    intro W vA v4 qA hA ua uc z g hn kA k4 kz
    refine wpAnyH_ready (rs := [4]) (by rw [hops.out]; kernel_rfl) (by simp) ?_
    refine AllReadyH.cons (o := ?_) ?_ (fun K hK => ?_) ?_
    rotate_left 1
    · rw [hops.out]; unfold fOps31; simp only [List.getElem?_toArray, List.getElem?_cons_succ, List.getElem?_cons_zero]; rfl
    · rw [if_pos (by rfl)]
      go_simp
      refine (H3 vA qA n1 hA v4 n1 W kA.1 kA.2.1 kA.2.2 k4).mono ?_
      rintro e w2 ⟨y, rfl, oy, b2⟩
      obtain ⟨ya, yc, rfl⟩ := owns_lenS oy
      unfold recC at *
      have b2s := b2.size
      have g2 : Below n1 w1 w2 := g.trans (b2.mono hn)
      have hn2 : n1 ≤ w2.heap.size := Nat.le_trans hn b2.size
      have hSW := hS w2 g2
      refine hK.out _ _ hSW (fun _ => ?_)
      refine take_do 5 (oi := ?_) (v := ?_) ?_ (by rw [hops.out]; kernel_rfl) ?_ ?_ ?_ (by assumption) ?_
      rotate_left 2
      · rw [hops.out]; unfold fOps31; simp only [List.getElem?_toArray, List.getElem?_cons_succ, List.getElem?_cons_zero]; rfl
      · rw [hops.out]; kernel_rfl
      · intro W hW; (try dsimp only at hW); go_simp <;> with_reducible rfl
      · exact fun _ _ _ h => h
      try simp only [Act.put, List.setIfInBounds_toArray, List.set_cons_zero, List.set_cons_succ]
      refine take_do 6 (oi := ?_) (v := ?_) ?_ (by rw [hops.out]; kernel_rfl) ?_ ?_ ?_ (by assumption) ?_
      rotate_left 2
      · rw [hops.out]; unfold fOps31; simp only [List.getElem?_toArray, List.getElem?_cons_succ, List.getElem?_cons_zero]; rfl
      · rw [hops.out]; kernel_rfl
      · intro W hW; (try dsimp only at hW); go_simp <;> with_reducible rfl
      · exact fun _ _ _ h => h
      try simp only [Act.put, List.setIfInBounds_toArray, List.set_cons_zero, List.set_cons_succ]
      refine take_do 7 (oi := ?_) (v := ?_) ?_ (by rw [hops.out]; kernel_rfl) ?_ ?_ ?_ (by assumption) ?_
      rotate_left 2
      · rw [hops.out]; unfold fOps31; simp only [List.getElem?_toArray, List.getElem?_cons_succ, List.getElem?_cons_zero]; rfl
      · rw [hops.out]; kernel_rfl
      · intro W hW; (try dsimp only at hW); go_simp <;> with_reducible rfl
      · exact fun _ _ _ h => h
      try simp only [Act.put, List.setIfInBounds_toArray, List.set_cons_zero, List.set_cons_succ]
      exact h31 w2 vA v4 qA hA ya yc z g2 hn2 (owns_baseS oy hn) ⟨(b2.block _ (lt_of_heap kz.1)).trans kz.1, kz.2⟩
    exact AllReadyH.nil
  have h11 : ∀ (W : World) (vA v4 : Value) (qA : List RP) (hA : Nat) (ua : Option Addr) (uc z : Nat), Below n1 w1 W → n1 ≤ W.heap.size → (fsts qA = L ∧ RecsOwn W n1 hA vA qA ∧ hA ≤ W.heap.size) → (W.heap[z]? = some (.cells #[.int .i64 0, .int .i64 0, .int .i64 0, .int .i64 0, .int .i64 0, .slice none 0 0, .int .i64 0, .bool false] 26) ∧ n1 ≤ z) → wpAnyH Try.prog .any ops (NoPanic Q) S 7 #[true, true, true, false, false, false, false, false, true, false, false] { tmps := #[t0, t1, t2, t3, t4, t5, t6, t7, t8, t9, t10, t11, t12, t13, t14, .pointer (some ⟨z, 0, none⟩), t16, t17, t18, t19, t20, t21, t22, t23, t24, t25, t26, t27, t28, t29, t30, t31, t32, t33, t34, t35, t36, t37, t38, t39, t40, t41, t42, t43, t44, t45, t46, t47, t48, t49, t50, t51, t52, t53, t54, t55, t56, t57, t58, t59, t60, t61, t62, t63, t64, t65, t66, t67, t68, t69, t70, t71, t72, t73, t74, t75, t76, t77, t78, t79, t80, t81, t82, t83, t84, t85, t86, t87, t88, t89, t90, t91, t92, t93, t94, x28, vA, x30, t98, t99, t100, t101, t102, t103, t104, t105, t106, t107, t108, t109, t110, t111, t112, t113, t114, t115, t116, t117, t118], defers := [] } W := by
    intro W vA v4 qA hA ua uc z g hn kA kz
    refine wpAnyH_ready (rs := [3]) (by rw [hops.out]; kernel_rfl) (by simp) ?_
    refine AllReadyH.cons (o := ?_) ?_ (fun K hK => ?_) ?_
    rotate_left 1
    · rw [hops.out]; unfold fOps31; simp only [List.getElem?_toArray, List.getElem?_cons_succ, List.getElem?_cons_zero]; rfl
    · rw [if_pos (by rfl)]
      go_simp
      refine (H2 W g).mono ?_
      rintro e w2 ⟨y, rfl, oy, b2⟩
      unfold recC at *
      have b2s := b2.size
      have g2 : Below n1 w1 w2 := g.trans (b2.mono hn)
      have hn2 : n1 ≤ w2.heap.size := Nat.le_trans hn b2.size
      have hSW := hS w2 g2
      refine hK.out _ _ hSW (fun _ => ?_)
      exact h21 w2 vA y qA hA ua uc z g2 hn2 ⟨kA.1, kA.2.1.below b2 kA.2.2, Nat.le_trans kA.2.2 b2s⟩ (owns_baseS oy hn) ⟨(b2.block _ (lt_of_heap kz.1)).trans kz.1, kz.2⟩
    exact AllReadyH.nil
  have h01 : ∀ (W : World) (vA v4 : Value) (qA : List RP) (hA : Nat) (ua : Option Addr) (uc z : Nat), Below n1 w1 W → n1 ≤ W.heap.size → (W.heap[z]? = some (.cells #[.int .i64 0, .int .i64 0, .int .i64 0, .int .i64 0, .int .i64 0, .slice none 0 0, .int .i64 0, .bool false] 26) ∧ n1 ≤ z) → wpAnyH Try.prog .any ops (NoPanic Q) S 8 #[true, false, true, false, false, false, false, false, true, false, false] { tmps := #[t0, t1, t2, t3, t4, t5, t6, t7, t8, t9, t10, t11, t12, t13, t14, .pointer (some ⟨z, 0, none⟩), t16, t17, t18, t19, t20, t21, t22, t23, t24, t25, t26, t27, t28, t29, t30, t31, t32, t33, t34, t35, t36, t37, t38, t39, t40, t41, t42, t43, t44, t45, t46, t47, t48, t49, t50, t51, t52, t53, t54, t55, t56, t57, t58, t59, t60, t61, t62, t63, t64, t65, t66, t67, t68, t69, t70, t71, t72, t73, t74, t75, t76, t77, t78, t79, t80, t81, t82, t83, t84, t85, t86, t87, t88, t89, t90, t91, t92, t93, t94, x28, t96, x30, t98, t99, t100, t101, t102, t103, t104, t105, t106, t107, t108, t109, t110, t111, t112, t113, t114, t115, t116, t117, t118], defers := [] } W := by
    intro W vA v4 qA hA ua uc z g hn kz
    refine wpAnyH_ready (rs := [1]) (by rw [hops.out]; kernel_rfl) (by simp) ?_
    refine AllReadyH.cons (o := ?_) ?_ (fun K hK => ?_) ?_
    rotate_left 1
    · rw [hops.out]; unfold fOps31; simp only [List.getElem?_toArray, List.getElem?_cons_succ, List.getElem?_cons_zero]; rfl
    · rw [if_pos (by rfl)]
      go_simp
      refine (H1 W g).mono ?_
      rintro e w2 ⟨y, qs, rfl, fq, oq, b2⟩
      have b2s := b2.size
      have g2 : Below n1 w1 w2 := g.trans (b2.mono hn)
      have hn2 : n1 ≤ w2.heap.size := Nat.le_trans hn b2.size
      have hSW := hS w2 g2
      refine hK.out _ _ hSW (fun _ => ?_)
      exact h11 w2 y v4 qs w2.heap.size ua uc z g2 hn2 ⟨fq, oq.wide hn (Nat.le_refl _), Nat.le_refl _⟩ ⟨(b2.block _ (lt_of_heap kz.1)).trans kz.1, kz.2⟩
    exact AllReadyH.nil
  have h30 : ∀ (W : World) (vA v4 : Value) (qA : List RP) (hA : Nat) (ua : Option Addr) (uc z : Nat), Below n1 w1 W → n1 ≤ W.heap.size → W.ownsRow n1 67 2 (.slice ua D.near.length uc) D.near.length (flat nrE D.near) → wpAnyH Try.prog .any ops (NoPanic Q) S 3 #[true, true, true, true, true, true, true, true, false, false, false] { tmps := #[t0, t1, t2, t3, t4, t5, t6, t7, t8, t9, t10, t11, t12, t13, t14, t15, t16, t17, t18, t19, t20, t21, t22, t23, t24, t25, t26, t27, t28, t29, t30, t31, t32, t33, t34, t35, t36, t37, t38, t39, t40, t41, t42, t43, t44, t45, t46, t47, t48, t49, t50, t51, t52, t53, t54, t55, t56, t57, t58, t59, t60, t61, t62, t63, t64, t65, t66, t67, t68, t69, t70, t71, t72, t73, t74, t75, t76, t77, t78, t79, t80, t81, t82, t83, t84, t85, t86, t87, t88, t89, t90, t91, t92, t93, .tuple #[.agg #[.int .i64 D.area, .int .i64 D.kind, .int .i64 D.owner, .int .i64 D.key, .int .i64 D.seq, (.slice ua D.near.length uc), .int .i64 D.cost, .bool D.far], .bool F], x28, vA, x30, .agg #[.int .i64 x.area, .int .i64 x.kind, .int .i64 x.owner, .int .i64 x.key, .int .i64 x.seq, v4, .int .i64 x.cost, .bool x.far], .tuple #[.agg #[.int .i64 D.area, .int .i64 D.kind, .int .i64 D.owner, .int .i64 D.key, .int .i64 D.seq, (.slice ua D.near.length uc), .int .i64 D.cost, .bool D.far], .bool F], .agg #[.int .i64 D.area, .int .i64 D.kind, .int .i64 D.owner, .int .i64 D.key, .int .i64 D.seq, (.slice ua D.near.length uc), .int .i64 D.cost, .bool D.far], .bool F, t102, t103, t104, t105, t106, t107, t108, t109, t110, t111, t112, t113, t114, t115, t116, t117, t118], defers := [] } W := by
    intro W vA v4 qA hA ua uc z g hn k5
    refine wpAnyH_ready (rs := [8]) (by rw [hops.out]; kernel_rfl) (by simp) ?_
    refine AllReadyH.cons (o := ?_) ?_ (fun K hK => ?_) ?_
    rotate_left 1
    · rw [hops.out]; unfold fOps31; simp only [List.getElem?_toArray, List.getElem?_cons_succ, List.getElem?_cons_zero]; rfl
    · rw [if_pos (by rfl)]
      go_simp
      have g2 : Below n1 w1 (W.alloc (.cells #[.int .i64 0, .int .i64 0, .int .i64 0, .int .i64 0, .int .i64 0, .slice none 0 0, .int .i64 0, .bool false] 26)) := g.alloc hn _
      refine hK.out _ _ (hS _ g2) (fun _ => ?_)
      exact h31 _ vA v4 qA hA ua uc _ g2 (by simp; omega) (k5.alloc _) ⟨heap_alloc_new _ _, hn⟩
    exact AllReadyH.nil
  have h20 : ∀ (W : World) (vA v4 : Value) (qA : List RP) (hA : Nat) (ua : Option Addr) (uc z : Nat), Below n1 w1 W → n1 ≤ W.heap.size → (fsts qA = L ∧ RecsOwn W n1 hA vA qA ∧ hA ≤ W.heap.size) → W.ownsRow n1 67 2 v4 x.near.length (flat nrE x.near) → wpAnyH Try.prog .any ops (NoPanic Q) S 7 #[true, true, true, true, false, false, false, false, false, false, false] { tmps := #[t0, t1, t2, t3, t4, t5, t6, t7, t8, t9, t10, t11, t12, t13, t14, t15, t16, t17, t18, t19, t20, t21, t22, t23, t24, t25, t26, t27, t28, t29, t30, t31, t32, t33, t34, t35, t36, t37, t38, t39, t40, t41, t42, t43, t44, t45, t46, t47, t48, t49, t50, t51, t52, t53, t54, t55, t56, t57, t58, t59, t60, t61, t62, t63, t64, t65, t66, t67, t68, t69, t70, t71, t72, t73, t74, t75, t76, t77, t78, t79, t80, t81, t82, t83, t84, t85, t86, t87, t88, t89, t90, t91, t92, t93, t94, x28, vA, x30, .agg #[.int .i64 x.area, .int .i64 x.kind, .int .i64 x.owner, .int .i64 x.key, .int .i64 x.seq, v4, .int .i64 x.cost, .bool x.far], t99, t100, t101, t102, t103, t104, t105, t106, t107, t108, t109, t110, t111, t112, t113, t114, t115, t116, t117, t118], defers := [] } W := by
    intro W vA v4 qA hA ua uc z g hn kA k4
    refine wpAnyH_ready (rs := [4, 8]) (by rw [hops.out]; kernel_rfl) (by simp) ?_
    refine AllReadyH.cons (o := ?_) ?_ (fun K hK => ?_) ?_
    rotate_left 1
    · rw [hops.out]; unfold fOps31; simp only [List.getElem?_toArray, List.getElem?_cons_succ, List.getElem?_cons_zero]; rfl
    · rw [if_pos (by rfl)]
      go_simp
      refine (H3 vA qA n1 hA v4 n1 W kA.1 kA.2.1 kA.2.2 k4).mono ?_
      rintro e w2 ⟨y, rfl, oy, b2⟩
      obtain ⟨ya, yc, rfl⟩ := owns_lenS oy
      unfold recC at *
      have b2s := b2.size
      have g2 : Below n1 w1 w2 := g.trans (b2.mono hn)
      have hn2 : n1 ≤ w2.heap.size := Nat.le_trans hn b2.size
      have hSW := hS w2 g2
      refine hK.out _ _ hSW (fun _ => ?_)
      refine take_do 5 (oi := ?_) (v := ?_) ?_ (by rw [hops.out]; kernel_rfl) ?_ ?_ ?_ (by assumption) ?_
      rotate_left 2
      · rw [hops.out]; unfold fOps31; simp only [List.getElem?_toArray, List.getElem?_cons_succ, List.getElem?_cons_zero]; rfl
      · rw [hops.out]; kernel_rfl
      · intro W hW; (try dsimp only at hW); go_simp <;> with_reducible rfl
      · exact fun _ _ _ h => h
      try simp only [Act.put, List.setIfInBounds_toArray, List.set_cons_zero, List.set_cons_succ]
      refine take_do 6 (oi := ?_) (v := ?_) ?_ (by rw [hops.out]; kernel_rfl) ?_ ?_ ?_ (by assumption) ?_
      rotate_left 2
      · rw [hops.out]; unfold fOps31; simp only [List.getElem?_toArray, List.getElem?_cons_succ, List.getElem?_cons_zero]; rfl
      · rw [hops.out]; kernel_rfl
      · intro W hW; (try dsimp only at hW); go_simp <;> with_reducible rfl
      · exact fun _ _ _ h => h
      try simp only [Act.put, List.setIfInBounds_toArray, List.set_cons_zero, List.set_cons_succ]
      refine take_do 7 (oi := ?_) (v := ?_) ?_ (by rw [hops.out]; kernel_rfl) ?_ ?_ ?_ (by assumption) ?_
      rotate_left 2
      · rw [hops.out]; unfold fOps31; simp only [List.getElem?_toArray, List.getElem?_cons_succ, List.getElem?_cons_zero]; rfl
      · rw [hops.out]; kernel_rfl
      · intro W hW; (try dsimp only at hW); go_simp <;> with_reducible rfl
      · exact fun _ _ _ h => h
      try simp only [Act.put, List.setIfInBounds_toArray, List.set_cons_zero, List.set_cons_succ]
      exact h30 w2 vA v4 qA hA ya yc z g2 hn2 (owns_baseS oy hn) 
    refine AllReadyH.cons (o := ?_) ?_ (fun K hK => ?_) ?_
    rotate_left 1
    · rw [hops.out]; unfold fOps31; simp only [List.getElem?_toArray, List.getElem?_cons_succ, List.getElem?_cons_zero]; rfl
    · rw [if_pos (by rfl)]
      go_simp
      have g2 : Below n1 w1 (W.alloc (.cells #[.int .i64 0, .int .i64 0, .int .i64 0, .int .i64 0, .int .i64 0, .slice none 0 0, .int .i64 0, .bool false] 26)) := g.alloc hn _
      refine hK.out _ _ (hS _ g2) (fun _ => ?_)
      exact h21 _ vA v4 qA hA ua uc _ g2 (by simp; omega) ⟨kA.1, kA.2.1.below ((Below.refl _ _).alloc (Nat.le_refl _) _) kA.2.2, by have := kA.2.2; simp; omega⟩ (k4.alloc _) ⟨heap_alloc_new _ _, hn⟩
    exact AllReadyH.nil
  have h10 : ∀ (W : World) (vA v4 : Value) (qA : List RP) (hA : Nat) (ua : Option Addr) (uc z : Nat), Below n1 w1 W → n1 ≤ W.heap.size → (fsts qA = L ∧ RecsOwn W n1 hA vA qA ∧ hA ≤ W.heap.size) → wpAnyH Try.prog .any ops (NoPanic Q) S 8 #[true, true, true, false, false, false, false, false, false, false, false] { tmps := #[t0, t1, t2, t3, t4, t5, t6, t7, t8, t9, t10, t11, t12, t13, t14, t15, t16, t17, t18, t19, t20, t21, t22, t23, t24, t25, t26, t27, t28, t29, t30, t31, t32, t33, t34, t35, t36, t37, t38, t39, t40, t41, t42, t43, t44, t45, t46, t47, t48, t49, t50, t51, t52, t53, t54, t55, t56, t57, t58, t59, t60, t61, t62, t63, t64, t65, t66, t67, t68, t69, t70, t71, t72, t73, t74, t75, t76, t77, t78, t79, t80, t81, t82, t83, t84, t85, t86, t87, t88, t89, t90, t91, t92, t93, t94, x28, vA, x30, t98, t99, t100, t101, t102, t103, t104, t105, t106, t107, t108, t109, t110, t111, t112, t113, t114, t115, t116, t117, t118], defers := [] } W := by
    intro W vA v4 qA hA ua uc z g hn kA
    refine wpAnyH_ready (rs := [3, 8]) (by rw [hops.out]; kernel_rfl) (by simp) ?_
    refine AllReadyH.cons (o := ?_) ?_ (fun K hK => ?_) ?_
    rotate_left 1
    · rw [hops.out]; unfold fOps31; simp only [List.getElem?_toArray, List.getElem?_cons_succ, List.getElem?_cons_zero]; rfl
    · rw [if_pos (by rfl)]
      go_simp
      refine (H2 W g).mono ?_
      rintro e w2 ⟨y, rfl, oy, b2⟩
      unfold recC at *
      have b2s := b2.size
      have g2 : Below n1 w1 w2 := g.trans (b2.mono hn)
      have hn2 : n1 ≤ w2.heap.size := Nat.le_trans hn b2.size
      have hSW := hS w2 g2
      refine hK.out _ _ hSW (fun _ => ?_)
      exact h20 w2 vA y qA hA ua uc z g2 hn2 ⟨kA.1, kA.2.1.below b2 kA.2.2, Nat.le_trans kA.2.2 b2s⟩ (owns_baseS oy hn) 
    refine AllReadyH.cons (o := ?_) ?_ (fun K hK => ?_) ?_
    rotate_left 1
    · rw [hops.out]; unfold fOps31; simp only [List.getElem?_toArray, List.getElem?_cons_succ, List.getElem?_cons_zero]; rfl
    · rw [if_pos (by rfl)]
      go_simp
      have g2 : Below n1 w1 (W.alloc (.cells #[.int .i64 0, .int .i64 0, .int .i64 0, .int .i64 0, .int .i64 0, .slice none 0 0, .int .i64 0, .bool false] 26)) := g.alloc hn _
      refine hK.out _ _ (hS _ g2) (fun _ => ?_)
      exact h11 _ vA v4 qA hA ua uc _ g2 (by simp; omega) ⟨kA.1, kA.2.1.below ((Below.refl _ _).alloc (Nat.le_refl _) _) kA.2.2, by have := kA.2.2; simp; omega⟩ ⟨heap_alloc_new _ _, hn⟩
    exact AllReadyH.nil
  have h00 : ∀ (W : World) (vA v4 : Value) (qA : List RP) (hA : Nat) (ua : Option Addr) (uc z : Nat), Below n1 w1 W → n1 ≤ W.heap.size → wpAnyH Try.prog .any ops (NoPanic Q) S 9 #[true, false, true, false, false, false, false, false, false, false, false] { tmps := #[t0, t1, t2, t3, t4, t5, t6, t7, t8, t9, t10, t11, t12, t13, t14, t15, t16, t17, t18, t19, t20, t21, t22, t23, t24, t25, t26, t27, t28, t29, t30, t31, t32, t33, t34, t35, t36, t37, t38, t39, t40, t41, t42, t43, t44, t45, t46, t47, t48, t49, t50, t51, t52, t53, t54, t55, t56, t57, t58, t59, t60, t61, t62, t63, t64, t65, t66, t67, t68, t69, t70, t71, t72, t73, t74, t75, t76, t77, t78, t79, t80, t81, t82, t83, t84, t85, t86, t87, t88, t89, t90, t91, t92, t93, t94, x28, t96, x30, t98, t99, t100, t101, t102, t103, t104, t105, t106, t107, t108, t109, t110, t111, t112, t113, t114, t115, t116, t117, t118], defers := [] } W := by
    intro W vA v4 qA hA ua uc z g hn
    refine wpAnyH_ready (rs := [1, 8]) (by rw [hops.out]; kernel_rfl) (by simp) ?_
    refine AllReadyH.cons (o := ?_) ?_ (fun K hK => ?_) ?_
    rotate_left 1
    · rw [hops.out]; unfold fOps31; simp only [List.getElem?_toArray, List.getElem?_cons_succ, List.getElem?_cons_zero]; rfl
    · rw [if_pos (by rfl)]
      go_simp
      refine (H1 W g).mono ?_
      rintro e w2 ⟨y, qs, rfl, fq, oq, b2⟩
      have b2s := b2.size
      have g2 : Below n1 w1 w2 := g.trans (b2.mono hn)
      have hn2 : n1 ≤ w2.heap.size := Nat.le_trans hn b2.size
      have hSW := hS w2 g2
      refine hK.out _ _ hSW (fun _ => ?_)
      exact h10 w2 y v4 qs w2.heap.size ua uc z g2 hn2 ⟨fq, oq.wide hn (Nat.le_refl _), Nat.le_refl _⟩ 
    refine AllReadyH.cons (o := ?_) ?_ (fun K hK => ?_) ?_
    rotate_left 1
    · rw [hops.out]; unfold fOps31; simp only [List.getElem?_toArray, List.getElem?_cons_succ, List.getElem?_cons_zero]; rfl
    · rw [if_pos (by rfl)]
      go_simp
      have g2 : Below n1 w1 (W.alloc (.cells #[.int .i64 0, .int .i64 0, .int .i64 0, .int .i64 0, .int .i64 0, .slice none 0 0, .int .i64 0, .bool false] 26)) := g.alloc hn _
      refine hK.out _ _ (hS _ g2) (fun _ => ?_)
      exact h01 _ vA v4 qA hA ua uc _ g2 (by simp; omega) ⟨heap_alloc_new _ _, hn⟩
    exact AllReadyH.nil
  exact h00 w1 undef undef [] 0 none 0 0 (Below.refl _ _) hn1

end Go.Proofs.Ytohjphhocdgpgaa
