/-
  The region of spec.ReadPacket that reads one more that is heard, in every order.
-/
import Derived.Test.YtchmmekhfcojgaaGreatDoorPq47
import Derived.Test.YtchmmekhfcojgaaGreatDoorPq4
import Derived.Test.YtchmmekhfcojgaaGreatDoorPq26
namespace Go.Proofs.YtchmmekhfcojgaaGreatDoor
open Go.RowKit

set_option linter.unusedVariables false
set_option linter.unusedSimpArgs false

def rpOps : Array Oper := #[{ dst := some 56, op := Go.Op.fieldAddr 27 (Go.Operand.tmp 7) 4, type := 0, pos := "l09_packet.go:73", after := #[], guard := none }, { dst := some 57, op := Go.Op.load 24 (Go.Operand.tmp 56), type := 24, pos := "l09_packet.go:73", after := #[{ on := 0, ground := Go.Ground.data }], guard := none }, { dst := some 58, op := Go.Op.move (Go.Operand.tmp 6), type := 60, pos := "l09_packet.go:73", after := #[], guard := none }, { dst := some 59, op := Go.Op.call { callee := Go.Callee.value (Go.Operand.func 33), args := #[Go.Operand.tmp 58], argTypes := #[60] }, type := 3, pos := "l09_packet.go:73", after := #[{ on := 2, ground := Go.Ground.data }], guard := none }, { dst := some 60, op := Go.Op.buildSlice 24 1 #[(0, Go.Operand.tmp 59)], type := 24, pos := "l09_packet.go:73", after := #[{ on := 3, ground := Go.Ground.data }], guard := none }, { dst := some 61, op := Go.Op.call { callee := Go.Callee.builtin Go.Builtin.append, args := #[Go.Operand.tmp 57, Go.Operand.tmp 60], argTypes := #[24, 24] }, type := 24, pos := "l09_packet.go:73", after := #[{ on := 1, ground := Go.Ground.data }, { on := 4, ground := Go.Ground.data }, { on := 3, ground := Go.Ground.chain }], guard := none }, { dst := some 62, op := Go.Op.fieldAddr 27 (Go.Operand.tmp 7) 4, type := 0, pos := "l09_packet.go:73", after := #[{ on := 0, ground := Go.Ground.phase }, { on := 1, ground := Go.Ground.phase }, { on := 2, ground := Go.Ground.phase }, { on := 3, ground := Go.Ground.phase }, { on := 4, ground := Go.Ground.phase }, { on := 5, ground := Go.Ground.phase }], guard := none }, { dst := none, op := Go.Op.store 24 (Go.Operand.tmp 62) (Go.Operand.tmp 61), type := 0, pos := "l09_packet.go:73", after := #[{ on := 6, ground := Go.Ground.data }, { on := 5, ground := Go.Ground.data }, { on := 5, ground := Go.Ground.chain }, { on := 0, ground := Go.Ground.phase }, { on := 1, ground := Go.Ground.phase }, { on := 2, ground := Go.Ground.phase }, { on := 3, ground := Go.Ground.phase }, { on := 4, ground := Go.Ground.phase }, { on := 5, ground := Go.Ground.phase }], guard := none }]

set_option maxRecDepth 100000 in
set_option maxHeartbeats 8000000 in
theorem rp_dag {t0 t1 t2 t3 t4 t5 t8 t9 t10 t11 t12 t13 t14 t15 t16 t17 t18 t19 t20 t21 t22 t23 t24 t25 t26 t27 t28 t29 t30 t31 t32 t33 t34 t35 t36 t37 t38 t39 t40 t41 t42 t43 t44 t45 t46 t47 t48 t49 t50 t51 t52 t53 t54 t55 t57 t59 t60 t61 t62 t63 t64 t65 t66 t67 t68 t69 t70 t71 t72 t73 t74 t75 t76 t77 t78 t79 t80 t81 t82 t83 t84 t85 t86 t87 t88 t89 t90 t91 t92 t93 t94 t95 t96 t97 t98 t99 t100 t101 t102 t103 t104 t105 t106 t107 t108 t109 t110 t111 t112 t113 t114 t115 : Value} (z q base : Nat) (k0 k1 k2 k3 k5 : Value) (h : List Int) (ua : Option Addr) (uc : Nat) (s : ByteArray) (p p' : Nat) (b' : Bool) (y : Int) (w1 : World) (Q : Exit → Act → World → Prop) (ops : Array Oper) (hops : Hid (ops = rpOps)) (hz : z < w1.heap.size) (hq : q < w1.heap.size) (hzq : z < q) (hc : RdAt w1 z 62 s p false) (hh : h.length ≤ 1000) (hbase : base ≤ w1.heap.size)
    (hcall : ∀ W, RdAt W z 62 s p false → Calls Tryz.prog 33 #[.pointer (some ⟨z, 0, none⟩)] W fun e w' => e = .returned (.int .i64 y) ∧ RdAt w' z 62 s p' b' ∧ W.grownBy w' (some z))
    (HB : w1.heap[q]? = some (.cells #[k0, k1, k2, k3, (.slice ua h.length uc), k5] 27)) (HU : w1.ownsRow base 3 1 (.slice ua h.length uc) h.length (flat intE h)) (hUz : (Value.slice ua h.length uc).ownBlock ≠ some z) (hUq : (Value.slice ua h.length uc).ownBlock ≠ some q)
    (hend : ∀ W w2 g1 va vc, w1.grownBy W (some z) → RdAt W z 62 s p' b' → W.grownBy w2 (Value.slice ua h.length uc).ownBlock → w2.ownsRow base 3 1 (.slice va (h.length + 1) vc) (h.length + 1) (flat intE (h ++ [y])) → w2.heap[q]? = some (.cells #[k0, k1, k2, k3, (.slice ua h.length uc), k5] 27) → RdAt w2 z 62 s p' b' → Q .normal { tmps := #[t0, t1, t2, t3, t4, t5, .pointer (some ⟨z, 0, none⟩), .pointer (some ⟨q, 0, none⟩), t8, t9, t10, t11, t12, t13, t14, t15, t16, t17, t18, t19, t20, t21, t22, t23, t24, t25, t26, t27, t28, t29, t30, t31, t32, t33, t34, t35, t36, t37, t38, t39, t40, t41, t42, t43, t44, t45, t46, t47, t48, t49, t50, t51, t52, t53, t54, t55, .pointer (some ⟨q, 4, none⟩), (.slice ua h.length uc), .pointer (some ⟨z, 0, none⟩), .int .i64 y, (.slice (some ⟨g1, 0, none⟩) 1 1), (.slice va (h.length + 1) vc), .pointer (some ⟨q, 4, none⟩), t63, t64, t65, t66, t67, t68, t69, t70, t71, t72, t73, t74, t75, t76, t77, t78, t79, t80, t81, t82, t83, t84, t85, t86, t87, t88, t89, t90, t91, t92, t93, t94, t95, t96, t97, t98, t99, t100, t101, t102, t103, t104, t105, t106, t107, t108, t109, t110, t111, t112, t113, t114, t115], defers := [] } (w2.setCell ⟨q, 4, none⟩ (.slice va (h.length + 1) vc))) :
    wpAnyH Tryz.prog .any ops (NoPanic Q) (fun _ => True) 6 #[true, false, true, false, false, false, false, false] { tmps := #[t0, t1, t2, t3, t4, t5, .pointer (some ⟨z, 0, none⟩), .pointer (some ⟨q, 0, none⟩), t8, t9, t10, t11, t12, t13, t14, t15, t16, t17, t18, t19, t20, t21, t22, t23, t24, t25, t26, t27, t28, t29, t30, t31, t32, t33, t34, t35, t36, t37, t38, t39, t40, t41, t42, t43, t44, t45, t46, t47, t48, t49, t50, t51, t52, t53, t54, t55, .pointer (some ⟨q, 4, none⟩), t57, .pointer (some ⟨z, 0, none⟩), t59, t60, t61, t62, t63, t64, t65, t66, t67, t68, t69, t70, t71, t72, t73, t74, t75, t76, t77, t78, t79, t80, t81, t82, t83, t84, t85, t86, t87, t88, t89, t90, t91, t92, t93, t94, t95, t96, t97, t98, t99, t100, t101, t102, t103, t104, t105, t106, t107, t108, t109, t110, t111, t112, t113, t114, t115], defers := [] } w1 := by
  have h21 : ∀ (W : World) (g1 : Nat), w1.grownBy W (some z) → RdAt W z 62 s p' b' → (W.heap[g1]? = some (.cells #[.int .i64 y] 3)) → wpAnyH Tryz.prog .any ops (NoPanic Q) (fun _ => True) 3 #[true, true, true, true, true, false, false, false] { tmps := #[t0, t1, t2, t3, t4, t5, .pointer (some ⟨z, 0, none⟩), .pointer (some ⟨q, 0, none⟩), t8, t9, t10, t11, t12, t13, t14, t15, t16, t17, t18, t19, t20, t21, t22, t23, t24, t25, t26, t27, t28, t29, t30, t31, t32, t33, t34, t35, t36, t37, t38, t39, t40, t41, t42, t43, t44, t45, t46, t47, t48, t49, t50, t51, t52, t53, t54, t55, .pointer (some ⟨q, 4, none⟩), (.slice ua h.length uc), .pointer (some ⟨z, 0, none⟩), .int .i64 y, (.slice (some ⟨g1, 0, none⟩) 1 1), t61, t62, t63, t64, t65, t66, t67, t68, t69, t70, t71, t72, t73, t74, t75, t76, t77, t78, t79, t80, t81, t82, t83, t84, t85, t86, t87, t88, t89, t90, t91, t92, t93, t94, t95, t96, t97, t98, t99, t100, t101, t102, t103, t104, t105, t106, t107, t108, t109, t110, t111, t112, t113, t114, t115], defers := [] } W := by
    intro W g1 g cu n1
    have gs := g.size
    refine wpAnyH_ready (rs := [5]) (by rw [hops.out]; kernel_rfl) (by simp) ?_
    refine AllReadyH.cons (o := ?_) ?_ (fun K hK => ?_) ?_
    rotate_left 1
    · rw [hops.out]; unfold rpOps; simp only [List.getElem?_toArray, List.getElem?_cons_succ, List.getElem?_cons_zero]; rfl
    · rw [if_pos (by rfl)]
      have hu := HU.kept g (by right; exact hUz)
      have hb := (g.block q hq (by simp; omega)).trans HB
      refine wp_append_oneR intE_len (by omega) (by omega) W _ _ 24 rfl base 3 Tryz.underlying24 (.int .i64 0) rfl Tryz.info3 _ h y (by intro u hu; simp [intE] at hu; subst hu; rfl) rfl hu ⟨g1, 0, none⟩ 1 rfl ?_ (by omega) (by omega) ?_
      · intro j u hj
        have hc1 := cells_at n1 j
        rw [show (⟨g1, 0, none⟩ : Addr).add j = ⟨g1, j, none⟩ by simp only [Addr.add]; split <;> simp_all, hc1]
        simpa [intE] using hj
      intro v' w2 ho gr2
      obtain ⟨va, vc, rfl⟩ := owns_lenS ho
      have hb2 := (gr2.block q (lt_of_heap hb) (fun e => hUq e.symm)).trans hb
      have cu2 := (gr2.block z (lt_of_heap cu) (fun e => hUz e.symm)).trans cu
      have y2 := cells_at hb2 4
      simp at y2
      have f2 := frozen_at hb2 4
      have ho2 : w2.ownsRow base 3 1 (.slice va (h.length + 1) vc) (h.length + 1) (flat intE (h ++ [y])) := by simpa using ho
      simp only [List.length_append, List.length_cons, List.length_nil, Nat.zero_add]
      have hE := hend W w2 g1 va vc g cu gr2 ho2 hb2 cu2
      refine hK.out _ _ trivial (fun _ => ?_)
      refine take_do 6 (oi := ?_) (v := ?_) ?_ (by rw [hops.out]; kernel_rfl) ?_ ?_ ?_ trivial ?_
      rotate_left 2
      · rw [hops.out]; unfold rpOps; simp only [List.getElem?_toArray, List.getElem?_cons_succ, List.getElem?_cons_zero]; rfl
      · rw [hops.out]; kernel_rfl
      · intro W hW; (try dsimp only at hW); go_simp <;> with_reducible rfl
      · exact fun _ _ _ h => h
      try simp only [Act.put, List.setIfInBounds_toArray, List.set_cons_zero, List.set_cons_succ]
      refine wpAnyH_ready (rs := [7]) (by rw [hops.out]; kernel_rfl) (by simp) ?_
      refine AllReadyH.cons (o := ?_) ?_ (fun K hK => ?_) ?_
      rotate_left 1
      · rw [hops.out]; unfold rpOps; simp only [List.getElem?_toArray, List.getElem?_cons_succ, List.getElem?_cons_zero]; rfl
      · rw [if_pos (by rfl)]
        go_simp
        refine hK.out _ _ trivial (fun _ => ?_)
        exact wpAnyH_done (by rw [hops.out]; kernel_rfl) (NoPanic.normal hE) _
      exact AllReadyH.nil
    exact AllReadyH.nil
  have h11 : ∀ (W : World) (g1 : Nat), w1.grownBy W (some z) → RdAt W z 62 s p' b' → wpAnyH Tryz.prog .any ops (NoPanic Q) (fun _ => True) 4 #[true, true, true, true, false, false, false, false] { tmps := #[t0, t1, t2, t3, t4, t5, .pointer (some ⟨z, 0, none⟩), .pointer (some ⟨q, 0, none⟩), t8, t9, t10, t11, t12, t13, t14, t15, t16, t17, t18, t19, t20, t21, t22, t23, t24, t25, t26, t27, t28, t29, t30, t31, t32, t33, t34, t35, t36, t37, t38, t39, t40, t41, t42, t43, t44, t45, t46, t47, t48, t49, t50, t51, t52, t53, t54, t55, .pointer (some ⟨q, 4, none⟩), (.slice ua h.length uc), .pointer (some ⟨z, 0, none⟩), .int .i64 y, t60, t61, t62, t63, t64, t65, t66, t67, t68, t69, t70, t71, t72, t73, t74, t75, t76, t77, t78, t79, t80, t81, t82, t83, t84, t85, t86, t87, t88, t89, t90, t91, t92, t93, t94, t95, t96, t97, t98, t99, t100, t101, t102, t103, t104, t105, t106, t107, t108, t109, t110, t111, t112, t113, t114, t115], defers := [] } W := by
    intro W g1 g cu
    have gs := g.size
    refine wpAnyH_ready (rs := [4]) (by rw [hops.out]; kernel_rfl) (by simp) ?_
    refine AllReadyH.cons (o := ?_) ?_ (fun K hK => ?_) ?_
    rotate_left 1
    · rw [hops.out]; unfold rpOps; simp only [List.getElem?_toArray, List.getElem?_cons_succ, List.getElem?_cons_zero]; rfl
    · rw [if_pos (by rfl)]
      go_simp
      refine hK.out _ _ trivial (fun _ => ?_)
      exact h21 _ W.heap.size (grown_trans g (World.grownBy_alloc W _ _)) ((Below.heap_alloc W _ z (lt_of_heap cu)).trans cu) (heap_alloc_new W _)
    exact AllReadyH.nil
  have h01 : ∀ (W : World) (g1 : Nat), w1.grownBy W (some z) → RdAt W z 62 s p false → wpAnyH Tryz.prog .any ops (NoPanic Q) (fun _ => True) 5 #[true, true, true, false, false, false, false, false] { tmps := #[t0, t1, t2, t3, t4, t5, .pointer (some ⟨z, 0, none⟩), .pointer (some ⟨q, 0, none⟩), t8, t9, t10, t11, t12, t13, t14, t15, t16, t17, t18, t19, t20, t21, t22, t23, t24, t25, t26, t27, t28, t29, t30, t31, t32, t33, t34, t35, t36, t37, t38, t39, t40, t41, t42, t43, t44, t45, t46, t47, t48, t49, t50, t51, t52, t53, t54, t55, .pointer (some ⟨q, 4, none⟩), (.slice ua h.length uc), .pointer (some ⟨z, 0, none⟩), t59, t60, t61, t62, t63, t64, t65, t66, t67, t68, t69, t70, t71, t72, t73, t74, t75, t76, t77, t78, t79, t80, t81, t82, t83, t84, t85, t86, t87, t88, t89, t90, t91, t92, t93, t94, t95, t96, t97, t98, t99, t100, t101, t102, t103, t104, t105, t106, t107, t108, t109, t110, t111, t112, t113, t114, t115], defers := [] } W := by
    intro W g1 g cu
    have gs := g.size
    refine wpAnyH_ready (rs := [3]) (by rw [hops.out]; kernel_rfl) (by simp) ?_
    refine AllReadyH.cons (o := ?_) ?_ (fun K hK => ?_) ?_
    rotate_left 1
    · rw [hops.out]; unfold rpOps; simp only [List.getElem?_toArray, List.getElem?_cons_succ, List.getElem?_cons_zero]; rfl
    · rw [if_pos (by rfl)]
      have hpk := hcall W cu
      go_simp
      refine hpk.mono ?_
      rintro e w2 ⟨rfl, cu2, gr2⟩
      refine hK.out _ _ trivial (fun _ => ?_)
      exact h11 w2 g1 (grown_trans g gr2) cu2
    exact AllReadyH.nil
  have h20 : ∀ (W : World) (g1 : Nat), w1.grownBy W (some z) → RdAt W z 62 s p' b' → (W.heap[g1]? = some (.cells #[.int .i64 y] 3)) → wpAnyH Tryz.prog .any ops (NoPanic Q) (fun _ => True) 4 #[true, false, true, true, true, false, false, false] { tmps := #[t0, t1, t2, t3, t4, t5, .pointer (some ⟨z, 0, none⟩), .pointer (some ⟨q, 0, none⟩), t8, t9, t10, t11, t12, t13, t14, t15, t16, t17, t18, t19, t20, t21, t22, t23, t24, t25, t26, t27, t28, t29, t30, t31, t32, t33, t34, t35, t36, t37, t38, t39, t40, t41, t42, t43, t44, t45, t46, t47, t48, t49, t50, t51, t52, t53, t54, t55, .pointer (some ⟨q, 4, none⟩), t57, .pointer (some ⟨z, 0, none⟩), .int .i64 y, (.slice (some ⟨g1, 0, none⟩) 1 1), t61, t62, t63, t64, t65, t66, t67, t68, t69, t70, t71, t72, t73, t74, t75, t76, t77, t78, t79, t80, t81, t82, t83, t84, t85, t86, t87, t88, t89, t90, t91, t92, t93, t94, t95, t96, t97, t98, t99, t100, t101, t102, t103, t104, t105, t106, t107, t108, t109, t110, t111, t112, t113, t114, t115], defers := [] } W := by
    intro W g1 g cu n1
    have gs := g.size
    refine wpAnyH_ready (rs := [1]) (by rw [hops.out]; kernel_rfl) (by simp) ?_
    refine AllReadyH.cons (o := ?_) ?_ (fun K hK => ?_) ?_
    rotate_left 1
    · rw [hops.out]; unfold rpOps; simp only [List.getElem?_toArray, List.getElem?_cons_succ, List.getElem?_cons_zero]; rfl
    · rw [if_pos (by rfl)]
      have hb := (g.block q hq (by simp; omega)).trans HB
      have c4 := cells_at hb 4
      simp at c4
      go_simp
      refine hK.out _ _ trivial (fun _ => ?_)
      exact h21 W g1 g cu n1
    exact AllReadyH.nil
  have h10 : ∀ (W : World) (g1 : Nat), w1.grownBy W (some z) → RdAt W z 62 s p' b' → wpAnyH Tryz.prog .any ops (NoPanic Q) (fun _ => True) 5 #[true, false, true, true, false, false, false, false] { tmps := #[t0, t1, t2, t3, t4, t5, .pointer (some ⟨z, 0, none⟩), .pointer (some ⟨q, 0, none⟩), t8, t9, t10, t11, t12, t13, t14, t15, t16, t17, t18, t19, t20, t21, t22, t23, t24, t25, t26, t27, t28, t29, t30, t31, t32, t33, t34, t35, t36, t37, t38, t39, t40, t41, t42, t43, t44, t45, t46, t47, t48, t49, t50, t51, t52, t53, t54, t55, .pointer (some ⟨q, 4, none⟩), t57, .pointer (some ⟨z, 0, none⟩), .int .i64 y, t60, t61, t62, t63, t64, t65, t66, t67, t68, t69, t70, t71, t72, t73, t74, t75, t76, t77, t78, t79, t80, t81, t82, t83, t84, t85, t86, t87, t88, t89, t90, t91, t92, t93, t94, t95, t96, t97, t98, t99, t100, t101, t102, t103, t104, t105, t106, t107, t108, t109, t110, t111, t112, t113, t114, t115], defers := [] } W := by
    intro W g1 g cu
    have gs := g.size
    refine wpAnyH_ready (rs := [1, 4]) (by rw [hops.out]; kernel_rfl) (by simp) ?_
    refine AllReadyH.cons (o := ?_) ?_ (fun K hK => ?_) ?_
    rotate_left 1
    · rw [hops.out]; unfold rpOps; simp only [List.getElem?_toArray, List.getElem?_cons_succ, List.getElem?_cons_zero]; rfl
    · rw [if_pos (by rfl)]
      have hb := (g.block q hq (by simp; omega)).trans HB
      have c4 := cells_at hb 4
      simp at c4
      go_simp
      refine hK.out _ _ trivial (fun _ => ?_)
      exact h11 W g1 g cu
    refine AllReadyH.cons (o := ?_) ?_ (fun K hK => ?_) ?_
    rotate_left 1
    · rw [hops.out]; unfold rpOps; simp only [List.getElem?_toArray, List.getElem?_cons_succ, List.getElem?_cons_zero]; rfl
    · rw [if_pos (by rfl)]
      go_simp
      refine hK.out _ _ trivial (fun _ => ?_)
      exact h20 _ W.heap.size (grown_trans g (World.grownBy_alloc W _ _)) ((Below.heap_alloc W _ z (lt_of_heap cu)).trans cu) (heap_alloc_new W _)
    exact AllReadyH.nil
  have h00 : ∀ (W : World) (g1 : Nat), w1.grownBy W (some z) → RdAt W z 62 s p false → wpAnyH Tryz.prog .any ops (NoPanic Q) (fun _ => True) 6 #[true, false, true, false, false, false, false, false] { tmps := #[t0, t1, t2, t3, t4, t5, .pointer (some ⟨z, 0, none⟩), .pointer (some ⟨q, 0, none⟩), t8, t9, t10, t11, t12, t13, t14, t15, t16, t17, t18, t19, t20, t21, t22, t23, t24, t25, t26, t27, t28, t29, t30, t31, t32, t33, t34, t35, t36, t37, t38, t39, t40, t41, t42, t43, t44, t45, t46, t47, t48, t49, t50, t51, t52, t53, t54, t55, .pointer (some ⟨q, 4, none⟩), t57, .pointer (some ⟨z, 0, none⟩), t59, t60, t61, t62, t63, t64, t65, t66, t67, t68, t69, t70, t71, t72, t73, t74, t75, t76, t77, t78, t79, t80, t81, t82, t83, t84, t85, t86, t87, t88, t89, t90, t91, t92, t93, t94, t95, t96, t97, t98, t99, t100, t101, t102, t103, t104, t105, t106, t107, t108, t109, t110, t111, t112, t113, t114, t115], defers := [] } W := by
    intro W g1 g cu
    have gs := g.size
    refine wpAnyH_ready (rs := [1, 3]) (by rw [hops.out]; kernel_rfl) (by simp) ?_
    refine AllReadyH.cons (o := ?_) ?_ (fun K hK => ?_) ?_
    rotate_left 1
    · rw [hops.out]; unfold rpOps; simp only [List.getElem?_toArray, List.getElem?_cons_succ, List.getElem?_cons_zero]; rfl
    · rw [if_pos (by rfl)]
      have hb := (g.block q hq (by simp; omega)).trans HB
      have c4 := cells_at hb 4
      simp at c4
      go_simp
      refine hK.out _ _ trivial (fun _ => ?_)
      exact h01 W g1 g cu
    refine AllReadyH.cons (o := ?_) ?_ (fun K hK => ?_) ?_
    rotate_left 1
    · rw [hops.out]; unfold rpOps; simp only [List.getElem?_toArray, List.getElem?_cons_succ, List.getElem?_cons_zero]; rfl
    · rw [if_pos (by rfl)]
      have hpk := hcall W cu
      go_simp
      refine hpk.mono ?_
      rintro e w2 ⟨rfl, cu2, gr2⟩
      refine hK.out _ _ trivial (fun _ => ?_)
      exact h10 w2 g1 (grown_trans g gr2) cu2
    exact AllReadyH.nil
  exact h00 w1 0 (grown_refl _ _) hc
end Go.Proofs.YtchmmekhfcojgaaGreatDoor
