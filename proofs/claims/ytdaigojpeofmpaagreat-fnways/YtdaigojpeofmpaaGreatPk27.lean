/-
  spec.Linked: its contract.
  The region of laws.FnWays that asks spec.WayTo, in every order.
-/
import Derived.Test.YtdaigojpeofmpaaGreatPk7
import Derived.Test.YtdaigojpeofmpaaGreatPk13
import Derived.Test.YtdaigojpeofmpaaGreatPk9
import Derived.Test.YtdaigojpeofmpaaGreatPk2
namespace Go.Proofs.YtdaigojpeofmpaaGreat
open Go.RowKit

set_option linter.unusedSimpArgs false

set_option maxRecDepth 100000 in
set_option maxHeartbeats 1000000 in
theorem slinked_any (v : Value) (ps : List RP) (hi : Nat) (area a b : Int) (w : World) (hv : RecsIn w hi v ps) (hhi : hi ≤ w.heap.size) (hn : tot ps ≤ 1048576) :
    Calls Tryz.prog 42 #[v, .int .i64 area, .int .i64 a, .int .i64 b] w fun e w' => e = .returned (.int .i64 (linkedD (fsts ps) area a b)) ∧ Below w.heap.size w w' := by
  have H1 := hide (stells_any v ps hi area b a w hv hhi hn)
  have H2 := hide (fun W (hb : Below w.heap.size w W) => stells_any v ps hi area a b W (hv.below hb hhi) (Nat.le_trans hhi hb.size) hn)
  obtain ⟨a1, c1, rfl⟩ := owns_lenS hv.row
  clear hv
  unfold linkedD
  obtain ⟨P, hP⟩ : ∃ P, P = tellsD (fsts ps) area b a := ⟨_, rfl⟩
  obtain ⟨Q, hQ⟩ : ∃ Q, Q = tellsD (fsts ps) area a b := ⟨_, rfl⟩
  rw [← hP] at H1 ⊢
  rw [← hQ] at H2 ⊢
  clear hP hQ
  by_cases h0 : P = 0
  · rw [if_pos h0]
    subst h0
    go_enter Tryz.func42, Tryz.ntmps42
    go_wp2_with fail
    refine H1.out.mono ?_
    rintro e w1 ⟨rfl, b1⟩
    go_wp2
    go_ret
    exact ⟨rfl, b1⟩
  · rw [if_neg h0]
    have hd : (P == 0) = false := by simpa using h0
    go_enter Tryz.func42, Tryz.ntmps42
    go_wp2_with fail
    refine H1.out.mono ?_
    rintro e w1 ⟨rfl, b1⟩
    go_wp2_with fail
    refine (H2.out _ b1).mono ?_
    rintro e w2 ⟨rfl, b2⟩
    go_wp2
    go_ret
    exact ⟨rfl, b1.trans (b2.mono b1.size)⟩
end Go.Proofs.YtdaigojpeofmpaaGreat
namespace Go.Proofs.YtdaigojpeofmpaaGreat
open Go.RowKit

set_option linter.unusedVariables false
set_option linter.unusedSimpArgs false

theorem wayTo_mem {ds : List WayD} {z : Int} (h : wayToB ds z = true) : wayToD ds z ∈ ds := by
  unfold wayToB at h
  unfold wayToD
  cases e : ds.find? (fun x => x.to == z) with
  | none => rw [e] at h; cases h
  | some d => exact List.mem_of_find?_eq_some e

def wyOps : Array Oper := #[{ dst := some 143, op := Go.Op.move (Go.Operand.tmp 6), type := 29, pos := "laws.go:308", after := #[], guard := none }, { dst := some 144, op := Go.Op.move (Go.Operand.tmp 8), type := 3, pos := "laws.go:308", after := #[], guard := none }, { dst := some 145, op := Go.Op.move (Go.Operand.tmp 19), type := 3, pos := "laws.go:308", after := #[], guard := none }, { dst := some 146, op := Go.Op.call { callee := Go.Callee.value (Go.Operand.func 44), args := #[Go.Operand.tmp 143, Go.Operand.tmp 144, Go.Operand.tmp 145], argTypes := #[29, 3, 3] }, type := 70, pos := "laws.go:308", after := #[{ on := 0, ground := Go.Ground.data }, { on := 1, ground := Go.Ground.data }, { on := 2, ground := Go.Ground.data }], guard := none }, { dst := some 147, op := Go.Op.fieldAddr 73 (Go.Operand.tmp 14) 0, type := 0, pos := "laws.go:308", after := #[], guard := none }, { dst := some 148, op := Go.Op.load 3 (Go.Operand.tmp 147), type := 3, pos := "laws.go:308", after := #[{ on := 4, ground := Go.Ground.data }], guard := none }, { dst := some 149, op := Go.Op.call { callee := Go.Callee.value (Go.Operand.func 43), args := #[Go.Operand.tmp 146, Go.Operand.tmp 148], argTypes := #[70, 3] }, type := 75, pos := "laws.go:308", after := #[{ on := 3, ground := Go.Ground.data }, { on := 5, ground := Go.Ground.data }, { on := 3, ground := Go.Ground.chain }], guard := none }, { dst := some 142, op := Go.Op.move (Go.Operand.tmp 149), type := 75, pos := "laws.go:308", after := #[{ on := 6, ground := Go.Ground.data }], guard := none }, { dst := some 150, op := Go.Op.extract (Go.Operand.tmp 142) 0, type := 73, pos := "laws.go:308", after := #[{ on := 7, ground := Go.Ground.data }], guard := none }, { dst := some 151, op := Go.Op.extract (Go.Operand.tmp 142) 1, type := 4, pos := "laws.go:308", after := #[{ on := 7, ground := Go.Ground.data }, { on := 11, ground := Go.Ground.gcOnly Go.Departure.lateStores }], guard := none }, { dst := some 21, op := Go.Op.alloc 73, type := 0, pos := "laws.go:308", after := #[], guard := none }, { dst := none, op := Go.Op.store 73 (Go.Operand.tmp 21) (Go.Operand.tmp 150), type := 0, pos := "laws.go:308", after := #[{ on := 10, ground := Go.Ground.data }, { on := 8, ground := Go.Ground.data }, { on := 6, ground := Go.Ground.chain }, { on := 0, ground := Go.Ground.phase }, { on := 1, ground := Go.Ground.phase }, { on := 2, ground := Go.Ground.phase }, { on := 3, ground := Go.Ground.phase }, { on := 4, ground := Go.Ground.phase }, { on := 5, ground := Go.Ground.phase }, { on := 6, ground := Go.Ground.phase }, { on := 7, ground := Go.Ground.phase }, { on := 8, ground := Go.Ground.phase }, { on := 9, ground := Go.Ground.textOnly Go.Departure.lateStores }, { on := 10, ground := Go.Ground.phase }], guard := none }, { dst := some 22, op := Go.Op.assign (Go.Operand.tmp 151), type := 4, pos := "laws.go:308", after := #[{ on := 9, ground := Go.Ground.data }, { on := 11, ground := Go.Ground.chain }, { on := 0, ground := Go.Ground.phase }, { on := 1, ground := Go.Ground.phase }, { on := 2, ground := Go.Ground.phase }, { on := 3, ground := Go.Ground.phase }, { on := 4, ground := Go.Ground.phase }, { on := 5, ground := Go.Ground.phase }, { on := 6, ground := Go.Ground.phase }, { on := 7, ground := Go.Ground.phase }, { on := 8, ground := Go.Ground.phase }, { on := 9, ground := Go.Ground.phase }, { on := 10, ground := Go.Ground.phase }, { on := 11, ground := Go.Ground.phase }], guard := none }]

set_option maxRecDepth 100000 in
set_option maxHeartbeats 8000000 in
theorem wys_dag {t0 t1 t2 t3 t4 t5 t6 t7 t8 t9 t10 t11 t12 t13 t14 t15 t16 t17 t18 t19 t20 t21 t22 t23 t24 t25 t26 t27 t28 t29 t30 t31 t32 t33 t34 t35 t36 t37 t38 t39 t40 t41 t42 t43 t44 t45 t46 t47 t48 t49 t50 t51 t52 t53 t54 t55 t56 t57 t58 t59 t60 t61 t62 t63 t64 t65 t66 t67 t68 t69 t70 t71 t72 t73 t74 t75 t76 t77 t78 t79 t80 t81 t82 t83 t84 t85 t86 t87 t88 t89 t90 t91 t92 t93 t94 t95 t96 t97 t98 t99 t100 t101 t102 t103 t104 t105 t106 t107 t108 t109 t110 t111 t112 t113 t114 t115 t116 t117 t118 t119 t120 t121 t122 t123 t124 t125 t126 t127 t128 t129 t130 t131 t132 t133 t134 t135 t136 t137 t138 t139 t140 t141 t142 t146 t149 t150 t151 t152 t153 t154 t155 t156 t157 t158 t159 t160 t161 t162 t163 t164 t165 t166 t167 t168 t169 t170 t171 t172 t173 t174 t175 t176 t177 t178 t179 : Value} (D : WayD) (F : Bool) (L : List WayD) (P : Prop) (x143 x144 x145 x147 x148 : Value) (n1 : Nat) (w1 : World) (Q : Exit → Act → World → Prop) (S : World → Prop) (ops : Array Oper) (hops : Hid (ops = wyOps)) (hn1 : n1 ≤ w1.heap.size) (hS : ∀ W, Below n1 w1 W → S W)
    (H1 : ∀ W, Below n1 w1 W → Calls Tryz.prog 44 #[x143, x144, x145] W fun e w' => ∃ x qs, e = .returned x ∧ P ∧ fstsW qs = L ∧ WaysOwn w' W.heap.size w'.heap.size x qs ∧ Below W.heap.size W w')
    (H2 : ∀ v qs lo hi W, fstsW qs = L → WaysOwn W lo hi v qs → hi ≤ W.heap.size → Calls Tryz.prog 43 #[v, x148] W fun e w' => ∃ u, e = .returned (.tuple #[.agg (wayC D u), .bool F]) ∧ w'.ownsRow W.heap.size 3 1 u D.hops.length (flat intE D.hops) ∧ Below W.heap.size W w')
    (hend : ∀ W vA ua uc z, Below n1 w1 W → W.heap[z]? = some (.cells #[.int .i64 D.to, .int .i64 D.cost, (.slice ua D.hops.length uc)] 73) → n1 ≤ z → P → Q .normal { tmps := #[t0, t1, t2, t3, t4, t5, t6, t7, t8, t9, t10, t11, t12, t13, t14, t15, t16, t17, t18, t19, t20, .pointer (some ⟨z, 0, none⟩), .bool F, t23, t24, t25, t26, t27, t28, t29, t30, t31, t32, t33, t34, t35, t36, t37, t38, t39, t40, t41, t42, t43, t44, t45, t46, t47, t48, t49, t50, t51, t52, t53, t54, t55, t56, t57, t58, t59, t60, t61, t62, t63, t64, t65, t66, t67, t68, t69, t70, t71, t72, t73, t74, t75, t76, t77, t78, t79, t80, t81, t82, t83, t84, t85, t86, t87, t88, t89, t90, t91, t92, t93, t94, t95, t96, t97, t98, t99, t100, t101, t102, t103, t104, t105, t106, t107, t108, t109, t110, t111, t112, t113, t114, t115, t116, t117, t118, t119, t120, t121, t122, t123, t124, t125, t126, t127, t128, t129, t130, t131, t132, t133, t134, t135, t136, t137, t138, t139, t140, t141, .tuple #[.agg #[.int .i64 D.to, .int .i64 D.cost, (.slice ua D.hops.length uc)], .bool F], x143, x144, x145, vA, x147, x148, .tuple #[.agg #[.int .i64 D.to, .int .i64 D.cost, (.slice ua D.hops.length uc)], .bool F], .agg #[.int .i64 D.to, .int .i64 D.cost, (.slice ua D.hops.length uc)], .bool F, t152, t153, t154, t155, t156, t157, t158, t159, t160, t161, t162, t163, t164, t165, t166, t167, t168, t169, t170, t171, t172, t173, t174, t175, t176, t177, t178, t179], defers := [] } W) :
    wpAnyH Tryz.prog .any ops (NoPanic Q) S 8 #[true, true, true, false, true, true, false, false, false, false, false, false, false] { tmps := #[t0, t1, t2, t3, t4, t5, t6, t7, t8, t9, t10, t11, t12, t13, t14, t15, t16, t17, t18, t19, t20, t21, t22, t23, t24, t25, t26, t27, t28, t29, t30, t31, t32, t33, t34, t35, t36, t37, t38, t39, t40, t41, t42, t43, t44, t45, t46, t47, t48, t49, t50, t51, t52, t53, t54, t55, t56, t57, t58, t59, t60, t61, t62, t63, t64, t65, t66, t67, t68, t69, t70, t71, t72, t73, t74, t75, t76, t77, t78, t79, t80, t81, t82, t83, t84, t85, t86, t87, t88, t89, t90, t91, t92, t93, t94, t95, t96, t97, t98, t99, t100, t101, t102, t103, t104, t105, t106, t107, t108, t109, t110, t111, t112, t113, t114, t115, t116, t117, t118, t119, t120, t121, t122, t123, t124, t125, t126, t127, t128, t129, t130, t131, t132, t133, t134, t135, t136, t137, t138, t139, t140, t141, t142, x143, x144, x145, t146, x147, x148, t149, t150, t151, t152, t153, t154, t155, t156, t157, t158, t159, t160, t161, t162, t163, t164, t165, t166, t167, t168, t169, t170, t171, t172, t173, t174, t175, t176, t177, t178, t179], defers := [] } w1 := by
  have h21 : ∀ (W : World) (vA : Value) (qA : List WP) (hA : Nat) (ua : Option Addr) (uc z : Nat), Below n1 w1 W → n1 ≤ W.heap.size → P → (W.heap[z]? = some (.cells #[.int .i64 0, .int .i64 0, .slice none 0 0] 73) ∧ n1 ≤ z) → wpAnyH Tryz.prog .any ops (NoPanic Q) S 2 #[true, true, true, true, true, true, true, true, true, true, true, false, false] { tmps := #[t0, t1, t2, t3, t4, t5, t6, t7, t8, t9, t10, t11, t12, t13, t14, t15, t16, t17, t18, t19, t20, .pointer (some ⟨z, 0, none⟩), t22, t23, t24, t25, t26, t27, t28, t29, t30, t31, t32, t33, t34, t35, t36, t37, t38, t39, t40, t41, t42, t43, t44, t45, t46, t47, t48, t49, t50, t51, t52, t53, t54, t55, t56, t57, t58, t59, t60, t61, t62, t63, t64, t65, t66, t67, t68, t69, t70, t71, t72, t73, t74, t75, t76, t77, t78, t79, t80, t81, t82, t83, t84, t85, t86, t87, t88, t89, t90, t91, t92, t93, t94, t95, t96, t97, t98, t99, t100, t101, t102, t103, t104, t105, t106, t107, t108, t109, t110, t111, t112, t113, t114, t115, t116, t117, t118, t119, t120, t121, t122, t123, t124, t125, t126, t127, t128, t129, t130, t131, t132, t133, t134, t135, t136, t137, t138, t139, t140, t141, .tuple #[.agg #[.int .i64 D.to, .int .i64 D.cost, (.slice ua D.hops.length uc)], .bool F], x143, x144, x145, vA, x147, x148, .tuple #[.agg #[.int .i64 D.to, .int .i64 D.cost, (.slice ua D.hops.length uc)], .bool F], .agg #[.int .i64 D.to, .int .i64 D.cost, (.slice ua D.hops.length uc)], .bool F, t152, t153, t154, t155, t156, t157, t158, t159, t160, t161, t162, t163, t164, t165, t166, t167, t168, t169, t170, t171, t172, t173, t174, t175, t176, t177, t178, t179], defers := [] } W := by
    intro W vA qA hA ua uc z g hn kP kz
    refine wpAnyH_ready (rs := [11]) (by rw [hops.out]; kernel_rfl) (by simp) ?_
    refine AllReadyH.cons (o := ?_) ?_ (fun K hK => ?_) ?_
    rotate_left 1
    · rw [hops.out]; unfold wyOps; simp only [List.getElem?_toArray, List.getElem?_cons_succ, List.getElem?_cons_zero]; rfl
    · rw [if_pos (by rfl)]
      have y0 := cells_at kz.1 0
      have y1 := cells_at kz.1 1
      have y2 := cells_at kz.1 2
      simp at y0 y1 y2
      have fy := frozen_at kz.1
      have k1 := heap_setCell_same _ _ 0 _ _ (.int .i64 D.to) kz.1
      have k2 := heap_setCell_same _ _ 1 _ _ (.int .i64 D.cost) k1
      have FF := heap_setCell_same _ _ 2 _ _ (.slice ua D.hops.length uc) k2
      simp only [List.setIfInBounds_toArray, List.set_cons_zero, List.set_cons_succ] at FF
      have G8 : W.grownBy (((W.setCell ⟨z, 0, none⟩ (.int .i64 D.to)).setCell ⟨z, 1, none⟩ (.int .i64 D.cost)).setCell ⟨z, 2, none⟩ (.slice ua D.hops.length uc)) (some z) := grown_trans (grown_trans (grown_set W z _ _) (grown_set _ z _ _)) (grown_set _ z _ _)
      have g2 := g.grown G8 hn (fun k hk => by have := kz.2; simp at hk; omega)
      have hSW := hS _ g2
      have hlow := kz.2
      clear k1 k2
      go_simp
      refine hK.out _ _ hSW (fun _ => ?_)
      refine take_do 12 (oi := ?_) (v := ?_) ?_ (by rw [hops.out]; kernel_rfl) ?_ ?_ ?_ (by assumption) ?_
      rotate_left 2
      · rw [hops.out]; unfold wyOps; simp only [List.getElem?_toArray, List.getElem?_cons_succ, List.getElem?_cons_zero]; rfl
      · rw [hops.out]; kernel_rfl
      · intro W hW; (try dsimp only at hW); go_simp <;> with_reducible rfl
      · exact fun _ _ _ h => h
      try simp only [Act.put, List.setIfInBounds_toArray, List.set_cons_zero, List.set_cons_succ]
      exact wpAnyH_done (by rw [hops.out]; kernel_rfl) (NoPanic.normal (hend _ vA ua uc z g2 FF hlow kP)) _
    exact AllReadyH.nil
  have h11 : ∀ (W : World) (vA : Value) (qA : List WP) (hA : Nat) (ua : Option Addr) (uc z : Nat), Below n1 w1 W → n1 ≤ W.heap.size → P → (fstsW qA = L ∧ WaysOwn W n1 hA vA qA ∧ hA ≤ W.heap.size) → (W.heap[z]? = some (.cells #[.int .i64 0, .int .i64 0, .slice none 0 0] 73) ∧ n1 ≤ z) → wpAnyH Tryz.prog .any ops (NoPanic Q) S 6 #[true, true, true, true, true, true, false, false, false, false, true, false, false] { tmps := #[t0, t1, t2, t3, t4, t5, t6, t7, t8, t9, t10, t11, t12, t13, t14, t15, t16, t17, t18, t19, t20, .pointer (some ⟨z, 0, none⟩), t22, t23, t24, t25, t26, t27, t28, t29, t30, t31, t32, t33, t34, t35, t36, t37, t38, t39, t40, t41, t42, t43, t44, t45, t46, t47, t48, t49, t50, t51, t52, t53, t54, t55, t56, t57, t58, t59, t60, t61, t62, t63, t64, t65, t66, t67, t68, t69, t70, t71, t72, t73, t74, t75, t76, t77, t78, t79, t80, t81, t82, t83, t84, t85, t86, t87, t88, t89, t90, t91, t92, t93, t94, t95, t96, t97, t98, t99, t100, t101, t102, t103, t104, t105, t106, t107, t108, t109, t110, t111, t112, t113, t114, t115, t116, t117, t118, t119, t120, t121, t122, t123, t124, t125, t126, t127, t128, t129, t130, t131, t132, t133, t134, t135, t136, t137, t138, t139, t140, t141, t142, x143, x144, x145, vA, x147, x148, t149, t150, t151, t152, t153, t154, t155, t156, t157, t158, t159, t160, t161, t162, t163, t164, t165, t166, t167, t168, t169, t170, t171, t172, t173, t174, t175, t176, t177, t178, t179], defers := [] } W := by
    intro W vA qA hA ua uc z g hn kP kA kz
    refine wpAnyH_ready (rs := [6]) (by rw [hops.out]; kernel_rfl) (by simp) ?_
    refine AllReadyH.cons (o := ?_) ?_ (fun K hK => ?_) ?_
    rotate_left 1
    · rw [hops.out]; unfold wyOps; simp only [List.getElem?_toArray, List.getElem?_cons_succ, List.getElem?_cons_zero]; rfl
    · rw [if_pos (by rfl)]
      go_simp
      refine (H2 vA qA n1 hA W kA.1 kA.2.1 kA.2.2).mono ?_
      rintro e w2 ⟨y, rfl, oy, b2⟩
      obtain ⟨ya, yc, rfl⟩ := owns_lenS oy
      unfold wayC at *
      have b2s := b2.size
      have g2 : Below n1 w1 w2 := g.trans (b2.mono hn)
      have hn2 : n1 ≤ w2.heap.size := Nat.le_trans hn b2.size
      have hSW := hS w2 g2
      refine hK.out _ _ hSW (fun _ => ?_)
      refine take_do 7 (oi := ?_) (v := ?_) ?_ (by rw [hops.out]; kernel_rfl) ?_ ?_ ?_ (by assumption) ?_
      rotate_left 2
      · rw [hops.out]; unfold wyOps; simp only [List.getElem?_toArray, List.getElem?_cons_succ, List.getElem?_cons_zero]; rfl
      · rw [hops.out]; kernel_rfl
      · intro W hW; (try dsimp only at hW); go_simp <;> with_reducible rfl
      · exact fun _ _ _ h => h
      try simp only [Act.put, List.setIfInBounds_toArray, List.set_cons_zero, List.set_cons_succ]
      refine take_do 8 (oi := ?_) (v := ?_) ?_ (by rw [hops.out]; kernel_rfl) ?_ ?_ ?_ (by assumption) ?_
      rotate_left 2
      · rw [hops.out]; unfold wyOps; simp only [List.getElem?_toArray, List.getElem?_cons_succ, List.getElem?_cons_zero]; rfl
      · rw [hops.out]; kernel_rfl
      · intro W hW; (try dsimp only at hW); go_simp <;> with_reducible rfl
      · exact fun _ _ _ h => h
      try simp only [Act.put, List.setIfInBounds_toArray, List.set_cons_zero, List.set_cons_succ]
      refine take_do 9 (oi := ?_) (v := ?_) ?_ (by rw [hops.out]; kernel_rfl) ?_ ?_ ?_ (by assumption) ?_
      rotate_left 2
      · rw [hops.out]; unfold wyOps; simp only [List.getElem?_toArray, List.getElem?_cons_succ, List.getElem?_cons_zero]; rfl
      · rw [hops.out]; kernel_rfl
      · intro W hW; (try dsimp only at hW); go_simp <;> with_reducible rfl
      · exact fun _ _ _ h => h
      try simp only [Act.put, List.setIfInBounds_toArray, List.set_cons_zero, List.set_cons_succ]
      exact h21 w2 vA qA hA ya yc z g2 hn2 kP ⟨(b2.block _ (lt_of_heap kz.1)).trans kz.1, kz.2⟩
    exact AllReadyH.nil
  have h01 : ∀ (W : World) (vA : Value) (qA : List WP) (hA : Nat) (ua : Option Addr) (uc z : Nat), Below n1 w1 W → n1 ≤ W.heap.size → (W.heap[z]? = some (.cells #[.int .i64 0, .int .i64 0, .slice none 0 0] 73) ∧ n1 ≤ z) → wpAnyH Tryz.prog .any ops (NoPanic Q) S 7 #[true, true, true, false, true, true, false, false, false, false, true, false, false] { tmps := #[t0, t1, t2, t3, t4, t5, t6, t7, t8, t9, t10, t11, t12, t13, t14, t15, t16, t17, t18, t19, t20, .pointer (some ⟨z, 0, none⟩), t22, t23, t24, t25, t26, t27, t28, t29, t30, t31, t32, t33, t34, t35, t36, t37, t38, t39, t40, t41, t42, t43, t44, t45, t46, t47, t48, t49, t50, t51, t52, t53, t54, t55, t56, t57, t58, t59, t60, t61, t62, t63, t64, t65, t66, t67, t68, t69, t70, t71, t72, t73, t74, t75, t76, t77, t78, t79, t80, t81, t82, t83, t84, t85, t86, t87, t88, t89, t90, t91, t92, t93, t94, t95, t96, t97, t98, t99, t100, t101, t102, t103, t104, t105, t106, t107, t108, t109, t110, t111, t112, t113, t114, t115, t116, t117, t118, t119, t120, t121, t122, t123, t124, t125, t126, t127, t128, t129, t130, t131, t132, t133, t134, t135, t136, t137, t138, t139, t140, t141, t142, x143, x144, x145, t146, x147, x148, t149, t150, t151, t152, t153, t154, t155, t156, t157, t158, t159, t160, t161, t162, t163, t164, t165, t166, t167, t168, t169, t170, t171, t172, t173, t174, t175, t176, t177, t178, t179], defers := [] } W := by
    intro W vA qA hA ua uc z g hn kz
    refine wpAnyH_ready (rs := [3]) (by rw [hops.out]; kernel_rfl) (by simp) ?_
    refine AllReadyH.cons (o := ?_) ?_ (fun K hK => ?_) ?_
    rotate_left 1
    · rw [hops.out]; unfold wyOps; simp only [List.getElem?_toArray, List.getElem?_cons_succ, List.getElem?_cons_zero]; rfl
    · rw [if_pos (by rfl)]
      go_simp
      refine (H1 W g).mono ?_
      rintro e w2 ⟨y, qs, rfl, kP, fq, oq, b2⟩
      have b2s := b2.size
      have g2 : Below n1 w1 w2 := g.trans (b2.mono hn)
      have hn2 : n1 ≤ w2.heap.size := Nat.le_trans hn b2.size
      have hSW := hS w2 g2
      refine hK.out _ _ hSW (fun _ => ?_)
      exact h11 w2 y qs w2.heap.size ua uc z g2 hn2 kP ⟨fq, oq.wide hn (Nat.le_refl _), Nat.le_refl _⟩ ⟨(b2.block _ (lt_of_heap kz.1)).trans kz.1, kz.2⟩
    exact AllReadyH.nil
  have h20 : ∀ (W : World) (vA : Value) (qA : List WP) (hA : Nat) (ua : Option Addr) (uc z : Nat), Below n1 w1 W → n1 ≤ W.heap.size → P → wpAnyH Tryz.prog .any ops (NoPanic Q) S 3 #[true, true, true, true, true, true, true, true, true, true, false, false, false] { tmps := #[t0, t1, t2, t3, t4, t5, t6, t7, t8, t9, t10, t11, t12, t13, t14, t15, t16, t17, t18, t19, t20, t21, t22, t23, t24, t25, t26, t27, t28, t29, t30, t31, t32, t33, t34, t35, t36, t37, t38, t39, t40, t41, t42, t43, t44, t45, t46, t47, t48, t49, t50, t51, t52, t53, t54, t55, t56, t57, t58, t59, t60, t61, t62, t63, t64, t65, t66, t67, t68, t69, t70, t71, t72, t73, t74, t75, t76, t77, t78, t79, t80, t81, t82, t83, t84, t85, t86, t87, t88, t89, t90, t91, t92, t93, t94, t95, t96, t97, t98, t99, t100, t101, t102, t103, t104, t105, t106, t107, t108, t109, t110, t111, t112, t113, t114, t115, t116, t117, t118, t119, t120, t121, t122, t123, t124, t125, t126, t127, t128, t129, t130, t131, t132, t133, t134, t135, t136, t137, t138, t139, t140, t141, .tuple #[.agg #[.int .i64 D.to, .int .i64 D.cost, (.slice ua D.hops.length uc)], .bool F], x143, x144, x145, vA, x147, x148, .tuple #[.agg #[.int .i64 D.to, .int .i64 D.cost, (.slice ua D.hops.length uc)], .bool F], .agg #[.int .i64 D.to, .int .i64 D.cost, (.slice ua D.hops.length uc)], .bool F, t152, t153, t154, t155, t156, t157, t158, t159, t160, t161, t162, t163, t164, t165, t166, t167, t168, t169, t170, t171, t172, t173, t174, t175, t176, t177, t178, t179], defers := [] } W := by
    intro W vA qA hA ua uc z g hn kP
    refine wpAnyH_ready (rs := [10]) (by rw [hops.out]; kernel_rfl) (by simp) ?_
    refine AllReadyH.cons (o := ?_) ?_ (fun K hK => ?_) ?_
    rotate_left 1
    · rw [hops.out]; unfold wyOps; simp only [List.getElem?_toArray, List.getElem?_cons_succ, List.getElem?_cons_zero]; rfl
    · rw [if_pos (by rfl)]
      go_simp
      have g2 : Below n1 w1 (W.alloc (.cells #[.int .i64 0, .int .i64 0, .slice none 0 0] 73)) := g.alloc hn _
      refine hK.out _ _ (hS _ g2) (fun _ => ?_)
      exact h21 _ vA qA hA ua uc _ g2 (by simp; omega) kP ⟨heap_alloc_new _ _, hn⟩
    exact AllReadyH.nil
  have h10 : ∀ (W : World) (vA : Value) (qA : List WP) (hA : Nat) (ua : Option Addr) (uc z : Nat), Below n1 w1 W → n1 ≤ W.heap.size → P → (fstsW qA = L ∧ WaysOwn W n1 hA vA qA ∧ hA ≤ W.heap.size) → wpAnyH Tryz.prog .any ops (NoPanic Q) S 7 #[true, true, true, true, true, true, false, false, false, false, false, false, false] { tmps := #[t0, t1, t2, t3, t4, t5, t6, t7, t8, t9, t10, t11, t12, t13, t14, t15, t16, t17, t18, t19, t20, t21, t22, t23, t24, t25, t26, t27, t28, t29, t30, t31, t32, t33, t34, t35, t36, t37, t38, t39, t40, t41, t42, t43, t44, t45, t46, t47, t48, t49, t50, t51, t52, t53, t54, t55, t56, t57, t58, t59, t60, t61, t62, t63, t64, t65, t66, t67, t68, t69, t70, t71, t72, t73, t74, t75, t76, t77, t78, t79, t80, t81, t82, t83, t84, t85, t86, t87, t88, t89, t90, t91, t92, t93, t94, t95, t96, t97, t98, t99, t100, t101, t102, t103, t104, t105, t106, t107, t108, t109, t110, t111, t112, t113, t114, t115, t116, t117, t118, t119, t120, t121, t122, t123, t124, t125, t126, t127, t128, t129, t130, t131, t132, t133, t134, t135, t136, t137, t138, t139, t140, t141, t142, x143, x144, x145, vA, x147, x148, t149, t150, t151, t152, t153, t154, t155, t156, t157, t158, t159, t160, t161, t162, t163, t164, t165, t166, t167, t168, t169, t170, t171, t172, t173, t174, t175, t176, t177, t178, t179], defers := [] } W := by
    intro W vA qA hA ua uc z g hn kP kA
    refine wpAnyH_ready (rs := [6, 10]) (by rw [hops.out]; kernel_rfl) (by simp) ?_
    refine AllReadyH.cons (o := ?_) ?_ (fun K hK => ?_) ?_
    rotate_left 1
    · rw [hops.out]; unfold wyOps; simp only [List.getElem?_toArray, List.getElem?_cons_succ, List.getElem?_cons_zero]; rfl
    · rw [if_pos (by rfl)]
      go_simp
      refine (H2 vA qA n1 hA W kA.1 kA.2.1 kA.2.2).mono ?_
      rintro e w2 ⟨y, rfl, oy, b2⟩
      obtain ⟨ya, yc, rfl⟩ := owns_lenS oy
      unfold wayC at *
      have b2s := b2.size
      have g2 : Below n1 w1 w2 := g.trans (b2.mono hn)
      have hn2 : n1 ≤ w2.heap.size := Nat.le_trans hn b2.size
      have hSW := hS w2 g2
      refine hK.out _ _ hSW (fun _ => ?_)
      refine take_do 7 (oi := ?_) (v := ?_) ?_ (by rw [hops.out]; kernel_rfl) ?_ ?_ ?_ (by assumption) ?_
      rotate_left 2
      · rw [hops.out]; unfold wyOps; simp only [List.getElem?_toArray, List.getElem?_cons_succ, List.getElem?_cons_zero]; rfl
      · rw [hops.out]; kernel_rfl
      · intro W hW; (try dsimp only at hW); go_simp <;> with_reducible rfl
      · exact fun _ _ _ h => h
      try simp only [Act.put, List.setIfInBounds_toArray, List.set_cons_zero, List.set_cons_succ]
      refine take_do 8 (oi := ?_) (v := ?_) ?_ (by rw [hops.out]; kernel_rfl) ?_ ?_ ?_ (by assumption) ?_
      rotate_left 2
      · rw [hops.out]; unfold wyOps; simp only [List.getElem?_toArray, List.getElem?_cons_succ, List.getElem?_cons_zero]; rfl
      · rw [hops.out]; kernel_rfl
      · intro W hW; (try dsimp only at hW); go_simp <;> with_reducible rfl
      · exact fun _ _ _ h => h
      try simp only [Act.put, List.setIfInBounds_toArray, List.set_cons_zero, List.set_cons_succ]
      refine take_do 9 (oi := ?_) (v := ?_) ?_ (by rw [hops.out]; kernel_rfl) ?_ ?_ ?_ (by assumption) ?_
      rotate_left 2
      · rw [hops.out]; unfold wyOps; simp only [List.getElem?_toArray, List.getElem?_cons_succ, List.getElem?_cons_zero]; rfl
      · rw [hops.out]; kernel_rfl
      · intro W hW; (try dsimp only at hW); go_simp <;> with_reducible rfl
      · exact fun _ _ _ h => h
      try simp only [Act.put, List.setIfInBounds_toArray, List.set_cons_zero, List.set_cons_succ]
      exact h20 w2 vA qA hA ya yc z g2 hn2 kP 
    refine AllReadyH.cons (o := ?_) ?_ (fun K hK => ?_) ?_
    rotate_left 1
    · rw [hops.out]; unfold wyOps; simp only [List.getElem?_toArray, List.getElem?_cons_succ, List.getElem?_cons_zero]; rfl
    · rw [if_pos (by rfl)]
      go_simp
      have g2 : Below n1 w1 (W.alloc (.cells #[.int .i64 0, .int .i64 0, .slice none 0 0] 73)) := g.alloc hn _
      refine hK.out _ _ (hS _ g2) (fun _ => ?_)
      exact h11 _ vA qA hA ua uc _ g2 (by simp; omega) kP ⟨kA.1, kA.2.1.below ((Below.refl _ _).alloc (Nat.le_refl _) _) kA.2.2, by have := kA.2.2; simp; omega⟩ ⟨heap_alloc_new _ _, hn⟩
    exact AllReadyH.nil
  have h00 : ∀ (W : World) (vA : Value) (qA : List WP) (hA : Nat) (ua : Option Addr) (uc z : Nat), Below n1 w1 W → n1 ≤ W.heap.size → wpAnyH Tryz.prog .any ops (NoPanic Q) S 8 #[true, true, true, false, true, true, false, false, false, false, false, false, false] { tmps := #[t0, t1, t2, t3, t4, t5, t6, t7, t8, t9, t10, t11, t12, t13, t14, t15, t16, t17, t18, t19, t20, t21, t22, t23, t24, t25, t26, t27, t28, t29, t30, t31, t32, t33, t34, t35, t36, t37, t38, t39, t40, t41, t42, t43, t44, t45, t46, t47, t48, t49, t50, t51, t52, t53, t54, t55, t56, t57, t58, t59, t60, t61, t62, t63, t64, t65, t66, t67, t68, t69, t70, t71, t72, t73, t74, t75, t76, t77, t78, t79, t80, t81, t82, t83, t84, t85, t86, t87, t88, t89, t90, t91, t92, t93, t94, t95, t96, t97, t98, t99, t100, t101, t102, t103, t104, t105, t106, t107, t108, t109, t110, t111, t112, t113, t114, t115, t116, t117, t118, t119, t120, t121, t122, t123, t124, t125, t126, t127, t128, t129, t130, t131, t132, t133, t134, t135, t136, t137, t138, t139, t140, t141, t142, x143, x144, x145, t146, x147, x148, t149, t150, t151, t152, t153, t154, t155, t156, t157, t158, t159, t160, t161, t162, t163, t164, t165, t166, t167, t168, t169, t170, t171, t172, t173, t174, t175, t176, t177, t178, t179], defers := [] } W := by
    intro W vA qA hA ua uc z g hn
    refine wpAnyH_ready (rs := [3, 10]) (by rw [hops.out]; kernel_rfl) (by simp) ?_
    refine AllReadyH.cons (o := ?_) ?_ (fun K hK => ?_) ?_
    rotate_left 1
    · rw [hops.out]; unfold wyOps; simp only [List.getElem?_toArray, List.getElem?_cons_succ, List.getElem?_cons_zero]; rfl
    · rw [if_pos (by rfl)]
      go_simp
      refine (H1 W g).mono ?_
      rintro e w2 ⟨y, qs, rfl, kP, fq, oq, b2⟩
      have b2s := b2.size
      have g2 : Below n1 w1 w2 := g.trans (b2.mono hn)
      have hn2 : n1 ≤ w2.heap.size := Nat.le_trans hn b2.size
      have hSW := hS w2 g2
      refine hK.out _ _ hSW (fun _ => ?_)
      exact h10 w2 y qs w2.heap.size ua uc z g2 hn2 kP ⟨fq, oq.wide hn (Nat.le_refl _), Nat.le_refl _⟩ 
    refine AllReadyH.cons (o := ?_) ?_ (fun K hK => ?_) ?_
    rotate_left 1
    · rw [hops.out]; unfold wyOps; simp only [List.getElem?_toArray, List.getElem?_cons_succ, List.getElem?_cons_zero]; rfl
    · rw [if_pos (by rfl)]
      go_simp
      have g2 : Below n1 w1 (W.alloc (.cells #[.int .i64 0, .int .i64 0, .slice none 0 0] 73)) := g.alloc hn _
      refine hK.out _ _ (hS _ g2) (fun _ => ?_)
      exact h01 _ vA qA hA ua uc _ g2 (by simp; omega) ⟨heap_alloc_new _ _, hn⟩
    exact AllReadyH.nil
  exact h00 w1 undef [] 0 none 0 0 (Below.refl _ _) hn1
end Go.Proofs.YtdaigojpeofmpaaGreat
