/-
  impl.ownSelf: a node with rows of its own.
-/
import Derived.Test.YtmijnjnihhemgaaGreatQm7
import Derived.Test.YtmijnjnihhemgaaGreatQm10
namespace Go.Proofs.YtmijnjnihhemgaaGreat
open Go.RowKit
set_option linter.unusedSimpArgs false
set_option linter.unusedVariables false
set_option maxRecDepth 100000
set_option maxHeartbeats 8000000
theorem lk_flat4 (l : List Lk) : (flat lkE l).length = l.length * 4 := flat_len lkE_len l
theorem th_flat4 (l : List Th) : (flat thE l).length = l.length * 4 := flat_len thE_len l
theorem lkE_one4 (a : Lk) : ∀ u ∈ lkE a, u.oneCell' = true := by
 intro u hu
 simp [lkE] at hu
 rcases hu with rfl | rfl | rfl | rfl <;> rfl
theorem thE_one4 (a : Th) : ∀ u ∈ thE a, u.oneCell' = true := by
 intro u hu
 simp [thE] at hu
 rcases hu with rfl | rfl | rfl | rfl <;> rfl
theorem Tryz.infoLk4 : (Tryz.prog.info? 83).map (fun i => (i.zero, i.size, i.bytes)) = some (some (.agg #[.int .i64 0, .int .i64 0, .int .i64 0, .int .i64 0]), 4, 32) := by kernel_rfl
theorem Tryz.infoTh4 : (Tryz.prog.info? 87).map (fun i => (i.zero, i.size, i.bytes)) = some (some (.agg #[.int .i64 0, .int .i64 0, .int .i64 0, .bool false]), 4, 32) := by kernel_rfl
def SelfNew (w w' : World) (x : SelfD) (ps : List RP) (e : Ending) : Prop := ∃ u1 u2 u3 u4 qs m1 m2, e = .returned (selfV x u1 u2 u3 u4) ∧ fsts qs = fsts ps ∧ SelfOwn w' w.heap.size w'.heap.size u1 u2 u3 u4 x qs m1 m2 ∧ Below w.heap.size w w'
theorem ownSelf_any (v1 v2 v3 v4 : Value) (x : SelfD) (ps : List RP) (hi : Nat) (w : World) (hv : SelfSrc w hi v1 v2 v3 v4 x ps) (hhi : hi ≤ w.heap.size) (ht : totS x ps ≤ 1048576) :
  Calls Tryz.prog 47 #[selfV x v1 v2 v3 v4] w fun e w' => SelfNew w w' x ps e := by
 obtain ⟨⟨a1, c1, rfl⟩, ⟨a2, c2, rfl⟩, ⟨a3, c3, rfl⟩, ⟨a4, c4, rfl⟩⟩ := hv.in.shapes
 have hlL : x.net.ls.length ≤ 1048576 := by unfold totS at ht; omega
 have hlT : x.net.ts.length ≤ 1048576 := by unfold totS at ht; omega
 have hlH : x.heard.length ≤ 1048576 := by unfold totS at ht; omega
 have hlR : tot ps ≤ 1048576 := by unfold totS at ht; omega
 have HX := hide hv
 clear hv ht
 unfold SelfNew
 have B0 : Below w.heap.size w ((w.alloc (.cells #[.int .i64 x.id, .int .i64 x.boot, .int .i64 x.net.n, .slice a1 x.net.ls.length c1, .slice a2 x.net.ts.length c2, .slice a3 x.heard.length c3, .slice a4 ps.length c4] 31)).alloc (.cells #[.int .i64 0, .int .i64 0, .int .i64 0, .slice none 0 0, .slice none 0 0, .slice none 0 0, .slice none 0 0] 31)) := ((Below.refl w.heap.size w).alloc (Nat.le_refl _) _).alloc (by simp) _
 have q0 : ((w.alloc (.cells #[.int .i64 x.id, .int .i64 x.boot, .int .i64 x.net.n, .slice a1 x.net.ls.length c1, .slice a2 x.net.ts.length c2, .slice a3 x.heard.length c3, .slice a4 ps.length c4] 31)).alloc (.cells #[.int .i64 0, .int .i64 0, .int .i64 0, .slice none 0 0, .slice none 0 0, .slice none 0 0, .slice none 0 0] 31)).heap[w.heap.size]? = some (.cells #[.int .i64 x.id, .int .i64 x.boot, .int .i64 x.net.n, .slice a1 x.net.ls.length c1, .slice a2 x.net.ts.length c2, .slice a3 x.heard.length c3, .slice a4 ps.length c4] 31) := by rw [Below.heap_alloc _ _ _ (by simp), heap_alloc_new]
 have q1 : ((w.alloc (.cells #[.int .i64 x.id, .int .i64 x.boot, .int .i64 x.net.n, .slice a1 x.net.ls.length c1, .slice a2 x.net.ts.length c2, .slice a3 x.heard.length c3, .slice a4 ps.length c4] 31)).alloc (.cells #[.int .i64 0, .int .i64 0, .int .i64 0, .slice none 0 0, .slice none 0 0, .slice none 0 0, .slice none 0 0] 31)).heap[w.heap.size + 1]? = some (.cells #[.int .i64 0, .int .i64 0, .int .i64 0, .slice none 0 0, .slice none 0 0, .slice none 0 0, .slice none 0 0] 31) := by
  have h := heap_alloc_new (w.alloc (.cells #[.int .i64 x.id, .int .i64 x.boot, .int .i64 x.net.n, .slice a1 x.net.ls.length c1, .slice a2 x.net.ts.length c2, .slice a3 x.heard.length c3, .slice a4 ps.length c4] 31)) (.cells #[.int .i64 0, .int .i64 0, .int .i64 0, .slice none 0 0, .slice none 0 0, .slice none 0 0, .slice none 0 0] 31)
  simpa using h
 have z0 : ((w.alloc (.cells #[.int .i64 x.id, .int .i64 x.boot, .int .i64 x.net.n, .slice a1 x.net.ls.length c1, .slice a2 x.net.ts.length c2, .slice a3 x.heard.length c3, .slice a4 ps.length c4] 31)).alloc (.cells #[.int .i64 0, .int .i64 0, .int .i64 0, .slice none 0 0, .slice none 0 0, .slice none 0 0, .slice none 0 0] 31)).heap.size = w.heap.size + 2 := by simp
 have Q0 := hide q0
 have Q1 := hide q1
 have Z0 := hide z0
 clear q0 q1 z0
 go_enter Tryz.func47, Tryz.ntmps47
 go_wp2_with (first | (at_builtin; refine append_row5 lk_flat4 (by omega) lkE_one4 (by omega) _ rfl _ _ 24 rfl (w.heap.size + 2) 83 Tryz.underlying24 (.agg #[.int .i64 0, .int .i64 0, .int .i64 0, .int .i64 0]) rfl Tryz.infoLk4 _ [] rfl (World.ownsRow_nil _ _ _ _) 0 _ x.net.ls rfl (HX.out.below B0 hhi).links (by simp; omega) ?base ?_))
 case base => (rw [Z0.out]; exact Nat.le_refl _)
 intro v1' wA1 ho1 gr1
 obtain ⟨p1a, p1c, rfl⟩ := owns_lenS ho1
 simp only [Value.ownBlock, List.nil_append] at gr1 ho1
 try simp only [List.nil_append]
 have bA1 : Below w.heap.size w wA1 := B0.grown gr1 (by have := B0.size; omega) (fun k hk => by simp at hk)
 have sA1 := gr1.size
 have x01 := (gr1.block w.heap.size (lt_of_heap Q0.out) (by simp)).trans Q0.out
 have x11 := (gr1.block (w.heap.size + 1) (lt_of_heap Q1.out) (by simp)).trans Q1.out
 have t13 := cells_at x01 3
 have t14 := cells_at x01 4
 have fz1 := frozen_at x01 3
 simp at t13 t14
 have B1 : Below w.heap.size w (wA1.setCell ⟨w.heap.size, 3, none⟩ (.slice p1a x.net.ls.length p1c)) := bA1.setCell (Nat.le_refl _) _
 have y01 : (wA1.setCell ⟨w.heap.size, 3, none⟩ (.slice p1a x.net.ls.length p1c)).heap[w.heap.size]? = some (.cells #[.int .i64 x.id, .int .i64 x.boot, .int .i64 x.net.n, .slice p1a x.net.ls.length p1c, .slice a2 x.net.ts.length c2, .slice a3 x.heard.length c3, .slice a4 ps.length c4] 31) := heap_setCell_same _ _ 3 _ _ (.slice p1a x.net.ls.length p1c) x01
 have y11 : (wA1.setCell ⟨w.heap.size, 3, none⟩ (.slice p1a x.net.ls.length p1c)).heap[w.heap.size + 1]? = some (.cells #[.int .i64 0, .int .i64 0, .int .i64 0, .slice none 0 0, .slice none 0 0, .slice none 0 0, .slice none 0 0] 31) := by rw [heap_setCell_other _ ⟨w.heap.size, 3, none⟩ _ _ (by show w.heap.size + 1 ≠ w.heap.size; omega)]; exact x11
 have R10 := hide (owns_set (p := w.heap.size) (j := 3) (u := .slice p1a x.net.ls.length p1c) ho1 (by omega))
 have Q01 := hide y01
 have Q11 := hide y11
 have zz1 : (wA1.setCell ⟨w.heap.size, 3, none⟩ (.slice p1a x.net.ls.length p1c)).heap.size = wA1.heap.size := by simp
 clear x01 x11 y01 y11 ho1 gr1 
 go_wp2_with (first | (at_builtin; refine append_row5 th_flat4 (by omega) thE_one4 (by omega) _ rfl _ _ 25 rfl (w.heap.size + 2) 87 Tryz.underlying25 (.agg #[.int .i64 0, .int .i64 0, .int .i64 0, .bool false]) rfl Tryz.infoTh4 _ [] rfl (World.ownsRow_nil _ _ _ _) 0 _ x.net.ts rfl (HX.out.below B1 hhi).things (by simp; omega) ?base ?_))
 case base => (rw [zz1]; rw [Z0.out] at sA1; omega)
 intro v2' wA2 ho2 gr2
 obtain ⟨p2a, p2c, rfl⟩ := owns_lenS ho2
 simp only [Value.ownBlock, List.nil_append] at gr2 ho2
 try simp only [List.nil_append]
 have bA2 : Below w.heap.size w wA2 := B1.grown gr2 (by have := B1.size; omega) (fun k hk => by simp at hk)
 have sA2 := gr2.size
 have x02 := (gr2.block w.heap.size (lt_of_heap Q01.out) (by simp)).trans Q01.out
 have x12 := (gr2.block (w.heap.size + 1) (lt_of_heap Q11.out) (by simp)).trans Q11.out
 have r20 := owns_keepB (W' := wA2) R10.out (fun k hk => gr2.block k (R10.out.lt k hk).2 (by simp))
 have t24 := cells_at x02 4
 have t25 := cells_at x02 5
 have fz2 := frozen_at x02 4
 simp at t24 t25
 have B2 : Below w.heap.size w (wA2.setCell ⟨w.heap.size, 4, none⟩ (.slice p2a x.net.ts.length p2c)) := bA2.setCell (Nat.le_refl _) _
 have y02 : (wA2.setCell ⟨w.heap.size, 4, none⟩ (.slice p2a x.net.ts.length p2c)).heap[w.heap.size]? = some (.cells #[.int .i64 x.id, .int .i64 x.boot, .int .i64 x.net.n, .slice p1a x.net.ls.length p1c, .slice p2a x.net.ts.length p2c, .slice a3 x.heard.length c3, .slice a4 ps.length c4] 31) := heap_setCell_same _ _ 4 _ _ (.slice p2a x.net.ts.length p2c) x02
 have y12 : (wA2.setCell ⟨w.heap.size, 4, none⟩ (.slice p2a x.net.ts.length p2c)).heap[w.heap.size + 1]? = some (.cells #[.int .i64 0, .int .i64 0, .int .i64 0, .slice none 0 0, .slice none 0 0, .slice none 0 0, .slice none 0 0] 31) := by rw [heap_setCell_other _ ⟨w.heap.size, 4, none⟩ _ _ (by show w.heap.size + 1 ≠ w.heap.size; omega)]; exact x12
 have R20 := hide (owns_set (p := w.heap.size) (j := 4) (u := .slice p2a x.net.ts.length p2c) r20 (by omega))
 have R21 := hide (owns_set (p := w.heap.size) (j := 4) (u := .slice p2a x.net.ts.length p2c) ho2 (by omega))
 have Q02 := hide y02
 have Q12 := hide y12
 have zz2 : (wA2.setCell ⟨w.heap.size, 4, none⟩ (.slice p2a x.net.ts.length p2c)).heap.size = wA2.heap.size := by simp
 clear x02 x12 y02 y12 ho2 gr2 r20
 go_wp2_with (first | (at_builtin; refine append_row5 int_flat1 (by omega) intE_one (by omega) _ rfl _ _ 28 rfl wA2.heap.size 3 Tryz.underlying28 (.int .i64 0) rfl Tryz.info3 _ [] rfl (World.ownsRow_nil _ _ _ _) 0 _ x.heard rfl (HX.out.below B2 hhi).heard (by simp; omega) ?base ?_))
 case base => (rw [zz2]; exact Nat.le_refl _)
 intro v3' wA3 ho3 gr3
 obtain ⟨p3a, p3c, rfl⟩ := owns_lenS ho3
 simp only [Value.ownBlock, List.nil_append] at gr3 ho3
 try simp only [List.nil_append]
 have bA3 : Below w.heap.size w wA3 := B2.grown gr3 (by have := B2.size; omega) (fun k hk => by simp at hk)
 have sA3 := gr3.size
 have x03 := (gr3.block w.heap.size (lt_of_heap Q02.out) (by simp)).trans Q02.out
 have x13 := (gr3.block (w.heap.size + 1) (lt_of_heap Q12.out) (by simp)).trans Q12.out
 have r30 := owns_keepB (W' := wA3) R20.out (fun k hk => gr3.block k (R20.out.lt k hk).2 (by simp))
 have r31 := owns_keepB (W' := wA3) R21.out (fun k hk => gr3.block k (R21.out.lt k hk).2 (by simp))
 have t35 := cells_at x03 5
 have t36 := cells_at x03 6
 have fz3 := frozen_at x03 5
 simp at t35 t36
 have B3 : Below w.heap.size w (wA3.setCell ⟨w.heap.size, 5, none⟩ (.slice p3a x.heard.length p3c)) := bA3.setCell (Nat.le_refl _) _
 have y03 : (wA3.setCell ⟨w.heap.size, 5, none⟩ (.slice p3a x.heard.length p3c)).heap[w.heap.size]? = some (.cells #[.int .i64 x.id, .int .i64 x.boot, .int .i64 x.net.n, .slice p1a x.net.ls.length p1c, .slice p2a x.net.ts.length p2c, .slice p3a x.heard.length p3c, .slice a4 ps.length c4] 31) := heap_setCell_same _ _ 5 _ _ (.slice p3a x.heard.length p3c) x03
 have y13 : (wA3.setCell ⟨w.heap.size, 5, none⟩ (.slice p3a x.heard.length p3c)).heap[w.heap.size + 1]? = some (.cells #[.int .i64 0, .int .i64 0, .int .i64 0, .slice none 0 0, .slice none 0 0, .slice none 0 0, .slice none 0 0] 31) := by rw [heap_setCell_other _ ⟨w.heap.size, 5, none⟩ _ _ (by show w.heap.size + 1 ≠ w.heap.size; omega)]; exact x13
 have hw2 : w.heap.size + 1 < wA2.heap.size := by have := lt_of_heap Q12.out; omega
 have R30 := hide (owns_set (p := w.heap.size) (j := 5) (u := .slice p3a x.heard.length p3c) r30 (by omega))
 have R31 := hide (owns_set (p := w.heap.size) (j := 5) (u := .slice p3a x.heard.length p3c) r31 (by omega))
 have R32 := hide (owns_set (p := w.heap.size) (j := 5) (u := .slice p3a x.heard.length p3c) ho3 (by omega))
 have Q03 := hide y03
 have Q13 := hide y13
 have zz3 : (wA3.setCell ⟨w.heap.size, 5, none⟩ (.slice p3a x.heard.length p3c)).heap.size = wA3.heap.size := by simp
 clear x03 x13 y03 y13 ho3 gr3 r30 r31
 have HOW := hide (ownList_any (.slice a4 ps.length c4) ps hi (wA3.setCell ⟨w.heap.size, 5, none⟩ (.slice p3a x.heard.length p3c)) (HX.out.store.below B3 hhi) (by have := B3.size; omega) hlR)
 go_wp2_with fail
 obtain ⟨wS, hwS⟩ : ∃ W, W = (wA3.setCell ⟨w.heap.size, 5, none⟩ (.slice p3a x.heard.length p3c)) := ⟨_, rfl⟩
 rw [← hwS] at B3 zz3 Q03 Q13 HOW R30 R31 R32 ⊢
 clear hwS
 refine HOW.out.mono ?_
 rintro e w6 ⟨p4, qs, rfl, fq, ho4, b6⟩
 obtain ⟨p4a, p4c, rfl⟩ := owns_lenS ho4.row
 have hz6 := b6.size
 have bs3 := B3.size
 have bw6 : Below w.heap.size w w6 := B3.trans (b6.mono B3.size)
 have q2 := (b6.block _ (lt_of_heap Q03.out)).trans Q03.out
 have q1 := (b6.block _ (lt_of_heap Q13.out)).trans Q13.out
 have hl6 := lt_of_heap q1
 have n0 := fun k hk => (R30.out.lt k hk)
 have n1 := fun k hk => (R31.out.lt k hk)
 have n2 := fun k hk => (R32.out.lt k hk)
 have hbig : w.heap.size + 2 ≤ wS.heap.size := by have := lt_of_heap Q13.out; omega
 have OW := hide (show SelfOwn w6 (w.heap.size + 2) w6.heap.size (.slice p1a x.net.ls.length p1c) (.slice p2a x.net.ts.length p2c) (.slice p3a x.heard.length p3c) (.slice p4a qs.length p4c) x qs wA2.heap.size wS.heap.size from
  {o1 := by have := lt_of_heap Q12.out; omega
   o2 := by omega
   o3 := hz6
   links := owns_below R30.out b6 (Nat.le_refl _)
   ltop := fun k e => by have := (R20.out.lt k e).2; omega
   things := owns_below R31.out b6 (Nat.le_refl _)
   ttop := fun k e => by have := (R21.out.lt k e).2; omega
   heard := ⟨owns_below R32.out b6 (Nat.le_refl _), fun k e => (R32.out.lt k e).2⟩
   store := ho4 })
 have FQ := hide fq
 have r0 := cells_at q1 0
 have r1 := cells_at q1 1
 have r2 := cells_at q1 2
 have r3 := cells_at q1 3
 have r4 := cells_at q1 4
 have r5 := cells_at q1 5
 have r6 := cells_at q1 6
 simp at r0 r1 r2 r3 r4 r5 r6
 have t0 := cells_at q2 0
 have t1 := cells_at q2 1
 have t2 := cells_at q2 2
 have t3 := cells_at q2 3
 have t4 := cells_at q2 4
 have t5 := cells_at q2 5
 have t6 := cells_at q2 6
 simp at t0 t1 t2 t3 t4 t5 t6
 have fz0x := frozen_at q1 0
 have fz1x := frozen_at q1 1
 have fz2x := frozen_at q1 2
 have fz3x := frozen_at q1 3
 have fz4x := frozen_at q1 4
 have fz5x := frozen_at q1 5
 have fz6x := frozen_at q1 6
 have e6 := frozen_at q2 6
 have QQ1 := hide q1
 clear ho4 q1 q2 fq
 go_wp2
 have hfin : ((((((((w6.setCell ⟨w.heap.size, 6, none⟩ (.slice p4a qs.length p4c)).setCell ⟨w.heap.size + 1, 0, none⟩ (.int .i64 x.id)).setCell ⟨w.heap.size + 1, 1, none⟩ (.int .i64 x.boot)).setCell ⟨w.heap.size + 1, 2, none⟩ (.int .i64 x.net.n)).setCell ⟨w.heap.size + 1, 3, none⟩ (.slice p1a x.net.ls.length p1c)).setCell ⟨w.heap.size + 1, 4, none⟩ (.slice p2a x.net.ts.length p2c)).setCell ⟨w.heap.size + 1, 5, none⟩ (.slice p3a x.heard.length p3c)).setCell ⟨w.heap.size + 1, 6, none⟩ (.slice p4a qs.length p4c)).heap[w.heap.size + 1]? = some (.cells #[.int .i64 x.id, .int .i64 x.boot, .int .i64 x.net.n, .slice p1a x.net.ls.length p1c, .slice p2a x.net.ts.length p2c, .slice p3a x.heard.length p3c, .slice p4a qs.length p4c] 31) := by
  have k0 : (w6.setCell ⟨w.heap.size, 6, none⟩ (.slice p4a qs.length p4c)).heap[w.heap.size + 1]? = some (.cells #[.int .i64 0, .int .i64 0, .int .i64 0, .slice none 0 0, .slice none 0 0, .slice none 0 0, .slice none 0 0] 31) := by
   rw [heap_setCell_other _ ⟨w.heap.size, 6, none⟩ _ _ (by show w.heap.size + 1 ≠ w.heap.size; omega)]
   exact QQ1.out
  have k1 := heap_setCell_same _ _ 0 _ _ (.int .i64 x.id) k0
  have k2 := heap_setCell_same _ _ 1 _ _ (.int .i64 x.boot) k1
  have k3 := heap_setCell_same _ _ 2 _ _ (.int .i64 x.net.n) k2
  have k4 := heap_setCell_same _ _ 3 _ _ (.slice p1a x.net.ls.length p1c) k3
  have k5 := heap_setCell_same _ _ 4 _ _ (.slice p2a x.net.ts.length p2c) k4
  have k6 := heap_setCell_same _ _ 5 _ _ (.slice p3a x.heard.length p3c) k5
  have k7 := heap_setCell_same _ _ 6 _ _ (.slice p4a qs.length p4c) k6
  exact k7
 have hkeep : ∀ k, w.heap.size + 2 ≤ k → ((((((((w6.setCell ⟨w.heap.size, 6, none⟩ (.slice p4a qs.length p4c)).setCell ⟨w.heap.size + 1, 0, none⟩ (.int .i64 x.id)).setCell ⟨w.heap.size + 1, 1, none⟩ (.int .i64 x.boot)).setCell ⟨w.heap.size + 1, 2, none⟩ (.int .i64 x.net.n)).setCell ⟨w.heap.size + 1, 3, none⟩ (.slice p1a x.net.ls.length p1c)).setCell ⟨w.heap.size + 1, 4, none⟩ (.slice p2a x.net.ts.length p2c)).setCell ⟨w.heap.size + 1, 5, none⟩ (.slice p3a x.heard.length p3c)).setCell ⟨w.heap.size + 1, 6, none⟩ (.slice p4a qs.length p4c)).heap[k]? = w6.heap[k]? := fun k hk => by
  rw [heap_setCell_other _ ⟨w.heap.size + 1, 6, none⟩ _ _ (by show k ≠ w.heap.size + 1; omega), heap_setCell_other _ ⟨w.heap.size + 1, 5, none⟩ _ _ (by show k ≠ w.heap.size + 1; omega), heap_setCell_other _ ⟨w.heap.size + 1, 4, none⟩ _ _ (by show k ≠ w.heap.size + 1; omega), heap_setCell_other _ ⟨w.heap.size + 1, 3, none⟩ _ _ (by show k ≠ w.heap.size + 1; omega), heap_setCell_other _ ⟨w.heap.size + 1, 2, none⟩ _ _ (by show k ≠ w.heap.size + 1; omega), heap_setCell_other _ ⟨w.heap.size + 1, 1, none⟩ _ _ (by show k ≠ w.heap.size + 1; omega), heap_setCell_other _ ⟨w.heap.size + 1, 0, none⟩ _ _ (by show k ≠ w.heap.size + 1; omega), heap_setCell_other _ ⟨w.heap.size, 6, none⟩ _ _ (by show k ≠ w.heap.size; omega)]
 have hsize : ((((((((w6.setCell ⟨w.heap.size, 6, none⟩ (.slice p4a qs.length p4c)).setCell ⟨w.heap.size + 1, 0, none⟩ (.int .i64 x.id)).setCell ⟨w.heap.size + 1, 1, none⟩ (.int .i64 x.boot)).setCell ⟨w.heap.size + 1, 2, none⟩ (.int .i64 x.net.n)).setCell ⟨w.heap.size + 1, 3, none⟩ (.slice p1a x.net.ls.length p1c)).setCell ⟨w.heap.size + 1, 4, none⟩ (.slice p2a x.net.ts.length p2c)).setCell ⟨w.heap.size + 1, 5, none⟩ (.slice p3a x.heard.length p3c)).setCell ⟨w.heap.size + 1, 6, none⟩ (.slice p4a qs.length p4c)).heap.size = w6.heap.size := by simp
 have hbel : Below w.heap.size w ((((((((w6.setCell ⟨w.heap.size, 6, none⟩ (.slice p4a qs.length p4c)).setCell ⟨w.heap.size + 1, 0, none⟩ (.int .i64 x.id)).setCell ⟨w.heap.size + 1, 1, none⟩ (.int .i64 x.boot)).setCell ⟨w.heap.size + 1, 2, none⟩ (.int .i64 x.net.n)).setCell ⟨w.heap.size + 1, 3, none⟩ (.slice p1a x.net.ls.length p1c)).setCell ⟨w.heap.size + 1, 4, none⟩ (.slice p2a x.net.ts.length p2c)).setCell ⟨w.heap.size + 1, 5, none⟩ (.slice p3a x.heard.length p3c)).setCell ⟨w.heap.size + 1, 6, none⟩ (.slice p4a qs.length p4c)) := ((((((((bw6.setCell (by show w.heap.size ≤ w.heap.size; omega) _).setCell (by show w.heap.size ≤ w.heap.size + 1; omega) _).setCell (by show w.heap.size ≤ w.heap.size + 1; omega) _).setCell (by show w.heap.size ≤ w.heap.size + 1; omega) _).setCell (by show w.heap.size ≤ w.heap.size + 1; omega) _).setCell (by show w.heap.size ≤ w.heap.size + 1; omega) _).setCell (by show w.heap.size ≤ w.heap.size + 1; omega) _).setCell (by show w.heap.size ≤ w.heap.size + 1; omega) _)
 try simp only [Exit.inBlock, Exit.then]
 refine bodyPost_ret (results_cell_row rfl _ _ (w.heap.size + 1) 31 #[.int .i64 x.id, .int .i64 x.boot, .int .i64 x.net.n, .slice p1a x.net.ls.length p1c, .slice p2a x.net.ts.length p2c, .slice p3a x.heard.length p3c, .slice p4a qs.length p4c] (0, 0) _ rfl hfin Tryz.underlying31 rfl (by kernel_rfl)) rfl ?_
 exact ⟨_, _, _, _, qs, _, _, rfl, FQ.out, ((OW.out.keep (fun k h1 _ _ => hkeep k h1)).low (by omega)).high (by rw [hsize]; omega), hbel⟩
end Go.Proofs.YtmijnjnihhemgaaGreat
