/-
  impl.Learn: its contract.
  spec.l08Copy: a node with rows of its own.
  spec.l08Heard: its contract.
-/
import Derived.Test.YtmijnjnihhemgaaGreatQm11
import Derived.Test.YtmijnjnihhemgaaGreatQm17
import Derived.Test.YtmijnjnihhemgaaGreatQm27
import Derived.Test.YtmijnjnihhemgaaGreatQm28
import Derived.Test.YtmijnjnihhemgaaGreatQm12
import Derived.Test.YtmijnjnihhemgaaGreatQm6
import Derived.Test.YtmijnjnihhemgaaGreatQm5
import Derived.Test.YtmijnjnihhemgaaGreatQm1
import Derived.Deep.RegionHeld3
namespace Go.Proofs.YtmijnjnihhemgaaGreat
open Go.RowKit
set_option linter.unusedSimpArgs false
set_option linter.unusedVariables false
set_option maxRecDepth 100000
set_option maxHeartbeats 8000000
def learnS (x : SelfD) (ps ts : List RP) : List RecD := if selfB x ps then (fsts ts).foldl instD (fsts ps) else fsts ps
def learnN (x : SelfD) (ps ts : List RP) : List RecD := if selfB x ps then newsD (fsts ps) (fsts ts) else []
theorem self_asc {x : SelfD} {ps : List RP} (h : selfB x ps = true) : Asc (fsts ps) := by
 unfold selfB at h
 simp only [Bool.and_eq_true] at h
 exact store_asc_of h.2.2.2.2
theorem ilearn_any (v1 v2 v3 v4 v5 : Value) (x : SelfD) (ps ts : List RP) (hi : Nat) (w : World) (hv : SelfSrc w hi v1 v2 v3 v4 x ps) (hl : RecsIn w hi v5 ts) (hhi : hi ≤ w.heap.size) (ht : totS x ps + tot ts ≤ 1048576) :
  Calls Tryz.prog 21 #[selfV x v1 v2 v3 v4, v5] w fun e w' => ∃ u1 u2 u3 u4 u5 qs ns m1 m2, e = .returned (.tuple #[selfV x u1 u2 u3 u4, u5]) ∧ fsts qs = learnS x ps ts ∧ fsts ns = learnN x ps ts ∧ SelfOwn w' w.heap.size w'.heap.size u1 u2 u3 u4 x qs m1 m2 ∧ RecsOwn w' m2 w'.heap.size u5 ns ∧ Sep u4 qs u5 ns ∧ Below w.heap.size w w' := by
 obtain ⟨⟨a1, a1c, rfl⟩, ⟨a2, a2c, rfl⟩, ⟨a3, a3c, rfl⟩, ⟨a4, a4c, rfl⟩⟩ := hv.in.shapes
 obtain ⟨l5, c5, rfl⟩ := owns_lenS hl.row
 have HX := hide hv
 have HL := hide hl
 clear hv hl
 have B0 : Below w.heap.size w ((w.alloc (.cells #[.int .i64 x.id, .int .i64 x.boot, .int .i64 x.net.n, .slice a1 x.net.ls.length a1c, .slice a2 x.net.ts.length a2c, .slice a3 x.heard.length a3c, .slice a4 ps.length a4c] 31)).alloc (.cells #[.int .i64 0, .int .i64 0, .int .i64 0, .slice none 0 0, .slice none 0 0, .slice none 0 0, .slice none 0 0] 31)) := ((Below.refl w.heap.size w).alloc (Nat.le_refl _) _).alloc (by simp) _
 have q0 : ((w.alloc (.cells #[.int .i64 x.id, .int .i64 x.boot, .int .i64 x.net.n, .slice a1 x.net.ls.length a1c, .slice a2 x.net.ts.length a2c, .slice a3 x.heard.length a3c, .slice a4 ps.length a4c] 31)).alloc (.cells #[.int .i64 0, .int .i64 0, .int .i64 0, .slice none 0 0, .slice none 0 0, .slice none 0 0, .slice none 0 0] 31)).heap[w.heap.size]? = some (.cells #[.int .i64 x.id, .int .i64 x.boot, .int .i64 x.net.n, .slice a1 x.net.ls.length a1c, .slice a2 x.net.ts.length a2c, .slice a3 x.heard.length a3c, .slice a4 ps.length a4c] 31) := by rw [Below.heap_alloc _ _ _ (by simp), heap_alloc_new]
 have q1 : ((w.alloc (.cells #[.int .i64 x.id, .int .i64 x.boot, .int .i64 x.net.n, .slice a1 x.net.ls.length a1c, .slice a2 x.net.ts.length a2c, .slice a3 x.heard.length a3c, .slice a4 ps.length a4c] 31)).alloc (.cells #[.int .i64 0, .int .i64 0, .int .i64 0, .slice none 0 0, .slice none 0 0, .slice none 0 0, .slice none 0 0] 31)).heap[w.heap.size + 1]? = some (.cells #[.int .i64 0, .int .i64 0, .int .i64 0, .slice none 0 0, .slice none 0 0, .slice none 0 0, .slice none 0 0] 31) := by
  have h := heap_alloc_new (w.alloc (.cells #[.int .i64 x.id, .int .i64 x.boot, .int .i64 x.net.n, .slice a1 x.net.ls.length a1c, .slice a2 x.net.ts.length a2c, .slice a3 x.heard.length a3c, .slice a4 ps.length a4c] 31)) (.cells #[.int .i64 0, .int .i64 0, .int .i64 0, .slice none 0 0, .slice none 0 0, .slice none 0 0, .slice none 0 0] 31)
  simpa using h
 have HOS := hide (ownSelf_any _ _ _ _ x ps hi _ (HX.out.below B0 hhi) (by have := B0.size; omega) (by omega))
 have Q0 := hide q0
 have Q1 := hide q1
 clear q0 q1
 obtain ⟨R, hR⟩ : ∃ R, R = selfB x ps := ⟨_, rfl⟩
 have HR := hide hR
 clear hR
 go_enter Tryz.func21, Tryz.ntmps21
 go_wp2_with fail
 obtain ⟨w0, hw0⟩ : ∃ W, W = (w.alloc (.cells #[.int .i64 x.id, .int .i64 x.boot, .int .i64 x.net.n, .slice a1 x.net.ls.length a1c, .slice a2 x.net.ts.length a2c, .slice a3 x.heard.length a3c, .slice a4 ps.length a4c] 31)).alloc (.cells #[.int .i64 0, .int .i64 0, .int .i64 0, .slice none 0 0, .slice none 0 0, .slice none 0 0, .slice none 0 0] 31) := ⟨_, rfl⟩
 rw [← hw0] at B0 Q0 Q1 HOS ⊢
 clear hw0
 refine HOS.out.mono ?_
 rintro e w1 ⟨y1, y2, y3, y4, qs, m1, m2, rfl, fq, o1, b1⟩
 obtain ⟨⟨y1, y1c, rfl⟩, ⟨y2, y2c, rfl⟩, ⟨y3, y3c, rfl⟩, ⟨y4, y4c, rfl⟩⟩ := o1.in.shapes
 have B1 : Below w.heap.size w w1 := B0.trans (b1.mono B0.size)
 have g0 := (b1.block _ (lt_of_heap Q0.out)).trans Q0.out
 have g1 := (b1.block _ (lt_of_heap Q1.out)).trans Q1.out
 have hl0 := lt_of_heap Q1.out
 have hl1 := b1.size
 have s0 := cells_at g0 0
 have s1 := cells_at g0 1
 have s2 := cells_at g0 2
 have s3 := cells_at g0 3
 have s4 := cells_at g0 4
 have s5 := cells_at g0 5
 have s6 := cells_at g0 6
 simp at s0 s1 s2 s3 s4 s5 s6
 have hlw : w.heap.size < w1.heap.size := by omega
 have hlne : ¬ w.heap.size = w1.heap.size := by omega
 have BN : Below w1.heap.size w1 (w1.alloc (.cells #[.int .i64 x.id, .int .i64 x.boot, .int .i64 x.net.n, .slice y1 x.net.ls.length y1c, .slice y2 x.net.ts.length y2c, .slice y3 x.heard.length y3c, .slice y4 qs.length y4c] 31)) := (Below.refl _ _).alloc (Nat.le_refl _) _
 have B2 : Below w.heap.size w (w1.alloc (.cells #[.int .i64 x.id, .int .i64 x.boot, .int .i64 x.net.n, .slice y1 x.net.ls.length y1c, .slice y2 x.net.ts.length y2c, .slice y3 x.heard.length y3c, .slice y4 qs.length y4c] 31)) := B1.trans (BN.mono B1.size)
 have HSO := hide (iselfOk_any _ _ _ _ x ps (w1.alloc (.cells #[.int .i64 x.id, .int .i64 x.boot, .int .i64 x.net.n, .slice y1 x.net.ls.length y1c, .slice y2 x.net.ts.length y2c, .slice y3 x.heard.length y3c, .slice y4 qs.length y4c] 31)) (by omega) ((HX.out.below B2 hhi).in.more (by have := B2.size; omega)))
 rw [← HR.out] at HSO
 have hz := heap_alloc_new w1 (.cells #[.int .i64 x.id, .int .i64 x.boot, .int .i64 x.net.n, .slice y1 x.net.ls.length y1c, .slice y2 x.net.ts.length y2c, .slice y3 x.heard.length y3c, .slice y4 qs.length y4c] 31)
 have g0' := (BN.block _ (lt_of_heap g0)).trans g0
 have g1' := (BN.block _ (lt_of_heap g1)).trans g1
 have O1 := hide ((o1.below BN (Nat.le_refl _)))
 have FQ := hide fq
 have G0 := hide g0'
 have G1 := hide g1'
 have GZ := hide hz
 clear g0 g1 g0' g1' hz o1 fq b1 HOS Q0 Q1
 go_wp2_with fail
 obtain ⟨w2, hw2⟩ : ∃ W, W = w1.alloc (.cells #[.int .i64 x.id, .int .i64 x.boot, .int .i64 x.net.n, .slice y1 x.net.ls.length y1c, .slice y2 x.net.ts.length y2c, .slice y3 x.heard.length y3c, .slice y4 qs.length y4c] 31) := ⟨_, rfl⟩
 rw [← hw2] at BN B2 HSO O1 G0 G1 GZ ⊢
 have hs12 : w1.heap.size < w2.heap.size := by rw [hw2]; simp
 clear hw2
 obtain ⟨z, hzz⟩ : ∃ z, z = w1.heap.size := ⟨_, rfl⟩
 rw [← hzz] at GZ ⊢
 have HZZ := hide hzz
 clear hzz
 refine HSO.out.mono ?_
 rintro e w3 ⟨rfl, b3⟩
 clear s0 s1 s2 s3 s4 s5 s6
 have B3 : Below w.heap.size w w3 := B2.trans (b3.mono B2.size)
 have g0 := (b3.block _ (lt_of_heap G0.out)).trans G0.out
 have g1 := (b3.block _ (lt_of_heap G1.out)).trans G1.out
 have gz := (b3.block _ (lt_of_heap GZ.out)).trans GZ.out
 have hs23 := b3.size
 have O3 := hide (O1.out.below b3 (by omega))
 clear b3 HSO O1 G0 G1 GZ
 cases R
 ·have t0 := cells_at gz 0
  have t1 := cells_at gz 1
  have t2 := cells_at gz 2
  have t3 := cells_at gz 3
  have t4 := cells_at gz 4
  have t5 := cells_at gz 5
  have t6 := cells_at gz 6
  simp at t0 t1 t2 t3 t4 t5 t6
  have hlz : w.heap.size + 1 < w3.heap.size := lt_of_heap g1
  have hlz2 : z < w3.heap.size := lt_of_heap gz
  have hm2 := O3.out.o3
  have G1 := hide g1
  have hSL := hide (show learnS x ps ts = fsts ps by unfold learnS; rw [← HR.out]; rfl)
  have hSN := hide (show learnN x ps ts = [] by unfold learnN; rw [← HR.out]; rfl)
  have SEP := hide (show Sep (.slice y4 qs.length y4c) qs (.slice (some ⟨w3.heap.size, 0, none⟩) 0 0) [] from fun k h1 h2 => by
   have h3 := (O3.out.store.blk k h1).2.2
   rcases h2 with h2 | ⟨p, hp, _⟩
   ·simp [Value.ownBlock] at h2; omega
   ·simp at hp)
  have LIT := hide (recs_lit w3 m2 (by omega))
  clear g0 g1 gz
  go_wp2_with (refine wpList_build0 rfl rfl ?_)
  intro w4 hw4h
  have hw4 := hw4h.out
  have b4 : Below w3.heap.size w3 w4 := by rw [hw4]; exact (Below.refl _ _).alloc (Nat.le_refl _) _
  rw [← hw4] at LIT
  have hs4 : w3.heap.size < w4.heap.size := by rw [hw4]; simp
  have B4 : Below w.heap.size w w4 := B3.trans (b4.mono B3.size)
  have g1 := (b4.block _ (lt_of_heap G1.out)).trans G1.out
  have O4 := hide (O3.out.below b4 (by omega))
  have GA := hide g1
  clear hw4 hw4h t0 t1 t2 t3 t4 t5 t6
  have r0 := cells_at g1 0
  have r1 := cells_at g1 1
  have r2 := cells_at g1 2
  have r3 := cells_at g1 3
  have r4 := cells_at g1 4
  have r5 := cells_at g1 5
  have r6 := cells_at g1 6
  simp at r0 r1 r2 r3 r4 r5 r6
  have fz0x := frozen_at g1 0
  have fz1x := frozen_at g1 1
  have fz2x := frozen_at g1 2
  have fz3x := frozen_at g1 3
  have fz4x := frozen_at g1 4
  have fz5x := frozen_at g1 5
  have fz6x := frozen_at g1 6
  clear g1
  go_wp2
  have hfin : (((((((w4.setCell ⟨w.heap.size + 1, 0, none⟩ (.int .i64 x.id)).setCell ⟨w.heap.size + 1, 1, none⟩ (.int .i64 x.boot)).setCell ⟨w.heap.size + 1, 2, none⟩ (.int .i64 x.net.n)).setCell ⟨w.heap.size + 1, 3, none⟩ (.slice y1 x.net.ls.length y1c)).setCell ⟨w.heap.size + 1, 4, none⟩ (.slice y2 x.net.ts.length y2c)).setCell ⟨w.heap.size + 1, 5, none⟩ (.slice y3 x.heard.length y3c)).setCell ⟨w.heap.size + 1, 6, none⟩ (.slice y4 qs.length y4c)).heap[w.heap.size + 1]? = some (.cells #[.int .i64 x.id, .int .i64 x.boot, .int .i64 x.net.n, .slice y1 x.net.ls.length y1c, .slice y2 x.net.ts.length y2c, .slice y3 x.heard.length y3c, .slice y4 qs.length y4c] 31) := by
   have k0 := GA.out
   have k1 := heap_setCell_same _ _ 0 _ _ (.int .i64 x.id) k0
   have k2 := heap_setCell_same _ _ 1 _ _ (.int .i64 x.boot) k1
   have k3 := heap_setCell_same _ _ 2 _ _ (.int .i64 x.net.n) k2
   have k4 := heap_setCell_same _ _ 3 _ _ (.slice y1 x.net.ls.length y1c) k3
   have k5 := heap_setCell_same _ _ 4 _ _ (.slice y2 x.net.ts.length y2c) k4
   have k6 := heap_setCell_same _ _ 5 _ _ (.slice y3 x.heard.length y3c) k5
   have k7 := heap_setCell_same _ _ 6 _ _ (.slice y4 qs.length y4c) k6
   exact k7
  have hkeep : ∀ k, w.heap.size + 2 ≤ k → (((((((w4.setCell ⟨w.heap.size + 1, 0, none⟩ (.int .i64 x.id)).setCell ⟨w.heap.size + 1, 1, none⟩ (.int .i64 x.boot)).setCell ⟨w.heap.size + 1, 2, none⟩ (.int .i64 x.net.n)).setCell ⟨w.heap.size + 1, 3, none⟩ (.slice y1 x.net.ls.length y1c)).setCell ⟨w.heap.size + 1, 4, none⟩ (.slice y2 x.net.ts.length y2c)).setCell ⟨w.heap.size + 1, 5, none⟩ (.slice y3 x.heard.length y3c)).setCell ⟨w.heap.size + 1, 6, none⟩ (.slice y4 qs.length y4c)).heap[k]? = (w4).heap[k]? := fun k hk => by
   rw [heap_setCell_other _ ⟨w.heap.size + 1, 6, none⟩ _ _ (by show k ≠ w.heap.size + 1; omega), heap_setCell_other _ ⟨w.heap.size + 1, 5, none⟩ _ _ (by show k ≠ w.heap.size + 1; omega), heap_setCell_other _ ⟨w.heap.size + 1, 4, none⟩ _ _ (by show k ≠ w.heap.size + 1; omega), heap_setCell_other _ ⟨w.heap.size + 1, 3, none⟩ _ _ (by show k ≠ w.heap.size + 1; omega), heap_setCell_other _ ⟨w.heap.size + 1, 2, none⟩ _ _ (by show k ≠ w.heap.size + 1; omega), heap_setCell_other _ ⟨w.heap.size + 1, 1, none⟩ _ _ (by show k ≠ w.heap.size + 1; omega), heap_setCell_other _ ⟨w.heap.size + 1, 0, none⟩ _ _ (by show k ≠ w.heap.size + 1; omega)]
  have hsize : (((((((w4.setCell ⟨w.heap.size + 1, 0, none⟩ (.int .i64 x.id)).setCell ⟨w.heap.size + 1, 1, none⟩ (.int .i64 x.boot)).setCell ⟨w.heap.size + 1, 2, none⟩ (.int .i64 x.net.n)).setCell ⟨w.heap.size + 1, 3, none⟩ (.slice y1 x.net.ls.length y1c)).setCell ⟨w.heap.size + 1, 4, none⟩ (.slice y2 x.net.ts.length y2c)).setCell ⟨w.heap.size + 1, 5, none⟩ (.slice y3 x.heard.length y3c)).setCell ⟨w.heap.size + 1, 6, none⟩ (.slice y4 qs.length y4c)).heap.size = (w4).heap.size := by simp
  have hbel : Below w.heap.size w (((((((w4.setCell ⟨w.heap.size + 1, 0, none⟩ (.int .i64 x.id)).setCell ⟨w.heap.size + 1, 1, none⟩ (.int .i64 x.boot)).setCell ⟨w.heap.size + 1, 2, none⟩ (.int .i64 x.net.n)).setCell ⟨w.heap.size + 1, 3, none⟩ (.slice y1 x.net.ls.length y1c)).setCell ⟨w.heap.size + 1, 4, none⟩ (.slice y2 x.net.ts.length y2c)).setCell ⟨w.heap.size + 1, 5, none⟩ (.slice y3 x.heard.length y3c)).setCell ⟨w.heap.size + 1, 6, none⟩ (.slice y4 qs.length y4c)) := (((((((B4.setCell (by show w.heap.size ≤ w.heap.size + 1; omega) _).setCell (by show w.heap.size ≤ w.heap.size + 1; omega) _).setCell (by show w.heap.size ≤ w.heap.size + 1; omega) _).setCell (by show w.heap.size ≤ w.heap.size + 1; omega) _).setCell (by show w.heap.size ≤ w.heap.size + 1; omega) _).setCell (by show w.heap.size ≤ w.heap.size + 1; omega) _).setCell (by show w.heap.size ≤ w.heap.size + 1; omega) _)
  try simp only [Exit.inBlock, Exit.then]
  refine bodyPost_ret (results_cell_row_tmp5 rfl _ _ (w.heap.size + 1) 31 #[.int .i64 x.id, .int .i64 x.boot, .int .i64 x.net.n, .slice y1 x.net.ls.length y1c, .slice y2 x.net.ts.length y2c, .slice y3 x.heard.length y3c, .slice y4 qs.length y4c] (0, 0) _ rfl hfin Tryz.underlying31 rfl (by kernel_rfl)) rfl ?_
  exact ⟨_, _, _, _, _, qs, [], m1, m2, rfl, by rw [FQ.out, hSL.out], by rw [hSN.out]; rfl, ((O4.out.keep (fun k h1 _ _ => hkeep k (by omega))).low (by omega)).high (by rw [hsize]; omega), (LIT.out.keep (fun k h1 _ _ => hkeep k (by have := O3.out.o1; have := O3.out.o2; omega))).wide (Nat.le_refl _) (by rw [hsize]; exact Nat.le_refl _), SEP.out, hbel⟩
 ·have s0 := cells_at g0 0
  have s1 := cells_at g0 1
  have s2 := cells_at g0 2
  have s3 := cells_at g0 3
  have s4 := cells_at g0 4
  have s5 := cells_at g0 5
  have s6 := cells_at g0 6
  simp at s0 s1 s2 s3 s4 s5 s6
  have HST := hide (self_asc HR.out.symm)
  have HMG := hide (merged_any (.slice a4 ps.length a4c) (.slice l5 ts.length c5) ps ts hi w3 (HX.out.below B3 hhi).store (HL.out.below B3 hhi) (by have := B3.size; omega) (by unfold totS at ht; omega) HST.out)
  have hSL := hide (show learnS x ps ts = (fsts ts).foldl instD (fsts ps) by unfold learnS; rw [← HR.out]; rfl)
  have hSN := hide (show learnN x ps ts = newsD (fsts ps) (fsts ts) by unfold learnN; rw [← HR.out]; rfl)
  have G1 := hide g1
  have GZ := hide gz
  clear g0 g1 gz
  go_wp2_with fail
  refine HMG.out.mono ?_
  rintro e w4 ⟨k4v, n4v, ks, ns, rfl, fk, fn, ok, on, sep, b4⟩
  obtain ⟨k4, k4c, rfl⟩ := owns_lenS ok.row
  obtain ⟨n4, n4c, rfl⟩ := owns_lenS on.row
  have B4 : Below w.heap.size w w4 := B3.trans (b4.mono B3.size)
  have g1 := (b4.block _ (lt_of_heap G1.out)).trans G1.out
  have gz := (b4.block _ (lt_of_heap GZ.out)).trans GZ.out
  have hs34 := b4.size
  clear s0 s1 s2 s3 s4 s5 s6
  have r0 := cells_at g1 0
  have r1 := cells_at g1 1
  have r2 := cells_at g1 2
  have r3 := cells_at g1 3
  have r4 := cells_at g1 4
  have r5 := cells_at g1 5
  have r6 := cells_at g1 6
  simp at r0 r1 r2 r3 r4 r5 r6
  have t0 := cells_at gz 0
  have t1 := cells_at gz 1
  have t2 := cells_at gz 2
  have t3 := cells_at gz 3
  have t4 := cells_at gz 4
  have t5 := cells_at gz 5
  have t6 := cells_at gz 6
  simp at t0 t1 t2 t3 t4 t5 t6
  have fz0x := frozen_at g1 0
  have fz1x := frozen_at g1 1
  have fz2x := frozen_at g1 2
  have fz3x := frozen_at g1 3
  have fz4x := frozen_at g1 4
  have fz5x := frozen_at g1 5
  have fz6x := frozen_at g1 6
  have fzz := frozen_at gz 6
  have hlz : w.heap.size + 1 < w4.heap.size := lt_of_heap g1
  have hlz2 : z < w4.heap.size := lt_of_heap gz
  have hzne : ¬ z = w.heap.size + 1 := by rw [HZZ.out]; omega
  have hzne2 : ¬ w.heap.size + 1 = z := by rw [HZZ.out]; omega
  have OW := hide (show SelfOwn w4 w0.heap.size w4.heap.size (.slice y1 x.net.ls.length y1c) (.slice y2 x.net.ts.length y2c) (.slice y3 x.heard.length y3c) (.slice k4 ks.length k4c) x ks m1 w3.heap.size from by
   have h := O3.out.below b4 (by omega)
   exact { o1 := h.o1, o2 := by have := h.o2; have := h.o3; omega, o3 := hs34, links := h.links, ltop := h.ltop, things := h.things, ttop := h.ttop, heard := h.heard.wide (Nat.le_refl _) (by have := h.o3; omega), store := ok })
  have ZLT := hide (show z < w1.heap.size + 1 ∧ w1.heap.size ≤ z by rw [HZZ.out]; omega)
  have ON := hide on
  have FK := hide fk
  have FN := hide fn
  have SEP := hide sep
  have LTZ := hide (show (∀ k, (Value.slice y1 x.net.ls.length y1c).ownBlock = some k → k ≠ z) ∧ (∀ k, (Value.slice y2 x.net.ts.length y2c).ownBlock = some k → k ≠ z) ∧ (∀ k, (Value.slice y3 x.heard.length y3c).ownBlock = some k → k ≠ z) from by
   have h := O3.out
   have h3 := h.o3
   have h2 := h.o2
   refine ⟨fun k e => ?_, fun k e => ?_, fun k e => ?_⟩
   ·have := h.ltop k e; rw [HZZ.out]; omega
   ·have := h.ttop k e; rw [HZZ.out]; omega
   ·have := h.heard.top k e; rw [HZZ.out]; omega)
  have G1B := hide g1
  clear g1 gz fk fn ok on sep b4 G1 GZ HMG
  go_wp2
  have hfin : ((((((((w4.setCell ⟨z, 6, none⟩ (.slice k4 ks.length k4c)).setCell ⟨w.heap.size + 1, 0, none⟩ (.int .i64 x.id)).setCell ⟨w.heap.size + 1, 1, none⟩ (.int .i64 x.boot)).setCell ⟨w.heap.size + 1, 2, none⟩ (.int .i64 x.net.n)).setCell ⟨w.heap.size + 1, 3, none⟩ (.slice y1 x.net.ls.length y1c)).setCell ⟨w.heap.size + 1, 4, none⟩ (.slice y2 x.net.ts.length y2c)).setCell ⟨w.heap.size + 1, 5, none⟩ (.slice y3 x.heard.length y3c)).setCell ⟨w.heap.size + 1, 6, none⟩ (.slice k4 ks.length k4c)).heap[w.heap.size + 1]? = some (.cells #[.int .i64 x.id, .int .i64 x.boot, .int .i64 x.net.n, .slice y1 x.net.ls.length y1c, .slice y2 x.net.ts.length y2c, .slice y3 x.heard.length y3c, .slice k4 ks.length k4c] 31) := by
   have kk0 : (w4.setCell ⟨z, 6, none⟩ (.slice k4 ks.length k4c)).heap[w.heap.size + 1]? = some (.cells #[.int .i64 0, .int .i64 0, .int .i64 0, .slice none 0 0, .slice none 0 0, .slice none 0 0, .slice none 0 0] 31) := by
    rw [heap_setCell_other _ ⟨z, 6, none⟩ _ _ (by show w.heap.size + 1 ≠ z; exact hzne2)]
    exact G1B.out
   have kk1 := heap_setCell_same _ _ 0 _ _ (.int .i64 x.id) kk0
   have kk2 := heap_setCell_same _ _ 1 _ _ (.int .i64 x.boot) kk1
   have kk3 := heap_setCell_same _ _ 2 _ _ (.int .i64 x.net.n) kk2
   have kk4 := heap_setCell_same _ _ 3 _ _ (.slice y1 x.net.ls.length y1c) kk3
   have kk5 := heap_setCell_same _ _ 4 _ _ (.slice y2 x.net.ts.length y2c) kk4
   have kk6 := heap_setCell_same _ _ 5 _ _ (.slice y3 x.heard.length y3c) kk5
   have kk7 := heap_setCell_same _ _ 6 _ _ (.slice k4 ks.length k4c) kk6
   exact kk7
  have hkeep : ∀ k, w.heap.size + 2 ≤ k → k ≠ z → ((((((((w4.setCell ⟨z, 6, none⟩ (.slice k4 ks.length k4c)).setCell ⟨w.heap.size + 1, 0, none⟩ (.int .i64 x.id)).setCell ⟨w.heap.size + 1, 1, none⟩ (.int .i64 x.boot)).setCell ⟨w.heap.size + 1, 2, none⟩ (.int .i64 x.net.n)).setCell ⟨w.heap.size + 1, 3, none⟩ (.slice y1 x.net.ls.length y1c)).setCell ⟨w.heap.size + 1, 4, none⟩ (.slice y2 x.net.ts.length y2c)).setCell ⟨w.heap.size + 1, 5, none⟩ (.slice y3 x.heard.length y3c)).setCell ⟨w.heap.size + 1, 6, none⟩ (.slice k4 ks.length k4c)).heap[k]? = w4.heap[k]? := fun k hk hk3 => by
   rw [heap_setCell_other _ ⟨w.heap.size + 1, 6, none⟩ _ _ (by show k ≠ w.heap.size + 1; omega), heap_setCell_other _ ⟨w.heap.size + 1, 5, none⟩ _ _ (by show k ≠ w.heap.size + 1; omega), heap_setCell_other _ ⟨w.heap.size + 1, 4, none⟩ _ _ (by show k ≠ w.heap.size + 1; omega), heap_setCell_other _ ⟨w.heap.size + 1, 3, none⟩ _ _ (by show k ≠ w.heap.size + 1; omega), heap_setCell_other _ ⟨w.heap.size + 1, 2, none⟩ _ _ (by show k ≠ w.heap.size + 1; omega), heap_setCell_other _ ⟨w.heap.size + 1, 1, none⟩ _ _ (by show k ≠ w.heap.size + 1; omega), heap_setCell_other _ ⟨w.heap.size + 1, 0, none⟩ _ _ (by show k ≠ w.heap.size + 1; omega), heap_setCell_other _ ⟨z, 6, none⟩ _ _ (by show k ≠ z; exact hk3)]
  have hsize : ((((((((w4.setCell ⟨z, 6, none⟩ (.slice k4 ks.length k4c)).setCell ⟨w.heap.size + 1, 0, none⟩ (.int .i64 x.id)).setCell ⟨w.heap.size + 1, 1, none⟩ (.int .i64 x.boot)).setCell ⟨w.heap.size + 1, 2, none⟩ (.int .i64 x.net.n)).setCell ⟨w.heap.size + 1, 3, none⟩ (.slice y1 x.net.ls.length y1c)).setCell ⟨w.heap.size + 1, 4, none⟩ (.slice y2 x.net.ts.length y2c)).setCell ⟨w.heap.size + 1, 5, none⟩ (.slice y3 x.heard.length y3c)).setCell ⟨w.heap.size + 1, 6, none⟩ (.slice k4 ks.length k4c)).heap.size = w4.heap.size := by simp
  have hbel : Below w.heap.size w ((((((((w4.setCell ⟨z, 6, none⟩ (.slice k4 ks.length k4c)).setCell ⟨w.heap.size + 1, 0, none⟩ (.int .i64 x.id)).setCell ⟨w.heap.size + 1, 1, none⟩ (.int .i64 x.boot)).setCell ⟨w.heap.size + 1, 2, none⟩ (.int .i64 x.net.n)).setCell ⟨w.heap.size + 1, 3, none⟩ (.slice y1 x.net.ls.length y1c)).setCell ⟨w.heap.size + 1, 4, none⟩ (.slice y2 x.net.ts.length y2c)).setCell ⟨w.heap.size + 1, 5, none⟩ (.slice y3 x.heard.length y3c)).setCell ⟨w.heap.size + 1, 6, none⟩ (.slice k4 ks.length k4c)) := ((((((((B4.setCell (by show w.heap.size ≤ z; rw [HZZ.out]; omega) _).setCell (by show w.heap.size ≤ w.heap.size + 1; omega) _).setCell (by show w.heap.size ≤ w.heap.size + 1; omega) _).setCell (by show w.heap.size ≤ w.heap.size + 1; omega) _).setCell (by show w.heap.size ≤ w.heap.size + 1; omega) _).setCell (by show w.heap.size ≤ w.heap.size + 1; omega) _).setCell (by show w.heap.size ≤ w.heap.size + 1; omega) _).setCell (by show w.heap.size ≤ w.heap.size + 1; omega) _)
  try simp only [Exit.inBlock, Exit.then]
  refine bodyPost_ret (results_cell_row_tmp5 rfl _ _ (w.heap.size + 1) 31 #[.int .i64 x.id, .int .i64 x.boot, .int .i64 x.net.n, .slice y1 x.net.ls.length y1c, .slice y2 x.net.ts.length y2c, .slice y3 x.heard.length y3c, .slice k4 ks.length k4c] (0, 0) _ rfl hfin Tryz.underlying31 rfl (by kernel_rfl)) rfl ?_
  have zlt := ZLT.out
  have fin1 : SelfOwn ((((((((w4.setCell ⟨z, 6, none⟩ (.slice k4 ks.length k4c)).setCell ⟨w.heap.size + 1, 0, none⟩ (.int .i64 x.id)).setCell ⟨w.heap.size + 1, 1, none⟩ (.int .i64 x.boot)).setCell ⟨w.heap.size + 1, 2, none⟩ (.int .i64 x.net.n)).setCell ⟨w.heap.size + 1, 3, none⟩ (.slice y1 x.net.ls.length y1c)).setCell ⟨w.heap.size + 1, 4, none⟩ (.slice y2 x.net.ts.length y2c)).setCell ⟨w.heap.size + 1, 5, none⟩ (.slice y3 x.heard.length y3c)).setCell ⟨w.heap.size + 1, 6, none⟩ (.slice k4 ks.length k4c)) w0.heap.size w4.heap.size (.slice y1 x.net.ls.length y1c) (.slice y2 x.net.ts.length y2c) (.slice y3 x.heard.length y3c) (.slice k4 ks.length k4c) x ks m1 w3.heap.size := by
   have h := OW.out
   exact ⟨h.o1, h.o2, h.o3, owns_keepB h.links (fun k e => hkeep k (by have := (h.links.lt k e).1; omega) (LTZ.out.1 k e)), h.ltop, owns_keepB h.things (fun k e => hkeep k (by have := (h.things.lt k e).1; omega) (LTZ.out.2.1 k e)), h.ttop, ⟨owns_keepB h.heard.row (fun k e => hkeep k (by have := (h.heard.row.lt k e).1; have := h.o1; omega) (LTZ.out.2.2 k e)), h.heard.top⟩, h.store.keep (fun k h1 _ _ => hkeep k (by omega) (by omega))⟩
  exact ⟨_, _, _, _, _, ks, ns, m1, w3.heap.size, rfl, by rw [FK.out, hSL.out], by rw [FN.out, hSN.out], (fin1.low (by omega)).high (by rw [hsize]; omega), (ON.out.keep (fun k h1 _ _ => hkeep k (by omega) (by omega))).wide (Nat.le_refl _) (by rw [hsize]; omega), SEP.out, hbel⟩
theorem copySelf_any (v1 v2 v3 v4 : Value) (x : SelfD) (ps : List RP) (hi : Nat) (w : World) (hv : SelfSrc w hi v1 v2 v3 v4 x ps) (hhi : hi ≤ w.heap.size) (ht : totS x ps ≤ 1048576) :
  Calls Tryz.prog 55 #[selfV x v1 v2 v3 v4] w fun e w' => SelfNew w w' x ps e := by
 obtain ⟨⟨a1, c1, rfl⟩, ⟨a2, c2, rfl⟩, ⟨a3, c3, rfl⟩, ⟨a4, c4, rfl⟩⟩ := hv.in.shapes
 have hlL : x.net.ls.length ≤ 1048576 := by unfold totS at ht; omega
 have hlT : x.net.ts.length ≤ 1048576 := by unfold totS at ht; omega
 have hlH : x.heard.length ≤ 1048576 := by unfold totS at ht; omega
 have hlR : tot ps ≤ 1048576 := by unfold totS at ht; omega
 have HX := hide hv
 clear hv ht
 unfold SelfNew
 have B0 : Below w.heap.size w ((w.alloc (.cells #[.int .i64 x.id, .int .i64 x.boot, .int .i64 x.net.n, .slice a1 x.net.ls.length c1, .slice a2 x.net.ts.length c2, .slice a3 x.heard.length c3, .slice a4 ps.length c4] 31)).alloc (.cells #[.int .i64 0, .int .i64 0, .int .i64 0, .slice none 0 0, .slice none 0 0, .slice none 0 0, .slice none 0 0] 31)) := ((Below.refl w.heap.size w).alloc (Nat.le_refl _) _).alloc (by simp) _
 have q0 : ((w.alloc (.cells #[.int .i64 x.id, .int .i64 x.boot, .int .i64 x.net.n, .slice a1 x.net.ls.length c1, .slice a2 x.net.ts.length c2, .slice a3 x.heard.length c3, .slice a4 ps.length c4] 31)).alloc (.cells #[.int .i64 0, .int .i64 0, .int .i64 0, .slice none 0 0, .slice none 0 0, .slice none 0 0, .slice none 0 0] 31)).heap[w.heap.size]? = some (.cells #[.int .i64 x.id, .int .i64 x.boot, .int .i64 x.net.n, .slice a1 x.net.ls.length c1, .slice a2 x.net.ts.length c2, .slice a3 x.heard.length c3, .slice a4 ps.length c4] 31) := by rw [Below.heap_alloc _ _ _ (by simp), heap_alloc_new]
 have q1 : ((w.alloc (.cells #[.int .i64 x.id, .int .i64 x.boot, .int .i64 x.net.n, .slice a1 x.net.ls.length c1, .slice a2 x.net.ts.length c2, .slice a3 x.heard.length c3, .slice a4 ps.length c4] 31)).alloc (.cells #[.int .i64 0, .int .i64 0, .int .i64 0, .slice none 0 0, .slice none 0 0, .slice none 0 0, .slice none 0 0] 31)).heap[w.heap.size + 1]? = some (.cells #[.int .i64 0, .int .i64 0, .int .i64 0, .slice none 0 0, .slice none 0 0, .slice none 0 0, .slice none 0 0] 31) := by
  have h := heap_alloc_new (w.alloc (.cells #[.int .i64 x.id, .int .i64 x.boot, .int .i64 x.net.n, .slice a1 x.net.ls.length c1, .slice a2 x.net.ts.length c2, .slice a3 x.heard.length c3, .slice a4 ps.length c4] 31)) (.cells #[.int .i64 0, .int .i64 0, .int .i64 0, .slice none 0 0, .slice none 0 0, .slice none 0 0, .slice none 0 0] 31)
  simpa using h
 have z0 : ((w.alloc (.cells #[.int .i64 x.id, .int .i64 x.boot, .int .i64 x.net.n, .slice a1 x.net.ls.length c1, .slice a2 x.net.ts.length c2, .slice a3 x.heard.length c3, .slice a4 ps.length c4] 31)).alloc (.cells #[.int .i64 0, .int .i64 0, .int .i64 0, .slice none 0 0, .slice none 0 0, .slice none 0 0, .slice none 0 0] 31)).heap.size = w.heap.size + 2 := by simp
 have Q0 := hide q0
 have Q1 := hide q1
 have Z0 := hide z0
 clear q0 q1 z0
 go_enter Tryz.func55, Tryz.ntmps55
 go_wp2_with fail
 obtain ⟨w1, hw1⟩ : ∃ W, W = ((w.alloc (.cells #[.int .i64 x.id, .int .i64 x.boot, .int .i64 x.net.n, .slice a1 x.net.ls.length c1, .slice a2 x.net.ts.length c2, .slice a3 x.heard.length c3, .slice a4 ps.length c4] 31)).alloc (.cells #[.int .i64 0, .int .i64 0, .int .i64 0, .slice none 0 0, .slice none 0 0, .slice none 0 0, .slice none 0 0] 31)) := ⟨_, rfl⟩
 rw [← hw1] at B0 Q0 Q1 Z0 ⊢
 clear hw1
 have k2 := cells_at Q0.out 2
 simp at k2
 have kk : w1.drew.cell? ⟨w.heap.size, 2, none⟩ = some (.int .i64 x.net.n) := k2
 refine wp_region_noPanic ?_
 refine wp_region_start (S := (fun W => W.cell? ⟨w.heap.size, 2, none⟩ = some (.int .i64 x.net.n))) (by kernel_rfl) 16 rfl kk (fun ops hops hHeld => ?_)
 refine take_d 0 ?_ ?_ ?_ (by rw [hops.out]; kernel_rfl) ?_ ?_ (by assumption) ?_
 rotate_left 2
 ·rw [hops.out]; simp only [getS]; rfl
 ·intro W hW; (try dsimp only at hW); go_simp <;> with_reducible rfl
 ·exact fun _ _ _ => id
 try simp only [putS]
 refine take_d 1 ?_ ?_ ?_ (by rw [hops.out]; kernel_rfl) ?_ ?_ (by assumption) ?_
 rotate_left 2
 ·rw [hops.out]; simp only [getS]; rfl
 ·intro W hW; (try dsimp only at hW); go_simp <;> with_reducible rfl
 ·exact fun _ _ _ => id
 try simp only [putS]
 refine take_d 2 ?_ ?_ ?_ (by rw [hops.out]; kernel_rfl) ?_ ?_ (by assumption) ?_
 rotate_left 2
 ·rw [hops.out]; simp only [getS]; rfl
 ·intro W hW; (try dsimp only at hW); go_simp <;> with_reducible rfl
 ·exact fun _ _ _ => id
 try simp only [putS]
 refine take_d 4 ?_ ?_ ?_ (by rw [hops.out]; kernel_rfl) ?_ ?_ (by assumption) ?_
 rotate_left 2
 ·rw [hops.out]; simp only [getS]; rfl
 ·intro W hW; (try dsimp only at hW); go_simp <;> with_reducible rfl
 ·exact fun _ _ _ => id
 try simp only [putS]
 refine take_d 5 ?_ ?_ ?_ (by rw [hops.out]; kernel_rfl) ?_ ?_ (by assumption) ?_
 rotate_left 2
 ·rw [hops.out]; simp only [getS]; rfl
 ·intro W hW; (try dsimp only at hW); go_simp <;> with_reducible rfl
 ·exact fun _ _ _ => id
 try simp only [putS]
 refine take_d 9 ?_ ?_ ?_ (by rw [hops.out]; kernel_rfl) ?_ ?_ (by assumption) ?_
 rotate_left 2
 ·rw [hops.out]; simp only [getS]; rfl
 ·intro W hW; (try dsimp only at hW); go_simp <;> with_reducible rfl
 ·exact fun _ _ _ => id
 try simp only [putS]
 refine take_d 10 ?_ ?_ ?_ (by rw [hops.out]; kernel_rfl) ?_ ?_ (by assumption) ?_
 rotate_left 2
 ·rw [hops.out]; simp only [getS]; rfl
 ·intro W hW; (try dsimp only at hW); go_simp <;> with_reducible rfl
 ·exact fun _ _ _ => id
 try simp only [putS]
 have BD : Below w.heap.size w w1.drew := B0.drew
 have hw1s := lt_of_heap Q1.out
 have hdr : w1.drew.heap.size = w1.heap.size := rfl
 refine lc_dag x.net.n x.net.ls x.net.ts a1 a2 c1 c2 w.heap.size w1.heap.size w1.drew _ _ ops hops (Nat.le_refl _) hlL hlT ?_ ?_ (.int .i64 x.id) (.int .i64 x.boot) (.slice a3 x.heard.length c3) (.slice a4 ps.length c4) ?_ ?_ ?_ ?_
 ·intro W hb
  exact (hb.cell (by show w.heap.size < w1.heap.size; omega)).trans kk
 ·intro W hb u1 u2
  have h0 := (hb.block w.heap.size (by omega)).trans Q0.out
  have h1 := heap_setCell_same _ _ 2 _ _ (.int .i64 x.net.n) h0
  have h2 := heap_setCell_same _ _ 3 _ _ u1 h1
  have h3 := heap_setCell_same _ _ 4 _ _ u2 h2
  have h4 := cells_at h3 2
  simpa using h4
 ·intro W hb
  exact (hb.block w.heap.size (by omega)).trans Q0.out
 ·intro W hb
  exact (HX.out.below (BD.trans (hb.mono (by omega))) hhi).links
 ·intro W hb
  exact (HX.out.below (BD.trans (hb.mono (by omega))) hhi).things
 intro W G1 G2 p1a p2a p1c p2c hb hbs r1 r2
 clear hops ops hHeld kk
 have BW : Below w.heap.size w W := BD.trans (hb.mono (by omega))
 have x0 := (hb.block w.heap.size (by omega)).trans Q0.out
 have x1 := (hb.block (w.heap.size + 1) (by omega)).trans Q1.out
 have B3 : Below w.heap.size w (((W.setCell ⟨w.heap.size, 2, none⟩ (.int .i64 x.net.n)).setCell ⟨w.heap.size, 3, none⟩ (.slice p1a x.net.ls.length p1c)).setCell ⟨w.heap.size, 4, none⟩ (.slice p2a x.net.ts.length p2c)) := ((BW.setCell (Nat.le_refl _) _).setCell (Nat.le_refl _) _).setCell (Nat.le_refl _) _
 have y0 : (((W.setCell ⟨w.heap.size, 2, none⟩ (.int .i64 x.net.n)).setCell ⟨w.heap.size, 3, none⟩ (.slice p1a x.net.ls.length p1c)).setCell ⟨w.heap.size, 4, none⟩ (.slice p2a x.net.ts.length p2c)).heap[w.heap.size]? = some (.cells #[.int .i64 x.id, .int .i64 x.boot, .int .i64 x.net.n, .slice p1a x.net.ls.length p1c, .slice p2a x.net.ts.length p2c, .slice a3 x.heard.length c3, .slice a4 ps.length c4] 31) := by
  have h1 := heap_setCell_same _ _ 2 _ _ (.int .i64 x.net.n) x0
  have h2 := heap_setCell_same _ _ 3 _ _ (.slice p1a x.net.ls.length p1c) h1
  exact heap_setCell_same _ _ 4 _ _ (.slice p2a x.net.ts.length p2c) h2
 have y1 : (((W.setCell ⟨w.heap.size, 2, none⟩ (.int .i64 x.net.n)).setCell ⟨w.heap.size, 3, none⟩ (.slice p1a x.net.ls.length p1c)).setCell ⟨w.heap.size, 4, none⟩ (.slice p2a x.net.ts.length p2c)).heap[w.heap.size + 1]? = some (.cells #[.int .i64 0, .int .i64 0, .int .i64 0, .slice none 0 0, .slice none 0 0, .slice none 0 0, .slice none 0 0] 31) := by
  rw [heap_setCell_other _ ⟨w.heap.size, 4, none⟩ _ _ (by show w.heap.size + 1 ≠ w.heap.size; omega), heap_setCell_other _ ⟨w.heap.size, 3, none⟩ _ _ (by show w.heap.size + 1 ≠ w.heap.size; omega), heap_setCell_other _ ⟨w.heap.size, 2, none⟩ _ _ (by show w.heap.size + 1 ≠ w.heap.size; omega)]
  exact x1
 have s1 := owns_set (p := w.heap.size) (j := 4) (u := .slice p2a x.net.ts.length p2c) (owns_set (p := w.heap.size) (j := 3) (u := .slice p1a x.net.ls.length p1c) (owns_set (p := w.heap.size) (j := 2) (u := .int .i64 x.net.n) r1 (by omega)) (by omega)) (by omega)
 have s2 := owns_set (p := w.heap.size) (j := 4) (u := .slice p2a x.net.ts.length p2c) (owns_set (p := w.heap.size) (j := 3) (u := .slice p1a x.net.ls.length p1c) (owns_set (p := w.heap.size) (j := 2) (u := .int .i64 x.net.n) r2 (by omega)) (by omega)) (by omega)
 have hsz3 : w1.heap.size ≤ (((W.setCell ⟨w.heap.size, 2, none⟩ (.int .i64 x.net.n)).setCell ⟨w.heap.size, 3, none⟩ (.slice p1a x.net.ls.length p1c)).setCell ⟨w.heap.size, 4, none⟩ (.slice p2a x.net.ts.length p2c)).heap.size := by simp; exact hbs
 generalize (((W.setCell ⟨w.heap.size, 2, none⟩ (.int .i64 x.net.n)).setCell ⟨w.heap.size, 3, none⟩ (.slice p1a x.net.ls.length p1c)).setCell ⟨w.heap.size, 4, none⟩ (.slice p2a x.net.ts.length p2c)) = w3 at *
 have hw3s := lt_of_heap y1
 have hw3t : w.heap.size < w3.heap.size := by omega
 have hw3n : ¬ w.heap.size = w3.heap.size := by omega
 have t5 := cells_at y0 5
 simp at t5
 have BL : Below w3.heap.size w3 (w3.alloc (.cells #[] 3)) := (Below.refl _ _).alloc (Nat.le_refl _) _
 have B4 : Below w.heap.size w (w3.alloc (.cells #[] 3)) := B3.trans (BL.mono (by omega))
 have R1 := hide s1
 have R2 := hide s2
 have Y0 := hide y0
 have Y1 := hide y1
 clear r1 r2 s1 s2 x0 x1 y0 y1 k2 hb hbs BW
 go_wp2_with (first | (at_builtin; refine append_row5 int_flat1 (by omega) intE_one (by omega) _ rfl _ _ 28 rfl w3.heap.size 3 Tryz.underlying28 (.int .i64 0) rfl Tryz.info3 _ [] rfl ?own0 0 _ x.heard rfl (HX.out.below B4 hhi).heard (by simp; omega) (by simp) ?_))
 case own0 => exact World.ownsRow_lit w3 #[] 0 (Nat.le_refl _) (by unfold maxLen; omega) (by simp)
 intro v3' wA ho3 gr3
 obtain ⟨p3a, p3c, rfl⟩ := owns_lenS ho3
 simp only [Value.ownBlock, List.nil_append] at gr3 ho3
 try simp only [List.nil_append]
 have hgs := gr3.size
 simp at hgs
 have bA : Below w.heap.size w wA := B4.grown gr3 (by simp; omega) (fun k hk => by simp at hk; omega)
 have x0 := (gr3.block w.heap.size (by simp; omega) (by simp; omega)).trans ((BL.block _ (lt_of_heap Y0.out)).trans Y0.out)
 have x1 := (gr3.block (w.heap.size + 1) (by simp; omega) (by simp; omega)).trans ((BL.block _ (lt_of_heap Y1.out)).trans Y1.out)
 have r1 := owns_keepB (W' := wA) R1.out (fun k hk => (gr3.block k (by have := (R1.out.lt k hk).2; simp; omega) (by have := (R1.out.lt k hk).2; simp; omega)).trans (BL.block k (R1.out.lt k hk).2))
 have r2 := owns_keepB (W' := wA) R2.out (fun k hk => (gr3.block k (by have := (R2.out.lt k hk).2; simp; omega) (by have := (R2.out.lt k hk).2; simp; omega)).trans (BL.block k (R2.out.lt k hk).2))
 have fz := frozen_at x0 5
 clear t5
 have t5 := cells_at x0 5
 have t6 := cells_at x0 6
 simp at t5 t6
 have B5 : Below w.heap.size w (wA.setCell ⟨w.heap.size, 5, none⟩ (.slice p3a x.heard.length p3c)) := bA.setCell (Nat.le_refl _) _
 have y0 : (wA.setCell ⟨w.heap.size, 5, none⟩ (.slice p3a x.heard.length p3c)).heap[w.heap.size]? = some (.cells #[.int .i64 x.id, .int .i64 x.boot, .int .i64 x.net.n, .slice p1a x.net.ls.length p1c, .slice p2a x.net.ts.length p2c, .slice p3a x.heard.length p3c, .slice a4 ps.length c4] 31) := heap_setCell_same _ _ 5 _ _ (.slice p3a x.heard.length p3c) x0
 have y1 : (wA.setCell ⟨w.heap.size, 5, none⟩ (.slice p3a x.heard.length p3c)).heap[w.heap.size + 1]? = some (.cells #[.int .i64 0, .int .i64 0, .int .i64 0, .slice none 0 0, .slice none 0 0, .slice none 0 0, .slice none 0 0] 31) := by rw [heap_setCell_other _ ⟨w.heap.size, 5, none⟩ _ _ (by show w.heap.size + 1 ≠ w.heap.size; omega)]; exact x1
 have L1 := hide (show ∀ k, (Value.slice p1a x.net.ls.length p1c).ownBlock = some k → k < w3.heap.size from fun k hk => (R1.out.lt k hk).2)
 have L2 := hide (show ∀ k, (Value.slice p2a x.net.ts.length p2c).ownBlock = some k → k < w3.heap.size from fun k hk => (R2.out.lt k hk).2)
 have S1 := hide (owns_set (p := w.heap.size) (j := 5) (u := .slice p3a x.heard.length p3c) r1 (by omega))
 have S2 := hide (owns_set (p := w.heap.size) (j := 5) (u := .slice p3a x.heard.length p3c) r2 (by omega))
 have S3 := hide (owns_set (p := w.heap.size) (j := 5) (u := .slice p3a x.heard.length p3c) ho3 (by omega))
 have zz : (wA.setCell ⟨w.heap.size, 5, none⟩ (.slice p3a x.heard.length p3c)).heap.size = wA.heap.size := by simp
 have HCL := hide (copyList_any (.slice a4 ps.length c4) ps hi (wA.setCell ⟨w.heap.size, 5, none⟩ (.slice p3a x.heard.length p3c)) (HX.out.store.below B5 hhi) (by have := B5.size; omega) hlR)
 have Q03 := hide y0
 have Q13 := hide y1
 clear x0 x1 r1 r2 ho3 gr3 y0 y1 R1 R2 Y0 Y1
 go_wp2_with fail
 obtain ⟨wS, hwS⟩ : ∃ W, W = (wA.setCell ⟨w.heap.size, 5, none⟩ (.slice p3a x.heard.length p3c)) := ⟨_, rfl⟩
 rw [← hwS] at B5 zz Q03 Q13 HCL S1 S2 S3 ⊢
 clear hwS
 refine HCL.out.mono ?_
 rintro e w6 ⟨p4, qs, rfl, fq, ho4, b6⟩
 obtain ⟨p4a, p4c, rfl⟩ := owns_lenS ho4.row
 have hz6 := b6.size
 have bs3 := B5.size
 have bw6 : Below w.heap.size w w6 := B5.trans (b6.mono B5.size)
 have q2 := (b6.block _ (lt_of_heap Q03.out)).trans Q03.out
 have q1 := (b6.block _ (lt_of_heap Q13.out)).trans Q13.out
 have hl6 := lt_of_heap q1
 have OW := hide (show SelfOwn w6 w1.heap.size w6.heap.size (.slice p1a x.net.ls.length p1c) (.slice p2a x.net.ts.length p2c) (.slice p3a x.heard.length p3c) (.slice p4a qs.length p4c) x qs w3.heap.size wS.heap.size from
  {o1 := hsz3
   o2 := by omega
   o3 := hz6
   links := owns_below S1.out b6 (Nat.le_refl _)
   ltop := L1.out
   things := owns_below S2.out b6 (Nat.le_refl _)
   ttop := L2.out
   heard := ⟨owns_below S3.out b6 (Nat.le_refl _), fun k e => (S3.out.lt k e).2⟩
   store := ho4 })
 have FQ := hide fq
 clear t5 t6
 have r0 := cells_at q1 0
 have r1 := cells_at q1 1
 have r2 := cells_at q1 2
 have r3 := cells_at q1 3
 have r4 := cells_at q1 4
 have r5 := cells_at q1 5
 have r6 := cells_at q1 6
 simp at r0 r1 r2 r3 r4 r5 r6
 have t0 := cells_at q2 0
 have t1 := cells_at q2 1
 have t2 := cells_at q2 2
 have t3 := cells_at q2 3
 have t4 := cells_at q2 4
 have t5 := cells_at q2 5
 have t6 := cells_at q2 6
 simp at t0 t1 t2 t3 t4 t5 t6
 have fz0x := frozen_at q1 0
 have fz1x := frozen_at q1 1
 have fz2x := frozen_at q1 2
 have fz3x := frozen_at q1 3
 have fz4x := frozen_at q1 4
 have fz5x := frozen_at q1 5
 have fz6x := frozen_at q1 6
 have e6 := frozen_at q2 6
 have QQ1 := hide q1
 clear ho4 q1 q2 fq
 go_wp2
 have hfin : ((((((((w6.setCell ⟨w.heap.size, 6, none⟩ (.slice p4a qs.length p4c)).setCell ⟨w.heap.size + 1, 0, none⟩ (.int .i64 x.id)).setCell ⟨w.heap.size + 1, 1, none⟩ (.int .i64 x.boot)).setCell ⟨w.heap.size + 1, 2, none⟩ (.int .i64 x.net.n)).setCell ⟨w.heap.size + 1, 3, none⟩ (.slice p1a x.net.ls.length p1c)).setCell ⟨w.heap.size + 1, 4, none⟩ (.slice p2a x.net.ts.length p2c)).setCell ⟨w.heap.size + 1, 5, none⟩ (.slice p3a x.heard.length p3c)).setCell ⟨w.heap.size + 1, 6, none⟩ (.slice p4a qs.length p4c)).heap[w.heap.size + 1]? = some (.cells #[.int .i64 x.id, .int .i64 x.boot, .int .i64 x.net.n, .slice p1a x.net.ls.length p1c, .slice p2a x.net.ts.length p2c, .slice p3a x.heard.length p3c, .slice p4a qs.length p4c] 31) := by
  have k0 : (w6.setCell ⟨w.heap.size, 6, none⟩ (.slice p4a qs.length p4c)).heap[w.heap.size + 1]? = some (.cells #[.int .i64 0, .int .i64 0, .int .i64 0, .slice none 0 0, .slice none 0 0, .slice none 0 0, .slice none 0 0] 31) := by
   rw [heap_setCell_other _ ⟨w.heap.size, 6, none⟩ _ _ (by show w.heap.size + 1 ≠ w.heap.size; omega)]
   exact QQ1.out
  have k1 := heap_setCell_same _ _ 0 _ _ (.int .i64 x.id) k0
  have k2 := heap_setCell_same _ _ 1 _ _ (.int .i64 x.boot) k1
  have k3 := heap_setCell_same _ _ 2 _ _ (.int .i64 x.net.n) k2
  have k4 := heap_setCell_same _ _ 3 _ _ (.slice p1a x.net.ls.length p1c) k3
  have k5 := heap_setCell_same _ _ 4 _ _ (.slice p2a x.net.ts.length p2c) k4
  have k6 := heap_setCell_same _ _ 5 _ _ (.slice p3a x.heard.length p3c) k5
  have k7 := heap_setCell_same _ _ 6 _ _ (.slice p4a qs.length p4c) k6
  exact k7
 have hkeep : ∀ k, w.heap.size + 2 ≤ k → ((((((((w6.setCell ⟨w.heap.size, 6, none⟩ (.slice p4a qs.length p4c)).setCell ⟨w.heap.size + 1, 0, none⟩ (.int .i64 x.id)).setCell ⟨w.heap.size + 1, 1, none⟩ (.int .i64 x.boot)).setCell ⟨w.heap.size + 1, 2, none⟩ (.int .i64 x.net.n)).setCell ⟨w.heap.size + 1, 3, none⟩ (.slice p1a x.net.ls.length p1c)).setCell ⟨w.heap.size + 1, 4, none⟩ (.slice p2a x.net.ts.length p2c)).setCell ⟨w.heap.size + 1, 5, none⟩ (.slice p3a x.heard.length p3c)).setCell ⟨w.heap.size + 1, 6, none⟩ (.slice p4a qs.length p4c)).heap[k]? = w6.heap[k]? := fun k hk => by
  rw [heap_setCell_other _ ⟨w.heap.size + 1, 6, none⟩ _ _ (by show k ≠ w.heap.size + 1; omega), heap_setCell_other _ ⟨w.heap.size + 1, 5, none⟩ _ _ (by show k ≠ w.heap.size + 1; omega), heap_setCell_other _ ⟨w.heap.size + 1, 4, none⟩ _ _ (by show k ≠ w.heap.size + 1; omega), heap_setCell_other _ ⟨w.heap.size + 1, 3, none⟩ _ _ (by show k ≠ w.heap.size + 1; omega), heap_setCell_other _ ⟨w.heap.size + 1, 2, none⟩ _ _ (by show k ≠ w.heap.size + 1; omega), heap_setCell_other _ ⟨w.heap.size + 1, 1, none⟩ _ _ (by show k ≠ w.heap.size + 1; omega), heap_setCell_other _ ⟨w.heap.size + 1, 0, none⟩ _ _ (by show k ≠ w.heap.size + 1; omega), heap_setCell_other _ ⟨w.heap.size, 6, none⟩ _ _ (by show k ≠ w.heap.size; omega)]
 have hsize : ((((((((w6.setCell ⟨w.heap.size, 6, none⟩ (.slice p4a qs.length p4c)).setCell ⟨w.heap.size + 1, 0, none⟩ (.int .i64 x.id)).setCell ⟨w.heap.size + 1, 1, none⟩ (.int .i64 x.boot)).setCell ⟨w.heap.size + 1, 2, none⟩ (.int .i64 x.net.n)).setCell ⟨w.heap.size + 1, 3, none⟩ (.slice p1a x.net.ls.length p1c)).setCell ⟨w.heap.size + 1, 4, none⟩ (.slice p2a x.net.ts.length p2c)).setCell ⟨w.heap.size + 1, 5, none⟩ (.slice p3a x.heard.length p3c)).setCell ⟨w.heap.size + 1, 6, none⟩ (.slice p4a qs.length p4c)).heap.size = w6.heap.size := by simp
 have hbel : Below w.heap.size w ((((((((w6.setCell ⟨w.heap.size, 6, none⟩ (.slice p4a qs.length p4c)).setCell ⟨w.heap.size + 1, 0, none⟩ (.int .i64 x.id)).setCell ⟨w.heap.size + 1, 1, none⟩ (.int .i64 x.boot)).setCell ⟨w.heap.size + 1, 2, none⟩ (.int .i64 x.net.n)).setCell ⟨w.heap.size + 1, 3, none⟩ (.slice p1a x.net.ls.length p1c)).setCell ⟨w.heap.size + 1, 4, none⟩ (.slice p2a x.net.ts.length p2c)).setCell ⟨w.heap.size + 1, 5, none⟩ (.slice p3a x.heard.length p3c)).setCell ⟨w.heap.size + 1, 6, none⟩ (.slice p4a qs.length p4c)) := ((((((((bw6.setCell (by show w.heap.size ≤ w.heap.size; omega) _).setCell (by show w.heap.size ≤ w.heap.size + 1; omega) _).setCell (by show w.heap.size ≤ w.heap.size + 1; omega) _).setCell (by show w.heap.size ≤ w.heap.size + 1; omega) _).setCell (by show w.heap.size ≤ w.heap.size + 1; omega) _).setCell (by show w.heap.size ≤ w.heap.size + 1; omega) _).setCell (by show w.heap.size ≤ w.heap.size + 1; omega) _).setCell (by show w.heap.size ≤ w.heap.size + 1; omega) _)
 try simp only [Exit.inBlock, Exit.then]
 refine bodyPost_ret (results_cell_row rfl _ _ (w.heap.size + 1) 31 #[.int .i64 x.id, .int .i64 x.boot, .int .i64 x.net.n, .slice p1a x.net.ls.length p1c, .slice p2a x.net.ts.length p2c, .slice p3a x.heard.length p3c, .slice p4a qs.length p4c] (0, 0) _ rfl hfin Tryz.underlying31 rfl (by kernel_rfl)) rfl ?_
 exact ⟨_, _, _, _, qs, _, _, rfl, FQ.out, ((OW.out.keep (fun k h1 _ _ => hkeep k (by omega))).low (by omega)).high (by rw [hsize]; omega), hbel⟩
def heardSB (ls : List Lk) (id : Int) (h : List Int) : Bool := decide (h.length % 2 = 0) && (decide (h.length ≤ 60) && ((pairsOf h).all (hitP ls id) && ascB ordH (pairsOf h)))
theorem heardSB_eq {x : NetD} {id : Int} {h : List Int} (hn : netOkI x = true) : heardSB x.ls id h = heardB x.ls id h := by
 cases e : heardB x.ls id h with
 | true =>
  have hl := heard_short hn e
  unfold heardB at e
  unfold heardSB
  simp only [Bool.and_eq_true] at e
  rw [e.1, e.2.1, e.2.2, decide_eq_true hl]
  rfl
 | false =>
  unfold heardB at e
  unfold heardSB
  cases h1 : decide (h.length % 2 = 0) <;> cases h2 : (pairsOf h).all (hitP x.ls id) <;> cases h3 : ascB ordH (pairsOf h) <;> simp_all
theorem asc_all {L : List (Int × Int)} (h : ∀ j, j < L.length → ascAt ordH L j = true) : ascB ordH L = true := all_true h
theorem sheard_any (v1 v2 v3 v4 : Value) (x : SelfD) (ps : List RP) (w : World) (hl : x.net.ls.length ≤ 1048576) (hh : x.heard.length ≤ 1048576) (hv : SelfIn w v1 v2 v3 v4 x ps w.heap.size) :
  Calls Tryz.prog 131 #[selfV x v1 v2 v3 v4] w fun e w' => e = .returned (.bool (heardSB x.net.ls x.id x.heard)) ∧ Below w.heap.size w w' := by
 obtain ⟨a1, c1, rfl⟩ := hv.links.shape
 obtain ⟨a2, c2, rfl⟩ := hv.things.shape
 obtain ⟨a3, c3, rfl⟩ := hv.heard.shape
 obtain ⟨a4, c4, rfl⟩ := hv.store.shape
 have HX := hide hv
 have HPL := hide (pairs_len x.heard)
 clear hv
 obtain ⟨H, hH⟩ : ∃ H, H = heardSB x.net.ls x.id x.heard := ⟨_, rfl⟩
 rw [← hH]
 have HH := hide hH
 clear hH
 have BA : Below w.heap.size w (w.alloc (.cells #[.int .i64 x.id, .int .i64 x.boot, .int .i64 x.net.n, .slice a1 x.net.ls.length c1, .slice a2 x.net.ts.length c2, .slice a3 x.heard.length c3, .slice a4 ps.length c4] 31)) := (Below.refl _ _).alloc (Nat.le_refl _) _
 have g0 := heap_alloc_new w (.cells #[.int .i64 x.id, .int .i64 x.boot, .int .i64 x.net.n, .slice a1 x.net.ls.length c1, .slice a2 x.net.ts.length c2, .slice a3 x.heard.length c3, .slice a4 ps.length c4] 31)
 have G0 := hide g0
 clear g0
 by_cases hodd : x.heard.length % 2 = 0
 case neg =>
  have hp1 : (x.heard.length : Int) % 2 = 1 := by omega
  have HF := hide (show H = false by rw [HH.out]; unfold heardSB; rw [decide_eq_false hodd]; rfl)
  clear hodd
  go_enter Tryz.func131, Tryz.ntmps131
  go_wp2
  go_ret
  exact ⟨ret_bool HF.out, BA⟩
 have hp1 : ¬ (x.heard.length : Int) % 2 = 1 := by omega
 by_cases h60 : x.heard.length ≤ 60
 case neg =>
  have hp2 : ¬ (x.heard.length : Int) ≤ 60 := by omega
  have HF := hide (show H = false by rw [HH.out]; unfold heardSB; rw [decide_eq_false h60]; simp)
  clear hodd h60
  go_enter Tryz.func131, Tryz.ntmps131
  go_wp2
  go_ret
  exact ⟨ret_bool HF.out, BA⟩
 have hp2 : (x.heard.length : Int) ≤ 60 := by omega
 obtain ⟨L, hL⟩ : ∃ L, L = pairsOf x.heard := ⟨_, rfl⟩
 have HH2 := hide (show H = (L.all (hitP x.net.ls x.id) && ascB ordH L) by rw [HH.out]; unfold heardSB; rw [decide_eq_true hodd, decide_eq_true h60, ← hL]; rfl)
 have HLL := hide (show 2 * L.length = x.heard.length by rw [hL, HPL.out]; omega)
 have HL := hide hL
 clear hL hodd h60
 have hp3 : ((x.heard.length : Int) % 2 == 1) = false := by simpa using hp1
 have hp4 : decide ((60 : Int) < (x.heard.length : Int)) = false := decide_eq_false (by omega)
 go_enter Tryz.func131, Tryz.ntmps131
 go_wp2
 obtain ⟨w1, hw1⟩ : ∃ W, W = w.alloc (.cells #[.int .i64 x.id, .int .i64 x.boot, .int .i64 x.net.n, .slice a1 x.net.ls.length c1, .slice a2 x.net.ts.length c2, .slice a3 x.heard.length c3, .slice a4 ps.length c4] 31) := ⟨_, rfl⟩
 rw [← hw1] at BA G0
 first
  | rw [← hw1]
  | skip
 clear hw1
 go_loopw [3] (fun i wr => ∃ k : Nat, k ≤ L.length ∧ i = .int .i64 (2 * (k : Int)) ∧ Hid (∀ j, j < k → okAt (hitP x.net.ls x.id) L j = true ∧ ascAt ordH L j = true) ∧ Below w1.heap.size w1 wr) (fun i _ => 70 - (intOf i).toNat)
 case atStart => exact ⟨0, by omega, rfl, hide (by omega), Below.refl _ _⟩
 case round =>
  obtain ⟨k, hk, rfl, HNO, hb⟩ := hrel
  have gr := (hb.block _ (lt_of_heap G0.out)).trans G0.out
  have B2 : Below w.heap.size w wr := BA.trans (hb.mono BA.size)
  have t0 := cells_at gr 0
  have t2 := cells_at gr 2
  have t3 := cells_at gr 3
  have t4 := cells_at gr 4
  have t5 := cells_at gr 5
  simp at t0 t2 t3 t4 t5
  have hgl := lt_of_heap gr
  have GR := hide gr
  clear gr
  by_cases hlt : k < L.length
  ·have hll := HLL.out
   have hj0 : 2 * (k : Int) < (x.heard.length : Int) := by omega
   have hj1 : 2 * (k : Int) + 1 < (x.heard.length : Int) := by omega
   obtain ⟨y, hy⟩ : ∃ y, x.heard[2 * k]? = some y := ⟨x.heard[2 * k]'(by omega), List.getElem?_eq_getElem (by omega)⟩
   obtain ⟨z, hz⟩ : ∃ z, x.heard[2 * k + 1]? = some z := ⟨x.heard[2 * k + 1]'(by omega), List.getElem?_eq_getElem (by omega)⟩
   have hLk : L[k]? = some (y, z) := by rw [HL.out]; exact pairs_at _ _ _ _ hy hz
   obtain ⟨b, off, cap', hve, hbb, d0⟩ := HX.out.heard.cell (2 * k) y hy
   cases hve
   obtain ⟨b', off', cap2, hve2, hbb2, d1⟩ := HX.out.heard.cell (2 * k + 1) z hz
   cases hve2
   rw [← B2.cell (p := ⟨b, off + 2 * k, none⟩) hbb] at d0
   rw [← B2.cell (p := ⟨b, off + (2 * k + 1), none⟩) hbb] at d1
   have q0 : (0 : Int) ≤ 2 * (k : Int) := by omega
   have q1 : (0 : Int) ≤ 2 * (k : Int) + 1 := by omega
   have q4 : (2 * (k : Int)).toNat = 2 * k := by omega
   have q5 : (2 * (k : Int) + 1).toNat = 2 * k + 1 := by omega
   have q6 : IntKind.i64.wrap (2 * (k : Int) + 1) = 2 * (k : Int) + 1 := wrap_fit _ (by omega) (by omega)
   have HC := hide (scost_any (.int .i64 x.net.n) (.slice a1 x.net.ls.length c1) (.slice a2 x.net.ts.length c2) x.net.ls x.id y z wr hl (RowAt.then HX.out.links B2))
   obtain ⟨C, hC⟩ : ∃ C, C = costN x.net.ls x.id y z := ⟨_, rfl⟩
   rw [← hC] at HC
   have HOK := hide (show okAt (hitP x.net.ls x.id) L k = !(C == 0) by rw [okAt_eq hLk, hC]; rfl)
   have HLK := hide hLk
   clear hC hy hz hll hLk
   go_wp2_with fail
   refine HC.out.mono ?_
   rintro e w3 ⟨rfl, b3⟩
   have hbs := hb.size
   have B3 : Below w1.heap.size w1 w3 := hb.trans (b3.mono hbs)
   have B4 : Below w.heap.size w w3 := BA.trans (B3.mono BA.size)
   have g3 := (b3.block _ hgl).trans GR.out
   clear HC t0 t2 t3 t4 t5 d0 d1
   have t5 := cells_at g3 5
   simp at t5
   clear g3
   by_cases hc0 : C = 0
   ·have HF := hide (show H = false by
     rw [HH2.out]
     have : L.all (hitP x.net.ls x.id) = false := by
      rw [List.all_eq_false]
      refine ⟨L[k], List.getElem_mem hlt, ?_⟩
      have h := HOK.out
      rw [okAt_eq (List.getElem?_eq_getElem hlt), hc0] at h
      rw [h]
      simp
     rw [this, Bool.false_and])
    subst hc0
    go_wp2
    go_ret
    exact ⟨ret_bool HF.out, B4⟩
   ·have HT := hide (show okAt (hitP x.net.ls x.id) L k = true by rw [HOK.out]; simpa using hc0)
    rcases (show k = 0 ∨ ∃ m, k = m + 1 by cases k with
     | zero => exact .inl rfl
     | succ m => exact .inr ⟨m, rfl⟩) with hk0 | ⟨m, hm⟩
    ·have HA0 := hide (show ∀ j, j < k + 1 → okAt (hitP x.net.ls x.id) L j = true ∧ ascAt ordH L j = true from fun j hj => by
      obtain rfl : j = 0 := by omega
      refine ⟨?_, rfl⟩
      have h := HT.out
      rw [hk0] at h
      exact h)
     have hnk : ¬ (0 : Int) < 2 * (k : Int) := by omega
     clear hk0
     go_wp2
     go_roundw
     case rel => exact ⟨k + 1, by omega, by go_num, HA0, B3⟩
     case measure => simp [intOf]; omega
    ·have hll := HLL.out
     obtain ⟨p, hp⟩ : ∃ p, x.heard[2 * m]? = some p := ⟨x.heard[2 * m]'(by omega), List.getElem?_eq_getElem (by omega)⟩
     obtain ⟨q, hq⟩ : ∃ q, x.heard[2 * m + 1]? = some q := ⟨x.heard[2 * m + 1]'(by omega), List.getElem?_eq_getElem (by omega)⟩
     have hLm : L[m]? = some (p, q) := by rw [HL.out]; exact pairs_at _ _ _ _ hp hq
     obtain ⟨b', off', cap2, hve2, hbb2, e0⟩ := HX.out.heard.cell (2 * m) p hp
     cases hve2
     obtain ⟨b', off', cap2, hve2, hbb2, e1⟩ := HX.out.heard.cell (2 * m + 1) q hq
     cases hve2
     rw [← B4.cell (p := ⟨b, off + 2 * m, none⟩) hbb] at e0
     rw [← B4.cell (p := ⟨b, off + (2 * m + 1), none⟩) hbb] at e1
     have HAT := hide (show ascAt ordH L k = decide (ordH (p, q) (y, z) < 0) by rw [hm]; exact ascAt_eq hLm (by rw [← hm]; exact HLK.out))
     have r1 : 2 * (k : Int) - 2 = 2 * (m : Int) := by omega
     have r2 : 2 * (k : Int) - 1 = 2 * (m : Int) + 1 := by omega
     have r3 : IntKind.i64.wrap (2 * (m : Int)) = 2 * (m : Int) := wrap_fit _ (by omega) (by omega)
     have r4 : IntKind.i64.wrap (2 * (m : Int) + 1) = 2 * (m : Int) + 1 := wrap_fit _ (by omega) (by omega)
     have r5 : (2 * (m : Int)).toNat = 2 * m := by omega
     have r6 : (2 * (m : Int) + 1).toNat = 2 * m + 1 := by omega
     have r7 : (0 : Int) ≤ 2 * (m : Int) := by omega
     have r8 : 2 * (m : Int) < (x.heard.length : Int) := by omega
     have r9 : 2 * (m : Int) + 1 < (x.heard.length : Int) := by omega
     have r10 : (0 : Int) ≤ 2 * (m : Int) + 1 := by omega
     have hnk : (0 : Int) < 2 * (k : Int) := by omega
     have HM := hide hm
     clear hp hq hLm hll hm
     have HBAD := hide (show ¬ ordH (p, q) (y, z) < 0 → H = false from fun h => by
      rw [HH2.out]
      have : ascB ordH L = false := all_false hlt (by rw [HAT.out]; exact decide_eq_false h)
      rw [this, Bool.and_false])
     have HGOOD := hide (show ordH (p, q) (y, z) < 0 → ∀ j, j < k + 1 → okAt (hitP x.net.ls x.id) L j = true ∧ ascAt ordH L j = true from fun h j hj => by
      by_cases e : j = k
      ·subst e
       exact ⟨HT.out, by rw [HAT.out]; exact decide_eq_true h⟩
      ·exact HNO.out j (by omega))
     by_cases hpy : y < p
     ·have HF := hide (HBAD.out (fun h => by have := (ordH_lt _ _).1 h; simp only [] at this; omega))
      clear HBAD HGOOD
      go_wp2
      go_ret
      exact ⟨ret_bool HF.out, B4⟩
     ·by_cases hpe : p = y
      ·by_cases hqz : z ≤ q
       ·have HF := hide (HBAD.out (fun h => by have := (ordH_lt _ _).1 h; simp only [] at this; omega))
        clear HBAD HGOOD
        subst hpe
        go_wp2
        go_ret
        exact ⟨ret_bool HF.out, B4⟩
       ·have HG := hide (HGOOD.out ((ordH_lt _ _).2 (by simp only []; omega)))
        clear HBAD HGOOD
        have z1 : decide (y < p) = false := decide_eq_false hpy
        have z2 : (p == y) = true := by simpa using hpe
        have z3 : decide (z ≤ q) = false := decide_eq_false hqz
        clear hpy hqz hpe
        go_wp2
        go_roundw
        case rel => exact ⟨k + 1, by omega, by go_num, HG, B3⟩
        case measure => simp [intOf]; omega
      ·have HG := hide (HGOOD.out ((ordH_lt _ _).2 (by simp only []; omega)))
       clear HBAD HGOOD
       have z1 : decide (y < p) = false := decide_eq_false hpy
       have z2 : (p == y) = false := by simpa using hpe
       clear hpy hpe
       go_wp2
       go_roundw
       case rel => exact ⟨k + 1, by omega, by go_num, HG, B3⟩
       case measure => simp [intOf]; omega
  ·have hll := HLL.out
   have hkj : ¬ 2 * (k : Int) < (x.heard.length : Int) := by omega
   have HF := hide (show H = true by
    rw [HH2.out]
    have h1 : L.all (hitP x.net.ls x.id) = true := by
     rw [List.all_eq_true]
     intro q hq
     obtain ⟨i, hi, e⟩ := List.mem_iff_getElem.1 hq
     have h := (HNO.out i (by omega)).1
     rw [okAt_eq (List.getElem?_eq_getElem hi), e] at h
     exact h
    rw [h1, asc_all (fun j hj => (HNO.out j (by omega)).2)]
    rfl)
   clear hll HNO
   go_wp2
   go_ret
   exact ⟨ret_bool HF.out, B2⟩
end Go.Proofs.YtmijnjnihhemgaaGreat
