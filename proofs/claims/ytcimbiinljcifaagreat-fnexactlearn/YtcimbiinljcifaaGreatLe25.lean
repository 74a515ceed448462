/-
  impl.Learn: its contract.
-/
import Derived.Test.YtcimbiinljcifaaGreatLe14
import Derived.Test.YtcimbiinljcifaaGreatLe22
import Derived.Test.YtcimbiinljcifaaGreatLe24
namespace Go.Proofs.YtcimbiinljcifaaGreat
open Go.RowKit

set_option linter.unusedSimpArgs false

def learnS (x : SelfD) (ps ts : List RP) : List RecD := if selfB x ps then (fsts ts).foldl instD (fsts ps) else fsts ps

def learnN (x : SelfD) (ps ts : List RP) : List RecD := if selfB x ps then newsD (fsts ps) (fsts ts) else []

theorem self_asc {x : SelfD} {ps : List RP} (h : selfB x ps = true) : Asc (fsts ps) := by
  unfold selfB at h
  simp only [Bool.and_eq_true] at h
  exact store_asc_of h.2.2.2.2

set_option maxRecDepth 100000 in
set_option maxHeartbeats 4000000 in
theorem ilearn_any (v1 v2 v3 v4 v5 : Value) (x : SelfD) (ps ts : List RP) (hi : Nat) (w : World) (hv : SelfSrc w hi v1 v2 v3 v4 x ps) (hl : RecsIn w hi v5 ts) (hhi : hi ≤ w.heap.size) (ht : totS x ps + tot ts ≤ 1048576) :
    Calls Tryz.prog 8 #[selfV x v1 v2 v3 v4, v5] w fun e w' => ∃ u1 u2 u3 u4 u5 qs ns m1 m2, e = .returned (.tuple #[selfV x u1 u2 u3 u4, u5]) ∧ fsts qs = learnS x ps ts ∧ fsts ns = learnN x ps ts ∧ SelfOwn w' w.heap.size w'.heap.size u1 u2 u3 u4 x qs m1 m2 ∧ RecsOwn w' m2 w'.heap.size u5 ns ∧ Sep u4 qs u5 ns ∧ Below w.heap.size w w' := by
  obtain ⟨⟨a1, a1c, rfl⟩, ⟨a2, a2c, rfl⟩, ⟨a3, a3c, rfl⟩, ⟨a4, a4c, rfl⟩⟩ := hv.in.shapes
  obtain ⟨l5, c5, rfl⟩ := owns_lenS hl.row
  have HX := hide hv
  have HL := hide hl
  clear hv hl
  have B0 : Below w.heap.size w ((w.alloc (.cells #[.int .i64 x.id, .int .i64 x.boot, .int .i64 x.net.n, .slice a1 x.net.ls.length a1c, .slice a2 x.net.ts.length a2c, .slice a3 x.heard.length a3c, .slice a4 ps.length a4c] 31)).alloc (.cells #[.int .i64 0, .int .i64 0, .int .i64 0, .slice none 0 0, .slice none 0 0, .slice none 0 0, .slice none 0 0] 31)) := ((Below.refl w.heap.size w).alloc (Nat.le_refl _) _).alloc (by simp) _
  have q0 : ((w.alloc (.cells #[.int .i64 x.id, .int .i64 x.boot, .int .i64 x.net.n, .slice a1 x.net.ls.length a1c, .slice a2 x.net.ts.length a2c, .slice a3 x.heard.length a3c, .slice a4 ps.length a4c] 31)).alloc (.cells #[.int .i64 0, .int .i64 0, .int .i64 0, .slice none 0 0, .slice none 0 0, .slice none 0 0, .slice none 0 0] 31)).heap[w.heap.size]? = some (.cells #[.int .i64 x.id, .int .i64 x.boot, .int .i64 x.net.n, .slice a1 x.net.ls.length a1c, .slice a2 x.net.ts.length a2c, .slice a3 x.heard.length a3c, .slice a4 ps.length a4c] 31) := by rw [Below.heap_alloc _ _ _ (by simp), heap_alloc_new]
  have q1 : ((w.alloc (.cells #[.int .i64 x.id, .int .i64 x.boot, .int .i64 x.net.n, .slice a1 x.net.ls.length a1c, .slice a2 x.net.ts.length a2c, .slice a3 x.heard.length a3c, .slice a4 ps.length a4c] 31)).alloc (.cells #[.int .i64 0, .int .i64 0, .int .i64 0, .slice none 0 0, .slice none 0 0, .slice none 0 0, .slice none 0 0] 31)).heap[w.heap.size + 1]? = some (.cells #[.int .i64 0, .int .i64 0, .int .i64 0, .slice none 0 0, .slice none 0 0, .slice none 0 0, .slice none 0 0] 31) := by
    have h := heap_alloc_new (w.alloc (.cells #[.int .i64 x.id, .int .i64 x.boot, .int .i64 x.net.n, .slice a1 x.net.ls.length a1c, .slice a2 x.net.ts.length a2c, .slice a3 x.heard.length a3c, .slice a4 ps.length a4c] 31)) (.cells #[.int .i64 0, .int .i64 0, .int .i64 0, .slice none 0 0, .slice none 0 0, .slice none 0 0, .slice none 0 0] 31)
    simpa using h
  have HOS := hide (ownSelf_any _ _ _ _ x ps hi _ (HX.out.below B0 hhi) (by have := B0.size; omega) (by omega))
  have Q0 := hide q0
  have Q1 := hide q1
  clear q0 q1
  obtain ⟨R, hR⟩ : ∃ R, R = selfB x ps := ⟨_, rfl⟩
  have HR := hide hR
  clear hR
  go_enter Tryz.func8, Tryz.ntmps8
  go_wp2_with fail
  obtain ⟨w0, hw0⟩ : ∃ W, W = (w.alloc (.cells #[.int .i64 x.id, .int .i64 x.boot, .int .i64 x.net.n, .slice a1 x.net.ls.length a1c, .slice a2 x.net.ts.length a2c, .slice a3 x.heard.length a3c, .slice a4 ps.length a4c] 31)).alloc (.cells #[.int .i64 0, .int .i64 0, .int .i64 0, .slice none 0 0, .slice none 0 0, .slice none 0 0, .slice none 0 0] 31) := ⟨_, rfl⟩
  rw [← hw0] at B0 Q0 Q1 HOS ⊢
  clear hw0
  refine HOS.out.mono ?_
  rintro e w1 ⟨y1, y2, y3, y4, qs, m1, m2, rfl, fq, o1, b1⟩
  obtain ⟨⟨y1, y1c, rfl⟩, ⟨y2, y2c, rfl⟩, ⟨y3, y3c, rfl⟩, ⟨y4, y4c, rfl⟩⟩ := o1.in.shapes
  have B1 : Below w.heap.size w w1 := B0.trans (b1.mono B0.size)
  have g0 := (b1.block _ (lt_of_heap Q0.out)).trans Q0.out
  have g1 := (b1.block _ (lt_of_heap Q1.out)).trans Q1.out
  have hl0 := lt_of_heap Q1.out
  have hl1 := b1.size
  have s0 := cells_at g0 0
  have s1 := cells_at g0 1
  have s2 := cells_at g0 2
  have s3 := cells_at g0 3
  have s4 := cells_at g0 4
  have s5 := cells_at g0 5
  have s6 := cells_at g0 6
  simp at s0 s1 s2 s3 s4 s5 s6
  have hlw : w.heap.size < w1.heap.size := by omega
  have hlne : ¬ w.heap.size = w1.heap.size := by omega
  have BN : Below w1.heap.size w1 (w1.alloc (.cells #[.int .i64 x.id, .int .i64 x.boot, .int .i64 x.net.n, .slice y1 x.net.ls.length y1c, .slice y2 x.net.ts.length y2c, .slice y3 x.heard.length y3c, .slice y4 qs.length y4c] 31)) := (Below.refl _ _).alloc (Nat.le_refl _) _
  have B2 : Below w.heap.size w (w1.alloc (.cells #[.int .i64 x.id, .int .i64 x.boot, .int .i64 x.net.n, .slice y1 x.net.ls.length y1c, .slice y2 x.net.ts.length y2c, .slice y3 x.heard.length y3c, .slice y4 qs.length y4c] 31)) := B1.trans (BN.mono B1.size)
  have HSO := hide (iselfOk_any _ _ _ _ x ps (w1.alloc (.cells #[.int .i64 x.id, .int .i64 x.boot, .int .i64 x.net.n, .slice y1 x.net.ls.length y1c, .slice y2 x.net.ts.length y2c, .slice y3 x.heard.length y3c, .slice y4 qs.length y4c] 31)) (by omega) ((HX.out.below B2 hhi).in.more (by have := B2.size; omega)))
  rw [← HR.out] at HSO
  have hz := heap_alloc_new w1 (.cells #[.int .i64 x.id, .int .i64 x.boot, .int .i64 x.net.n, .slice y1 x.net.ls.length y1c, .slice y2 x.net.ts.length y2c, .slice y3 x.heard.length y3c, .slice y4 qs.length y4c] 31)
  have g0' := (BN.block _ (lt_of_heap g0)).trans g0
  have g1' := (BN.block _ (lt_of_heap g1)).trans g1
  have O1 := hide ((o1.below BN (Nat.le_refl _)))
  have FQ := hide fq
  have G0 := hide g0'
  have G1 := hide g1'
  have GZ := hide hz
  clear g0 g1 g0' g1' hz o1 fq b1 HOS Q0 Q1
  go_wp2_with fail
  obtain ⟨w2, hw2⟩ : ∃ W, W = w1.alloc (.cells #[.int .i64 x.id, .int .i64 x.boot, .int .i64 x.net.n, .slice y1 x.net.ls.length y1c, .slice y2 x.net.ts.length y2c, .slice y3 x.heard.length y3c, .slice y4 qs.length y4c] 31) := ⟨_, rfl⟩
  rw [← hw2] at BN B2 HSO O1 G0 G1 GZ ⊢
  have hs12 : w1.heap.size < w2.heap.size := by rw [hw2]; simp
  clear hw2
  obtain ⟨z, hzz⟩ : ∃ z, z = w1.heap.size := ⟨_, rfl⟩
  rw [← hzz] at GZ ⊢
  have HZZ := hide hzz
  clear hzz
  refine HSO.out.mono ?_
  rintro e w3 ⟨rfl, b3⟩
  clear s0 s1 s2 s3 s4 s5 s6
  have B3 : Below w.heap.size w w3 := B2.trans (b3.mono B2.size)
  have g0 := (b3.block _ (lt_of_heap G0.out)).trans G0.out
  have g1 := (b3.block _ (lt_of_heap G1.out)).trans G1.out
  have gz := (b3.block _ (lt_of_heap GZ.out)).trans GZ.out
  have hs23 := b3.size
  have O3 := hide (O1.out.below b3 (by omega))
  clear b3 HSO O1 G0 G1 GZ
  cases R
  · have t0 := cells_at gz 0
    have t1 := cells_at gz 1
    have t2 := cells_at gz 2
    have t3 := cells_at gz 3
    have t4 := cells_at gz 4
    have t5 := cells_at gz 5
    have t6 := cells_at gz 6
    simp at t0 t1 t2 t3 t4 t5 t6
    have hlz : w.heap.size + 1 < w3.heap.size := lt_of_heap g1
    have hlz2 : z < w3.heap.size := lt_of_heap gz
    have hm2 := O3.out.o3
    have G1 := hide g1
    have hSL := hide (show learnS x ps ts = fsts ps by unfold learnS; rw [← HR.out]; rfl)
    have hSN := hide (show learnN x ps ts = [] by unfold learnN; rw [← HR.out]; rfl)
    have SEP := hide (show Sep (.slice y4 qs.length y4c) qs (.slice (some ⟨w3.heap.size, 0, none⟩) 0 0) [] from fun k h1 h2 => by
      have h3 := (O3.out.store.blk k h1).2.2
      rcases h2 with h2 | ⟨p, hp, _⟩
      · simp [Value.ownBlock] at h2; omega
      · simp at hp)
    have LIT := hide (recs_lit w3 m2 (by omega))
    clear g0 g1 gz
    go_wp2_with (refine wpList_build0 rfl rfl ?_)
    intro w4 hw4h
    have hw4 := hw4h.out
    have b4 : Below w3.heap.size w3 w4 := by rw [hw4]; exact (Below.refl _ _).alloc (Nat.le_refl _) _
    rw [← hw4] at LIT
    have hs4 : w3.heap.size < w4.heap.size := by rw [hw4]; simp
    have B4 : Below w.heap.size w w4 := B3.trans (b4.mono B3.size)
    have g1 := (b4.block _ (lt_of_heap G1.out)).trans G1.out
    have O4 := hide (O3.out.below b4 (by omega))
    have GA := hide g1
    clear hw4 hw4h t0 t1 t2 t3 t4 t5 t6
    have r0 := cells_at g1 0
    have r1 := cells_at g1 1
    have r2 := cells_at g1 2
    have r3 := cells_at g1 3
    have r4 := cells_at g1 4
    have r5 := cells_at g1 5
    have r6 := cells_at g1 6
    simp at r0 r1 r2 r3 r4 r5 r6
    have fz0x := frozen_at g1 0
    have fz1x := frozen_at g1 1
    have fz2x := frozen_at g1 2
    have fz3x := frozen_at g1 3
    have fz4x := frozen_at g1 4
    have fz5x := frozen_at g1 5
    have fz6x := frozen_at g1 6
    clear g1
    go_wp2
    have hfin : (((((((w4.setCell ⟨w.heap.size + 1, 0, none⟩ (.int .i64 x.id)).setCell ⟨w.heap.size + 1, 1, none⟩ (.int .i64 x.boot)).setCell ⟨w.heap.size + 1, 2, none⟩ (.int .i64 x.net.n)).setCell ⟨w.heap.size + 1, 3, none⟩ (.slice y1 x.net.ls.length y1c)).setCell ⟨w.heap.size + 1, 4, none⟩ (.slice y2 x.net.ts.length y2c)).setCell ⟨w.heap.size + 1, 5, none⟩ (.slice y3 x.heard.length y3c)).setCell ⟨w.heap.size + 1, 6, none⟩ (.slice y4 qs.length y4c)).heap[w.heap.size + 1]? = some (.cells #[.int .i64 x.id, .int .i64 x.boot, .int .i64 x.net.n, .slice y1 x.net.ls.length y1c, .slice y2 x.net.ts.length y2c, .slice y3 x.heard.length y3c, .slice y4 qs.length y4c] 31) := by
      have k0 := GA.out
      have k1 := heap_setCell_same _ _ 0 _ _ (.int .i64 x.id) k0
      have k2 := heap_setCell_same _ _ 1 _ _ (.int .i64 x.boot) k1
      have k3 := heap_setCell_same _ _ 2 _ _ (.int .i64 x.net.n) k2
      have k4 := heap_setCell_same _ _ 3 _ _ (.slice y1 x.net.ls.length y1c) k3
      have k5 := heap_setCell_same _ _ 4 _ _ (.slice y2 x.net.ts.length y2c) k4
      have k6 := heap_setCell_same _ _ 5 _ _ (.slice y3 x.heard.length y3c) k5
      have k7 := heap_setCell_same _ _ 6 _ _ (.slice y4 qs.length y4c) k6
      exact k7
    have hkeep : ∀ k, w.heap.size + 2 ≤ k → (((((((w4.setCell ⟨w.heap.size + 1, 0, none⟩ (.int .i64 x.id)).setCell ⟨w.heap.size + 1, 1, none⟩ (.int .i64 x.boot)).setCell ⟨w.heap.size + 1, 2, none⟩ (.int .i64 x.net.n)).setCell ⟨w.heap.size + 1, 3, none⟩ (.slice y1 x.net.ls.length y1c)).setCell ⟨w.heap.size + 1, 4, none⟩ (.slice y2 x.net.ts.length y2c)).setCell ⟨w.heap.size + 1, 5, none⟩ (.slice y3 x.heard.length y3c)).setCell ⟨w.heap.size + 1, 6, none⟩ (.slice y4 qs.length y4c)).heap[k]? = (w4).heap[k]? := fun k hk => by
      rw [heap_setCell_other _ ⟨w.heap.size + 1, 6, none⟩ _ _ (by show k ≠ w.heap.size + 1; omega), heap_setCell_other _ ⟨w.heap.size + 1, 5, none⟩ _ _ (by show k ≠ w.heap.size + 1; omega), heap_setCell_other _ ⟨w.heap.size + 1, 4, none⟩ _ _ (by show k ≠ w.heap.size + 1; omega), heap_setCell_other _ ⟨w.heap.size + 1, 3, none⟩ _ _ (by show k ≠ w.heap.size + 1; omega), heap_setCell_other _ ⟨w.heap.size + 1, 2, none⟩ _ _ (by show k ≠ w.heap.size + 1; omega), heap_setCell_other _ ⟨w.heap.size + 1, 1, none⟩ _ _ (by show k ≠ w.heap.size + 1; omega), heap_setCell_other _ ⟨w.heap.size + 1, 0, none⟩ _ _ (by show k ≠ w.heap.size + 1; omega)]
    have hsize : (((((((w4.setCell ⟨w.heap.size + 1, 0, none⟩ (.int .i64 x.id)).setCell ⟨w.heap.size + 1, 1, none⟩ (.int .i64 x.boot)).setCell ⟨w.heap.size + 1, 2, none⟩ (.int .i64 x.net.n)).setCell ⟨w.heap.size + 1, 3, none⟩ (.slice y1 x.net.ls.length y1c)).setCell ⟨w.heap.size + 1, 4, none⟩ (.slice y2 x.net.ts.length y2c)).setCell ⟨w.heap.size + 1, 5, none⟩ (.slice y3 x.heard.length y3c)).setCell ⟨w.heap.size + 1, 6, none⟩ (.slice y4 qs.length y4c)).heap.size = (w4).heap.size := by simp
    have hbel : Below w.heap.size w (((((((w4.setCell ⟨w.heap.size + 1, 0, none⟩ (.int .i64 x.id)).setCell ⟨w.heap.size + 1, 1, none⟩ (.int .i64 x.boot)).setCell ⟨w.heap.size + 1, 2, none⟩ (.int .i64 x.net.n)).setCell ⟨w.heap.size + 1, 3, none⟩ (.slice y1 x.net.ls.length y1c)).setCell ⟨w.heap.size + 1, 4, none⟩ (.slice y2 x.net.ts.length y2c)).setCell ⟨w.heap.size + 1, 5, none⟩ (.slice y3 x.heard.length y3c)).setCell ⟨w.heap.size + 1, 6, none⟩ (.slice y4 qs.length y4c)) := (((((((B4.setCell (by show w.heap.size ≤ w.heap.size + 1; omega) _).setCell (by show w.heap.size ≤ w.heap.size + 1; omega) _).setCell (by show w.heap.size ≤ w.heap.size + 1; omega) _).setCell (by show w.heap.size ≤ w.heap.size + 1; omega) _).setCell (by show w.heap.size ≤ w.heap.size + 1; omega) _).setCell (by show w.heap.size ≤ w.heap.size + 1; omega) _).setCell (by show w.heap.size ≤ w.heap.size + 1; omega) _)
    try simp only [Exit.inBlock, Exit.then]
    refine bodyPost_ret (results_cell_row_tmp5 rfl _ _ (w.heap.size + 1) 31 #[.int .i64 x.id, .int .i64 x.boot, .int .i64 x.net.n, .slice y1 x.net.ls.length y1c, .slice y2 x.net.ts.length y2c, .slice y3 x.heard.length y3c, .slice y4 qs.length y4c] (0, 0) _ rfl hfin Tryz.underlying31 rfl (by kernel_rfl)) rfl ?_
    exact ⟨_, _, _, _, _, qs, [], m1, m2, rfl, by rw [FQ.out, hSL.out], by rw [hSN.out]; rfl, ((O4.out.keep (fun k h1 _ _ => hkeep k (by omega))).low (by omega)).high (by rw [hsize]; omega), (LIT.out.keep (fun k h1 _ _ => hkeep k (by have := O3.out.o1; have := O3.out.o2; omega))).wide (Nat.le_refl _) (by rw [hsize]; exact Nat.le_refl _), SEP.out, hbel⟩
  · have s0 := cells_at g0 0
    have s1 := cells_at g0 1
    have s2 := cells_at g0 2
    have s3 := cells_at g0 3
    have s4 := cells_at g0 4
    have s5 := cells_at g0 5
    have s6 := cells_at g0 6
    simp at s0 s1 s2 s3 s4 s5 s6
    have HST := hide (self_asc HR.out.symm)
    have HMG := hide (merged_any (.slice a4 ps.length a4c) (.slice l5 ts.length c5) ps ts hi w3 (HX.out.below B3 hhi).store (HL.out.below B3 hhi) (by have := B3.size; omega) (by unfold totS at ht; omega) HST.out)
    have hSL := hide (show learnS x ps ts = (fsts ts).foldl instD (fsts ps) by unfold learnS; rw [← HR.out]; rfl)
    have hSN := hide (show learnN x ps ts = newsD (fsts ps) (fsts ts) by unfold learnN; rw [← HR.out]; rfl)
    have G1 := hide g1
    have GZ := hide gz
    clear g0 g1 gz
    go_wp2_with fail
    refine HMG.out.mono ?_
    rintro e w4 ⟨k4v, n4v, ks, ns, rfl, fk, fn, ok, on, sep, b4⟩
    obtain ⟨k4, k4c, rfl⟩ := owns_lenS ok.row
    obtain ⟨n4, n4c, rfl⟩ := owns_lenS on.row
    have B4 : Below w.heap.size w w4 := B3.trans (b4.mono B3.size)
    have g1 := (b4.block _ (lt_of_heap G1.out)).trans G1.out
    have gz := (b4.block _ (lt_of_heap GZ.out)).trans GZ.out
    have hs34 := b4.size
    clear s0 s1 s2 s3 s4 s5 s6
    have r0 := cells_at g1 0
    have r1 := cells_at g1 1
    have r2 := cells_at g1 2
    have r3 := cells_at g1 3
    have r4 := cells_at g1 4
    have r5 := cells_at g1 5
    have r6 := cells_at g1 6
    simp at r0 r1 r2 r3 r4 r5 r6
    have t0 := cells_at gz 0
    have t1 := cells_at gz 1
    have t2 := cells_at gz 2
    have t3 := cells_at gz 3
    have t4 := cells_at gz 4
    have t5 := cells_at gz 5
    have t6 := cells_at gz 6
    simp at t0 t1 t2 t3 t4 t5 t6
    have fz0x := frozen_at g1 0
    have fz1x := frozen_at g1 1
    have fz2x := frozen_at g1 2
    have fz3x := frozen_at g1 3
    have fz4x := frozen_at g1 4
    have fz5x := frozen_at g1 5
    have fz6x := frozen_at g1 6
    have fzz := frozen_at gz 6
    have hlz : w.heap.size + 1 < w4.heap.size := lt_of_heap g1
    have hlz2 : z < w4.heap.size := lt_of_heap gz
    have hzne : ¬ z = w.heap.size + 1 := by rw [HZZ.out]; omega
    have hzne2 : ¬ w.heap.size + 1 = z := by rw [HZZ.out]; omega
    have OW := hide (show SelfOwn w4 w0.heap.size w4.heap.size (.slice y1 x.net.ls.length y1c) (.slice y2 x.net.ts.length y2c) (.slice y3 x.heard.length y3c) (.slice k4 ks.length k4c) x ks m1 w3.heap.size from by
      have h := O3.out.below b4 (by omega)
      exact { o1 := h.o1, o2 := by have := h.o2; have := h.o3; omega, o3 := hs34, links := h.links, ltop := h.ltop, things := h.things, ttop := h.ttop, heard := h.heard.wide (Nat.le_refl _) (by have := h.o3; omega), store := ok })
    have ZLT := hide (show z < w1.heap.size + 1 ∧ w1.heap.size ≤ z by rw [HZZ.out]; omega)
    have ON := hide on
    have FK := hide fk
    have FN := hide fn
    have SEP := hide sep
    have LTZ := hide (show (∀ k, (Value.slice y1 x.net.ls.length y1c).ownBlock = some k → k ≠ z) ∧ (∀ k, (Value.slice y2 x.net.ts.length y2c).ownBlock = some k → k ≠ z) ∧ (∀ k, (Value.slice y3 x.heard.length y3c).ownBlock = some k → k ≠ z) from by
      have h := O3.out
      have h3 := h.o3
      have h2 := h.o2
      refine ⟨fun k e => ?_, fun k e => ?_, fun k e => ?_⟩
      · have := h.ltop k e; rw [HZZ.out]; omega
      · have := h.ttop k e; rw [HZZ.out]; omega
      · have := h.heard.top k e; rw [HZZ.out]; omega)
    have G1B := hide g1
    clear g1 gz fk fn ok on sep b4 G1 GZ HMG
    go_wp2
    have hfin : ((((((((w4.setCell ⟨z, 6, none⟩ (.slice k4 ks.length k4c)).setCell ⟨w.heap.size + 1, 0, none⟩ (.int .i64 x.id)).setCell ⟨w.heap.size + 1, 1, none⟩ (.int .i64 x.boot)).setCell ⟨w.heap.size + 1, 2, none⟩ (.int .i64 x.net.n)).setCell ⟨w.heap.size + 1, 3, none⟩ (.slice y1 x.net.ls.length y1c)).setCell ⟨w.heap.size + 1, 4, none⟩ (.slice y2 x.net.ts.length y2c)).setCell ⟨w.heap.size + 1, 5, none⟩ (.slice y3 x.heard.length y3c)).setCell ⟨w.heap.size + 1, 6, none⟩ (.slice k4 ks.length k4c)).heap[w.heap.size + 1]? = some (.cells #[.int .i64 x.id, .int .i64 x.boot, .int .i64 x.net.n, .slice y1 x.net.ls.length y1c, .slice y2 x.net.ts.length y2c, .slice y3 x.heard.length y3c, .slice k4 ks.length k4c] 31) := by
      have kk0 : (w4.setCell ⟨z, 6, none⟩ (.slice k4 ks.length k4c)).heap[w.heap.size + 1]? = some (.cells #[.int .i64 0, .int .i64 0, .int .i64 0, .slice none 0 0, .slice none 0 0, .slice none 0 0, .slice none 0 0] 31) := by
        rw [heap_setCell_other _ ⟨z, 6, none⟩ _ _ (by show w.heap.size + 1 ≠ z; exact hzne2)]
        exact G1B.out
      have kk1 := heap_setCell_same _ _ 0 _ _ (.int .i64 x.id) kk0
      have kk2 := heap_setCell_same _ _ 1 _ _ (.int .i64 x.boot) kk1
      have kk3 := heap_setCell_same _ _ 2 _ _ (.int .i64 x.net.n) kk2
      have kk4 := heap_setCell_same _ _ 3 _ _ (.slice y1 x.net.ls.length y1c) kk3
      have kk5 := heap_setCell_same _ _ 4 _ _ (.slice y2 x.net.ts.length y2c) kk4
      have kk6 := heap_setCell_same _ _ 5 _ _ (.slice y3 x.heard.length y3c) kk5
      have kk7 := heap_setCell_same _ _ 6 _ _ (.slice k4 ks.length k4c) kk6
      exact kk7
    have hkeep : ∀ k, w.heap.size + 2 ≤ k → k ≠ z → ((((((((w4.setCell ⟨z, 6, none⟩ (.slice k4 ks.length k4c)).setCell ⟨w.heap.size + 1, 0, none⟩ (.int .i64 x.id)).setCell ⟨w.heap.size + 1, 1, none⟩ (.int .i64 x.boot)).setCell ⟨w.heap.size + 1, 2, none⟩ (.int .i64 x.net.n)).setCell ⟨w.heap.size + 1, 3, none⟩ (.slice y1 x.net.ls.length y1c)).setCell ⟨w.heap.size + 1, 4, none⟩ (.slice y2 x.net.ts.length y2c)).setCell ⟨w.heap.size + 1, 5, none⟩ (.slice y3 x.heard.length y3c)).setCell ⟨w.heap.size + 1, 6, none⟩ (.slice k4 ks.length k4c)).heap[k]? = w4.heap[k]? := fun k hk hk3 => by
      rw [heap_setCell_other _ ⟨w.heap.size + 1, 6, none⟩ _ _ (by show k ≠ w.heap.size + 1; omega), heap_setCell_other _ ⟨w.heap.size + 1, 5, none⟩ _ _ (by show k ≠ w.heap.size + 1; omega), heap_setCell_other _ ⟨w.heap.size + 1, 4, none⟩ _ _ (by show k ≠ w.heap.size + 1; omega), heap_setCell_other _ ⟨w.heap.size + 1, 3, none⟩ _ _ (by show k ≠ w.heap.size + 1; omega), heap_setCell_other _ ⟨w.heap.size + 1, 2, none⟩ _ _ (by show k ≠ w.heap.size + 1; omega), heap_setCell_other _ ⟨w.heap.size + 1, 1, none⟩ _ _ (by show k ≠ w.heap.size + 1; omega), heap_setCell_other _ ⟨w.heap.size + 1, 0, none⟩ _ _ (by show k ≠ w.heap.size + 1; omega), heap_setCell_other _ ⟨z, 6, none⟩ _ _ (by show k ≠ z; exact hk3)]
    have hsize : ((((((((w4.setCell ⟨z, 6, none⟩ (.slice k4 ks.length k4c)).setCell ⟨w.heap.size + 1, 0, none⟩ (.int .i64 x.id)).setCell ⟨w.heap.size + 1, 1, none⟩ (.int .i64 x.boot)).setCell ⟨w.heap.size + 1, 2, none⟩ (.int .i64 x.net.n)).setCell ⟨w.heap.size + 1, 3, none⟩ (.slice y1 x.net.ls.length y1c)).setCell ⟨w.heap.size + 1, 4, none⟩ (.slice y2 x.net.ts.length y2c)).setCell ⟨w.heap.size + 1, 5, none⟩ (.slice y3 x.heard.length y3c)).setCell ⟨w.heap.size + 1, 6, none⟩ (.slice k4 ks.length k4c)).heap.size = w4.heap.size := by simp
    have hbel : Below w.heap.size w ((((((((w4.setCell ⟨z, 6, none⟩ (.slice k4 ks.length k4c)).setCell ⟨w.heap.size + 1, 0, none⟩ (.int .i64 x.id)).setCell ⟨w.heap.size + 1, 1, none⟩ (.int .i64 x.boot)).setCell ⟨w.heap.size + 1, 2, none⟩ (.int .i64 x.net.n)).setCell ⟨w.heap.size + 1, 3, none⟩ (.slice y1 x.net.ls.length y1c)).setCell ⟨w.heap.size + 1, 4, none⟩ (.slice y2 x.net.ts.length y2c)).setCell ⟨w.heap.size + 1, 5, none⟩ (.slice y3 x.heard.length y3c)).setCell ⟨w.heap.size + 1, 6, none⟩ (.slice k4 ks.length k4c)) := ((((((((B4.setCell (by show w.heap.size ≤ z; rw [HZZ.out]; omega) _).setCell (by show w.heap.size ≤ w.heap.size + 1; omega) _).setCell (by show w.heap.size ≤ w.heap.size + 1; omega) _).setCell (by show w.heap.size ≤ w.heap.size + 1; omega) _).setCell (by show w.heap.size ≤ w.heap.size + 1; omega) _).setCell (by show w.heap.size ≤ w.heap.size + 1; omega) _).setCell (by show w.heap.size ≤ w.heap.size + 1; omega) _).setCell (by show w.heap.size ≤ w.heap.size + 1; omega) _)
    try simp only [Exit.inBlock, Exit.then]
    refine bodyPost_ret (results_cell_row_tmp5 rfl _ _ (w.heap.size + 1) 31 #[.int .i64 x.id, .int .i64 x.boot, .int .i64 x.net.n, .slice y1 x.net.ls.length y1c, .slice y2 x.net.ts.length y2c, .slice y3 x.heard.length y3c, .slice k4 ks.length k4c] (0, 0) _ rfl hfin Tryz.underlying31 rfl (by kernel_rfl)) rfl ?_
    have zlt := ZLT.out
    have fin1 : SelfOwn ((((((((w4.setCell ⟨z, 6, none⟩ (.slice k4 ks.length k4c)).setCell ⟨w.heap.size + 1, 0, none⟩ (.int .i64 x.id)).setCell ⟨w.heap.size + 1, 1, none⟩ (.int .i64 x.boot)).setCell ⟨w.heap.size + 1, 2, none⟩ (.int .i64 x.net.n)).setCell ⟨w.heap.size + 1, 3, none⟩ (.slice y1 x.net.ls.length y1c)).setCell ⟨w.heap.size + 1, 4, none⟩ (.slice y2 x.net.ts.length y2c)).setCell ⟨w.heap.size + 1, 5, none⟩ (.slice y3 x.heard.length y3c)).setCell ⟨w.heap.size + 1, 6, none⟩ (.slice k4 ks.length k4c)) w0.heap.size w4.heap.size (.slice y1 x.net.ls.length y1c) (.slice y2 x.net.ts.length y2c) (.slice y3 x.heard.length y3c) (.slice k4 ks.length k4c) x ks m1 w3.heap.size := by
      have h := OW.out
      exact ⟨h.o1, h.o2, h.o3, owns_keepB h.links (fun k e => hkeep k (by have := (h.links.lt k e).1; omega) (LTZ.out.1 k e)), h.ltop, owns_keepB h.things (fun k e => hkeep k (by have := (h.things.lt k e).1; omega) (LTZ.out.2.1 k e)), h.ttop, ⟨owns_keepB h.heard.row (fun k e => hkeep k (by have := (h.heard.row.lt k e).1; have := h.o1; omega) (LTZ.out.2.2 k e)), h.heard.top⟩, h.store.keep (fun k h1 _ _ => hkeep k (by omega) (by omega))⟩
    exact ⟨_, _, _, _, _, ks, ns, m1, w3.heap.size, rfl, by rw [FK.out, hSL.out], by rw [FN.out, hSN.out], (fin1.low (by omega)).high (by rw [hsize]; omega), (ON.out.keep (fun k h1 _ _ => hkeep k (by omega) (by omega))).wide (Nat.le_refl _) (by rw [hsize]; omega), SEP.out, hbel⟩
end Go.Proofs.YtcimbiinljcifaaGreat
