/-
  laws.FnExactSameBody: its walk.
-/
import Derived.Test.YtohjphhocdgpgaaRecB
import Derived.Test.YtohjphhocdgpgaaIBody
import Derived.Deep.RegionHeld3
namespace Go.Proofs.Ytohjphhocdgpgaa
open Go.RowKit

set_option linter.unusedVariables false

theorem szR2_ok {n m : Nat} (h : ¬ szR 1048576 n < 0) (h2 : ¬ szR (szR 1048576 n) m < 0) : n ≤ 1048576 ∧ m ≤ 1048576 ∧ 0 ≤ szR 1048576 n ∧ szR 1048576 n ≤ 1048576 := by
  unfold szR at *
  split at h
  · omega
  · rename_i h3
    rw [if_neg h3] at h2 ⊢
    split at h2 <;> omega

theorem szR_le {n : Nat} (h : ¬ szR 1048576 n < 0) : szR 1048576 n ≤ 1048576 := by
  unfold szR at *
  split at h
  · omega
  · rename_i h3
    rw [if_neg h3]; omega

set_option maxRecDepth 100000 in
set_option maxHeartbeats 4000000 in
theorem fnExactSameBody_walk (va : Value) (x : RecD) (vb : Value) (y : RecD) (w : World) (hx : RecAt w va x w.heap.size ∧ x.near.length ≤ maxLen) (hy : RecAt w vb y w.heap.size ∧ y.near.length ≤ maxLen) :
    Calls Try.prog 6 #[va, vb] w fun e w' => e = .returned (.bool true) ∧ Below w.heap.size w w' := by
  obtain ⟨hx, hl⟩ := hx
  obtain ⟨hy, hm⟩ := hy
  have hl' : (x.near.length : Int) ≤ 9223372036854775807 := by have : maxLen = 9223372036854775807 := rfl; omega
  have hm' : (y.near.length : Int) ≤ 9223372036854775807 := by have : maxLen = 9223372036854775807 := rfl; omega
  have HX := hide hx
  have HY := hide hy
  obtain ⟨v1, rfl, h1⟩ := hx
  obtain ⟨a1, c1, rfl⟩ := h1.shape
  obtain ⟨v2, rfl, h2⟩ := hy
  obtain ⟨a2, c2, rfl⟩ := h2.shape
  have HSZ := hide (szRecord_any x a1 x.near.length c1 1048576)
  obtain ⟨qa, hqa⟩ : ∃ q, q = szR 1048576 x.near.length := ⟨_, rfl⟩
  have HSY := hide (szRecord_any y a2 y.near.length c2 qa)
  obtain ⟨qb, hqb⟩ : ∃ q, q = szR qa y.near.length := ⟨_, rfl⟩
  rw [← hqa] at HSZ
  rw [← hqb] at HSY
  have HTX := hide (toRecord_any (.agg (recC x (.slice a1 x.near.length c1))) x)
  have HTY := hide (toRecord_any (.agg (recC y (.slice a2 y.near.length c2))) y)
  have HEX := hide (fun u => eqRecord_any (.agg (recC x u)))
  have HEY := hide (fun u => eqRecord_any (.agg (recC y u)))
  have HSP := hide (fun u1 u2 W (h1 : RecAt W (.agg (recC x u1)) x W.heap.size) (h2 : RecAt W (.agg (recC y u2)) y W.heap.size) (hl : x.near.length ≤ 1048576) (hm : y.near.length ≤ 1048576) => ssameBody_any _ _ x y W h1 h2 hl (by omega))
  have HIM := hide (fun u1 u2 W (h1 : RecAt W (.agg (recC x u1)) x W.heap.size) (h2 : RecAt W (.agg (recC y u2)) y W.heap.size) (hl : x.near.length ≤ 1048576) (hm : y.near.length ≤ 1048576) => isameBody_any _ _ x y W h1 h2 hl (by omega))
  obtain ⟨R, hR⟩ : ∃ R, R = sameBodyB x y := ⟨_, rfl⟩
  rw [← hR] at HSP HIM
  have HQA := hide hqa
  have HQB := hide hqb
  clear h1 h2 hl hm hR hqa hqb
  unfold recC at *
  go_enter Try.func6, Try.ntmps6
  go_wp2_with fail
  refine (HSZ.out _ hl' (by omega) (by omega)).mono ?_
  rintro e w1 ⟨rfl, b1⟩
  have g1 : w1.heap[w.heap.size]? = some (.cells #[.int .i64 x.area, .int .i64 x.kind, .int .i64 x.owner, .int .i64 x.key, .int .i64 x.seq, .slice a1 x.near.length c1, .int .i64 x.cost, .bool x.far] 39) := by rw [b1.block _ (by simp; omega), Below.heap_alloc _ _ _ (by simp)]; exact heap_alloc_new w _
  have m1 : w1.heap[w.heap.size + 1]? = some (.cells #[.int .i64 y.area, .int .i64 y.kind, .int .i64 y.owner, .int .i64 y.key, .int .i64 y.seq, .slice a2 y.near.length c2, .int .i64 y.cost, .bool y.far] 39) := by
    rw [b1.block _ (by simp)]
    have := heap_alloc_new (w.alloc (.cells #[.int .i64 x.area, .int .i64 x.kind, .int .i64 x.owner, .int .i64 x.key, .int .i64 x.seq, .slice a1 x.near.length c1, .int .i64 x.cost, .bool x.far] 39)) (.cells #[.int .i64 y.area, .int .i64 y.kind, .int .i64 y.owner, .int .i64 y.key, .int .i64 y.seq, .slice a2 y.near.length c2, .int .i64 y.cost, .bool y.far] 39)
    simpa using this
  have B1 : Below w.heap.size w w1 := (below_two _ _).trans (b1.mono (by simp; omega))
  clear b1
  by_cases hna : qa < 0
  · go_wp2
    go_ret
    exact ⟨rfl, B1⟩
  have hqa0 : 0 ≤ qa := by omega
  have hqa1 : qa ≤ 1048576 := by
    have := HQA.out
    rw [this]
    exact szR_le (by rw [← this]; omega)
  have G1 := hide g1
  have M1 := hide m1
  have t0 := cells_at m1 0
  have t1 := cells_at m1 1
  have t2 := cells_at m1 2
  have t3 := cells_at m1 3
  have t4 := cells_at m1 4
  have t5 := cells_at m1 5
  have t6 := cells_at m1 6
  have t7 := cells_at m1 7
  simp at t0 t1 t2 t3 t4 t5 t6 t7
  clear g1 m1
  go_wp2_with fail
  refine (HSY.out _ hm' hqa0 hqa1).mono ?_
  rintro e w2 ⟨rfl, b2⟩
  have g2 : w2.heap[w.heap.size]? = some (.cells #[.int .i64 x.area, .int .i64 x.kind, .int .i64 x.owner, .int .i64 x.key, .int .i64 x.seq, .slice a1 x.near.length c1, .int .i64 x.cost, .bool x.far] 39) := (b2.block _ (lt_of_heap G1.out)).trans G1.out
  have m2 : w2.heap[w.heap.size + 1]? = some (.cells #[.int .i64 y.area, .int .i64 y.kind, .int .i64 y.owner, .int .i64 y.key, .int .i64 y.seq, .slice a2 y.near.length c2, .int .i64 y.cost, .bool y.far] 39) := (b2.block _ (lt_of_heap M1.out)).trans M1.out
  have B2 : Below w.heap.size w w2 := B1.trans (b2.mono B1.size)
  clear b2 G1 M1 t0 t1 t2 t3 t4 t5 t6 t7 B1
  by_cases hnb : qb < 0
  · go_wp2
    go_ret
    exact ⟨rfl, B2⟩
  obtain ⟨hl2, hm2, _⟩ := szR2_ok (n := x.near.length) (m := y.near.length) (by rw [← HQA.out]; omega) (by rw [← HQA.out, ← HQB.out]; omega)
  have HL2 := hide hl2
  have HM2 := hide hm2
  clear hl2 hm2 HQA HQB HSZ HSY hqa0 hqa1
  have s0 := cells_at g2 0
  have s1 := cells_at g2 1
  have s2 := cells_at g2 2
  have s3 := cells_at g2 3
  have s4 := cells_at g2 4
  have s5 := cells_at g2 5
  have s6 := cells_at g2 6
  have s7 := cells_at g2 7
  simp at s0 s1 s2 s3 s4 s5 s6 s7
  have t0 := cells_at m2 0
  have t1 := cells_at m2 1
  have t2 := cells_at m2 2
  have t3 := cells_at m2 3
  have t4 := cells_at m2 4
  have t5 := cells_at m2 5
  have t6 := cells_at m2 6
  have t7 := cells_at m2 7
  simp at t0 t1 t2 t3 t4 t5 t6 t7
  have G2 := hide g2
  have M2 := hide m2
  have hz0 := lt_of_heap g2
  have hz1 := lt_of_heap m2
  have X2 := hide ((HX.out.then B2).then (Below.refl w2.heap.size w2).drew)
  have Y2 := hide ((HY.out.then B2).then (Below.refl w2.heap.size w2).drew)
  clear g2 m2
  go_wp2
  go_region_held3 (fun W => W.cell? ⟨w.heap.size, 0, none⟩ = some (.int .i64 x.area) ∧ W.cell? ⟨w.heap.size, 1, none⟩ = some (.int .i64 x.kind) ∧ W.cell? ⟨w.heap.size, 2, none⟩ = some (.int .i64 x.owner) ∧ W.cell? ⟨w.heap.size, 3, none⟩ = some (.int .i64 x.key) ∧ W.cell? ⟨w.heap.size, 4, none⟩ = some (.int .i64 x.seq) ∧ W.cell? ⟨w.heap.size, 5, none⟩ = some (.slice a1 x.near.length c1) ∧ W.cell? ⟨w.heap.size, 6, none⟩ = some (.int .i64 x.cost) ∧ W.cell? ⟨w.heap.size, 7, none⟩ = some (.bool x.far) ∧ W.cell? ⟨w.heap.size + 1, 0, none⟩ = some (.int .i64 y.area) ∧ W.cell? ⟨w.heap.size + 1, 1, none⟩ = some (.int .i64 y.kind) ∧ W.cell? ⟨w.heap.size + 1, 2, none⟩ = some (.int .i64 y.owner) ∧ W.cell? ⟨w.heap.size + 1, 3, none⟩ = some (.int .i64 y.key) ∧ W.cell? ⟨w.heap.size + 1, 4, none⟩ = some (.int .i64 y.seq) ∧ W.cell? ⟨w.heap.size + 1, 5, none⟩ = some (.slice a2 y.near.length c2) ∧ W.cell? ⟨w.heap.size + 1, 6, none⟩ = some (.int .i64 y.cost) ∧ W.cell? ⟨w.heap.size + 1, 7, none⟩ = some (.bool y.far)) (first | go_keep | (refine ⟨?_, ?_, ?_, ?_, ?_, ?_, ?_, ?_, ?_, ?_, ?_, ?_, ?_, ?_, ?_, ?_⟩ <;> (refine Eq.trans (Below.cell (B := w2.heap.size) (w := w2.drew) ?_ ?_) ?_ <;> first | assumption | (go_grown; done)))) (first | (go_at_call 32; have hb := b3; refine (HTY.out _ HM2.out (Y2.out.then b3)).mono ?_; rintro e w4 ⟨r2, rfl, o2, b4⟩; have D4 : Below w2.heap.size w2.drew w4 := D3.trans (b4.mono D3.size)) | (go_at_call 32; refine (HTX.out _ HL2.out X2.out).mono ?_; rintro e w3 ⟨r1, rfl, o1, b3⟩; have D3 : Below w2.heap.size w2.drew w3 := b3) | (go_at_call 28; refine (HSP.out r1 r2 w4 (recAt_of (owns_below o1 b4 (Nat.le_refl _))) (recAt_of o2) HL2.out HM2.out).mono ?_; rintro e w5 ⟨rfl, b5⟩; have D5 : Below w2.heap.size w2.drew w5 := D4.trans (b5.mono D4.size)))
  have B5 : Below w.heap.size w w5 := B2.drew.trans (D5.mono B2.size)
  have g5 : w5.heap[w.heap.size]? = some (.cells #[.int .i64 x.area, .int .i64 x.kind, .int .i64 x.owner, .int .i64 x.key, .int .i64 x.seq, .slice a1 x.near.length c1, .int .i64 x.cost, .bool x.far] 39) := (D5.block _ hz0).trans G2.out
  have m5 : w5.heap[w.heap.size + 1]? = some (.cells #[.int .i64 y.area, .int .i64 y.kind, .int .i64 y.owner, .int .i64 y.key, .int .i64 y.seq, .slice a2 y.near.length c2, .int .i64 y.cost, .bool y.far] 39) := (D5.block _ hz1).trans M2.out
  clear s0 s1 s2 s3 s4 s5 s6 s7 t0 t1 t2 t3 t4 t5 t6 t7 o1 o2 hb b3 b4 b5 D3 D4 D5 G2 M2 X2 Y2 B2 hz0 hz1
  have s0 := cells_at g5 0
  have s1 := cells_at g5 1
  have s2 := cells_at g5 2
  have s3 := cells_at g5 3
  have s4 := cells_at g5 4
  have s5 := cells_at g5 5
  have s6 := cells_at g5 6
  have s7 := cells_at g5 7
  simp at s0 s1 s2 s3 s4 s5 s6 s7
  go_wp2_with fail
  refine (HTX.out _ HL2.out (HX.out.then B5)).mono ?_
  rintro e w6 ⟨y1, rfl, o1, b6⟩
  obtain ⟨e1, d1, rfl⟩ := NearsAt.shape (owns_rowAt o1)
  have B6 : Below w.heap.size w w6 := B5.trans (b6.mono B5.size)
  have g6 : w6.heap[w.heap.size]? = some (.cells #[.int .i64 x.area, .int .i64 x.kind, .int .i64 x.owner, .int .i64 x.key, .int .i64 x.seq, .slice a1 x.near.length c1, .int .i64 x.cost, .bool x.far] 39) := (b6.block _ (lt_of_heap g5)).trans g5
  have m6 : w6.heap[w.heap.size + 1]? = some (.cells #[.int .i64 y.area, .int .i64 y.kind, .int .i64 y.owner, .int .i64 y.key, .int .i64 y.seq, .slice a2 y.near.length c2, .int .i64 y.cost, .bool y.far] 39) := (b6.block _ (lt_of_heap m5)).trans m5
  have NEW := hide (heap_alloc_new w6 (.cells #[.int .i64 x.area, .int .i64 x.kind, .int .i64 x.owner, .int .i64 x.key, .int .i64 x.seq, .slice e1 x.near.length d1, .int .i64 x.cost, .bool x.far] 26))
  have O1 := hide (o1.alloc (.cells #[.int .i64 x.area, .int .i64 x.kind, .int .i64 x.owner, .int .i64 x.key, .int .i64 x.seq, .slice e1 x.near.length d1, .int .i64 x.cost, .bool x.far] 26))
  have G6 := hide g6
  have M6 := hide m6
  have hzg := lt_of_heap g6
  have hzm := lt_of_heap m6
  have tt6 : (w6.alloc (.cells #[.int .i64 x.area, .int .i64 x.kind, .int .i64 x.owner, .int .i64 x.key, .int .i64 x.seq, .slice e1 x.near.length d1, .int .i64 x.cost, .bool x.far] 26)).heap[w.heap.size + 1]? = _ := (Below.heap_alloc _ _ _ hzm).trans m6
  have t0 := cells_at tt6 0
  have t1 := cells_at tt6 1
  have t2 := cells_at tt6 2
  have t3 := cells_at tt6 3
  have t4 := cells_at tt6 4
  have t5 := cells_at tt6 5
  have t6 := cells_at tt6 6
  have t7 := cells_at tt6 7
  simp at t0 t1 t2 t3 t4 t5 t6 t7
  have h6 := B6.size
  clear s0 s1 s2 s3 s4 s5 s6 s7 g5 m5 g6 m6 b6 o1 tt6 B5
  unfold recC at *
  go_wp2_with fail
  refine (HTY.out _ HM2.out (HY.out.then (B6.alloc B6.size _))).mono ?_
  rintro e w7 ⟨y2, rfl, o2, b7⟩
  obtain ⟨e2, d2, rfl⟩ := NearsAt.shape (owns_rowAt o2)
  have B7 : Below w.heap.size w w7 := (B6.alloc B6.size _).trans (b7.mono (by simp; omega))
  have g7 : w7.heap[w.heap.size]? = some (.cells #[.int .i64 x.area, .int .i64 x.kind, .int .i64 x.owner, .int .i64 x.key, .int .i64 x.seq, .slice a1 x.near.length c1, .int .i64 x.cost, .bool x.far] 39) := (b7.block _ (by simp; omega)).trans ((Below.heap_alloc _ _ _ hzg).trans G6.out)
  have m7 : w7.heap[w.heap.size + 1]? = some (.cells #[.int .i64 y.area, .int .i64 y.kind, .int .i64 y.owner, .int .i64 y.key, .int .i64 y.seq, .slice a2 y.near.length c2, .int .i64 y.cost, .bool y.far] 39) := (b7.block _ (by simp; omega)).trans ((Below.heap_alloc _ _ _ hzm).trans M6.out)
  have n7 : w7.heap[w6.heap.size]? = some (.cells #[.int .i64 x.area, .int .i64 x.kind, .int .i64 x.owner, .int .i64 x.key, .int .i64 x.seq, .slice e1 x.near.length d1, .int .i64 x.cost, .bool x.far] 26) := (b7.block _ (by simp)).trans NEW.out
  have P1 := owns_below O1.out b7 (Nat.le_refl _)
  obtain ⟨z, hz⟩ : ∃ z, z = w6.heap.size := ⟨_, rfl⟩
  have hzg' : w.heap.size < z := by rw [hz]; exact hzg
  have hzm' : w.heap.size + 1 < z := by rw [hz]; exact hzm
  rw [← hz] at n7 ⊢
  clear t0 t1 t2 t3 t4 t5 t6 t7 b7 O1 NEW G6 M6 hz hzg hzm h6 B6
  have NEW2 := hide (heap_alloc_new w7 (.cells #[.int .i64 y.area, .int .i64 y.kind, .int .i64 y.owner, .int .i64 y.key, .int .i64 y.seq, .slice e2 y.near.length d2, .int .i64 y.cost, .bool y.far] 26))
  have O1 := hide (owns_rowAt (P1.alloc (.cells #[.int .i64 y.area, .int .i64 y.kind, .int .i64 y.owner, .int .i64 y.key, .int .i64 y.seq, .slice e2 y.near.length d2, .int .i64 y.cost, .bool y.far] 26)))
  have O2 := hide (owns_rowAt (o2.alloc (.cells #[.int .i64 y.area, .int .i64 y.kind, .int .i64 y.owner, .int .i64 y.key, .int .i64 y.seq, .slice e2 y.near.length d2, .int .i64 y.cost, .bool y.far] 26)))
  have hzn := lt_of_heap n7
  have n8 : (w7.alloc (.cells #[.int .i64 y.area, .int .i64 y.kind, .int .i64 y.owner, .int .i64 y.key, .int .i64 y.seq, .slice e2 y.near.length d2, .int .i64 y.cost, .bool y.far] 26)).heap[z]? = _ := (Below.heap_alloc _ _ _ hzn).trans n7
  have s0 := cells_at n8 0
  have s1 := cells_at n8 1
  have s2 := cells_at n8 2
  have s3 := cells_at n8 3
  have s4 := cells_at n8 4
  have s5 := cells_at n8 5
  have s6 := cells_at n8 6
  have s7 := cells_at n8 7
  simp at s0 s1 s2 s3 s4 s5 s6 s7
  have h7 := B7.size
  have G7 := hide g7
  have M7 := hide m7
  have N7 := hide n7
  clear P1 o2 n8 g7 m7 n7
  unfold recC at *
  go_wp2_with fail
  refine (HIM.out _ _ _ ⟨_, rfl, O1.out⟩ ⟨_, rfl, O2.out⟩ HL2.out HM2.out).mono ?_
  rintro e w8 ⟨rfl, b8⟩
  have B8 : Below w.heap.size w w8 := (B7.alloc B7.size _).trans (b8.mono (by simp; omega))
  have g8 : w8.heap[w.heap.size]? = some (.cells #[.int .i64 x.area, .int .i64 x.kind, .int .i64 x.owner, .int .i64 x.key, .int .i64 x.seq, .slice a1 x.near.length c1, .int .i64 x.cost, .bool x.far] 39) := (b8.block _ (by simp; omega)).trans ((Below.heap_alloc _ _ _ (by omega)).trans G7.out)
  have m8 : w8.heap[w.heap.size + 1]? = some (.cells #[.int .i64 y.area, .int .i64 y.kind, .int .i64 y.owner, .int .i64 y.key, .int .i64 y.seq, .slice a2 y.near.length c2, .int .i64 y.cost, .bool y.far] 39) := (b8.block _ (by simp; omega)).trans ((Below.heap_alloc _ _ _ (by omega)).trans M7.out)
  have n8 : w8.heap[z]? = some (.cells #[.int .i64 x.area, .int .i64 x.kind, .int .i64 x.owner, .int .i64 x.key, .int .i64 x.seq, .slice e1 x.near.length d1, .int .i64 x.cost, .bool x.far] 26) := (b8.block _ (by simp; omega)).trans ((Below.heap_alloc _ _ _ hzn).trans N7.out)
  have l8 : w8.heap[w7.heap.size]? = some (.cells #[.int .i64 y.area, .int .i64 y.kind, .int .i64 y.owner, .int .i64 y.key, .int .i64 y.seq, .slice e2 y.near.length d2, .int .i64 y.cost, .bool y.far] 26) := (b8.block _ (by simp)).trans NEW2.out
  have N1 := hide (RowAt.then (RowAt.then O1.out b8) (Below.refl w8.heap.size w8).drew)
  have N2 := hide (RowAt.then O2.out b8)
  obtain ⟨u, hu⟩ : ∃ u, u = w7.heap.size := ⟨_, rfl⟩
  rw [← hu] at l8 ⊢
  clear s0 s1 s2 s3 s4 s5 s6 s7 b8 NEW2 O1 O2 G7 M7 N7 hzn h7 B7 hu HSP HIM
  have s0 := cells_at g8 0
  have s1 := cells_at g8 1
  have s2 := cells_at g8 2
  have s3 := cells_at g8 3
  have s4 := cells_at g8 4
  have s5 := cells_at g8 5
  have s6 := cells_at g8 6
  have s7 := cells_at g8 7
  simp at s0 s1 s2 s3 s4 s5 s6 s7
  have t0 := cells_at n8 0
  have t1 := cells_at n8 1
  have t2 := cells_at n8 2
  have t3 := cells_at n8 3
  have t4 := cells_at n8 4
  have t5 := cells_at n8 5
  have t6 := cells_at n8 6
  have t7 := cells_at n8 7
  simp at t0 t1 t2 t3 t4 t5 t6 t7
  have hzz := lt_of_heap n8
  have hww := lt_of_heap g8
  have XD := hide ((HX.out.then B8).then (Below.refl w8.heap.size w8).drew)
  clear g8 n8
  go_wp2
  go_region_held3 (fun W => W.cell? ⟨z, 0, none⟩ = some (.int .i64 x.area) ∧ W.cell? ⟨z, 1, none⟩ = some (.int .i64 x.kind) ∧ W.cell? ⟨z, 2, none⟩ = some (.int .i64 x.owner) ∧ W.cell? ⟨z, 3, none⟩ = some (.int .i64 x.key) ∧ W.cell? ⟨z, 4, none⟩ = some (.int .i64 x.seq) ∧ W.cell? ⟨z, 5, none⟩ = some (.slice e1 x.near.length d1) ∧ W.cell? ⟨z, 6, none⟩ = some (.int .i64 x.cost) ∧ W.cell? ⟨z, 7, none⟩ = some (.bool x.far) ∧ W.cell? ⟨w.heap.size, 0, none⟩ = some (.int .i64 x.area) ∧ W.cell? ⟨w.heap.size, 1, none⟩ = some (.int .i64 x.kind) ∧ W.cell? ⟨w.heap.size, 2, none⟩ = some (.int .i64 x.owner) ∧ W.cell? ⟨w.heap.size, 3, none⟩ = some (.int .i64 x.key) ∧ W.cell? ⟨w.heap.size, 4, none⟩ = some (.int .i64 x.seq) ∧ W.cell? ⟨w.heap.size, 5, none⟩ = some (.slice a1 x.near.length c1) ∧ W.cell? ⟨w.heap.size, 6, none⟩ = some (.int .i64 x.cost) ∧ W.cell? ⟨w.heap.size, 7, none⟩ = some (.bool x.far)) (first | go_keep | (refine ⟨?_, ?_, ?_, ?_, ?_, ?_, ?_, ?_, ?_, ?_, ?_, ?_, ?_, ?_, ?_, ?_⟩ <;> (refine Eq.trans (Below.cell (B := w8.heap.size) (w := w8.drew) ?_ ?_) ?_ <;> first | assumption | (go_grown; done)))) (first | (go_at_call 32; refine (HTX.out _ HL2.out XD.out).mono ?_; rintro e w9 ⟨y1, rfl, o1, b9⟩; have D9 : Below w8.heap.size w8.drew w9 := b9) | (go_at_call 33; refine (HEX.out _ _ x x _ ⟨_, rfl, RowAt.then N1.out b9⟩ (recAt_of o1) HL2.out).mono ?_; rintro e w10 ⟨rfl, b10⟩; have D10 : Below w8.heap.size w8.drew w10 := D9.trans (b10.mono D9.size)))
  have B10 : Below w.heap.size w w10 := B8.drew.trans (D10.mono B8.size)
  have m10 : w10.heap[w.heap.size + 1]? = some (.cells #[.int .i64 y.area, .int .i64 y.kind, .int .i64 y.owner, .int .i64 y.key, .int .i64 y.seq, .slice a2 y.near.length c2, .int .i64 y.cost, .bool y.far] 39) := (D10.block _ (lt_of_heap m8)).trans m8
  have l10 : w10.heap[u]? = some (.cells #[.int .i64 y.area, .int .i64 y.kind, .int .i64 y.owner, .int .i64 y.key, .int .i64 y.seq, .slice e2 y.near.length d2, .int .i64 y.cost, .bool y.far] 26) := (D10.block _ (lt_of_heap l8)).trans l8
  have N3 := hide (RowAt.then (RowAt.then (RowAt.then N2.out (Below.refl w8.heap.size w8).drew) D10) (Below.refl w10.heap.size w10).drew)
  clear s0 s1 s2 s3 s4 s5 s6 s7 t0 t1 t2 t3 t4 t5 t6 t7 m8 l8 N1 N2 XD D9 D10 b9 b10 o1 hzz hww B8
  have s0 := cells_at m10 0
  have s1 := cells_at m10 1
  have s2 := cells_at m10 2
  have s3 := cells_at m10 3
  have s4 := cells_at m10 4
  have s5 := cells_at m10 5
  have s6 := cells_at m10 6
  have s7 := cells_at m10 7
  simp at s0 s1 s2 s3 s4 s5 s6 s7
  have t0 := cells_at l10 0
  have t1 := cells_at l10 1
  have t2 := cells_at l10 2
  have t3 := cells_at l10 3
  have t4 := cells_at l10 4
  have t5 := cells_at l10 5
  have t6 := cells_at l10 6
  have t7 := cells_at l10 7
  simp at t0 t1 t2 t3 t4 t5 t6 t7
  have hzz := lt_of_heap l10
  have hww := lt_of_heap m10
  have YD := hide ((HY.out.then B10).then (Below.refl w10.heap.size w10).drew)
  clear m10 l10
  go_wp2
  go_region_held3 (fun W => W.cell? ⟨u, 0, none⟩ = some (.int .i64 y.area) ∧ W.cell? ⟨u, 1, none⟩ = some (.int .i64 y.kind) ∧ W.cell? ⟨u, 2, none⟩ = some (.int .i64 y.owner) ∧ W.cell? ⟨u, 3, none⟩ = some (.int .i64 y.key) ∧ W.cell? ⟨u, 4, none⟩ = some (.int .i64 y.seq) ∧ W.cell? ⟨u, 5, none⟩ = some (.slice e2 y.near.length d2) ∧ W.cell? ⟨u, 6, none⟩ = some (.int .i64 y.cost) ∧ W.cell? ⟨u, 7, none⟩ = some (.bool y.far) ∧ W.cell? ⟨w.heap.size + 1, 0, none⟩ = some (.int .i64 y.area) ∧ W.cell? ⟨w.heap.size + 1, 1, none⟩ = some (.int .i64 y.kind) ∧ W.cell? ⟨w.heap.size + 1, 2, none⟩ = some (.int .i64 y.owner) ∧ W.cell? ⟨w.heap.size + 1, 3, none⟩ = some (.int .i64 y.key) ∧ W.cell? ⟨w.heap.size + 1, 4, none⟩ = some (.int .i64 y.seq) ∧ W.cell? ⟨w.heap.size + 1, 5, none⟩ = some (.slice a2 y.near.length c2) ∧ W.cell? ⟨w.heap.size + 1, 6, none⟩ = some (.int .i64 y.cost) ∧ W.cell? ⟨w.heap.size + 1, 7, none⟩ = some (.bool y.far)) (first | go_keep | (refine ⟨?_, ?_, ?_, ?_, ?_, ?_, ?_, ?_, ?_, ?_, ?_, ?_, ?_, ?_, ?_, ?_⟩ <;> (refine Eq.trans (Below.cell (B := w10.heap.size) (w := w10.drew) ?_ ?_) ?_ <;> first | assumption | (go_grown; done)))) (first | (go_at_call 32; refine (HTY.out _ HM2.out YD.out).mono ?_; rintro e w9 ⟨y1, rfl, o1, b9⟩; have D9 : Below w10.heap.size w10.drew w9 := b9) | (go_at_call 33; refine (HEY.out _ _ y y _ ⟨_, rfl, RowAt.then N3.out b9⟩ (recAt_of o1) HM2.out).mono ?_; rintro e w11 ⟨rfl, b11⟩; have D11 : Below w10.heap.size w10.drew w11 := D9.trans (b11.mono D9.size)))
  have B11 : Below w.heap.size w w11 := B10.drew.trans (D11.mono B10.size)
  go_wp2
  go_ret
  exact ⟨rfl, B11⟩
end Go.Proofs.Ytohjphhocdgpgaa
