/-
  laws.FnExactBetter: its walk.
-/
import Derived.Test.YtbmphbeocbgalaaBetterS
import Derived.Deep.RegionHeld3
namespace Go.Proofs.Ytbmphbeocbgalaa
open Go.RowKit

set_option linter.unusedVariables false

theorem szW2_ok {n m : Nat} (h : ¬ szW 1048576 n < 0) (h2 : ¬ szW (szW 1048576 n) m < 0) : n ≤ 1048576 ∧ m ≤ 1048576 ∧ 0 ≤ szW 1048576 n ∧ szW 1048576 n ≤ 1048576 := by
  unfold szW at *
  split at h
  · omega
  · rename_i h3
    rw [if_neg h3] at h2 ⊢
    split at h2 <;> omega

theorem szW_le {n : Nat} (h : ¬ szW 1048576 n < 0) : szW 1048576 n ≤ 1048576 := by
  unfold szW at *
  split at h
  · omega
  · rename_i h3
    rw [if_neg h3]; omega

set_option maxRecDepth 100000 in
set_option maxHeartbeats 4000000 in
theorem fnExactBetter_walk (va : Value) (x : WayD) (vb : Value) (y : WayD) (w : World) (hx : WayAt w va x w.heap.size ∧ x.hops.length ≤ maxLen) (hy : WayAt w vb y w.heap.size ∧ y.hops.length ≤ maxLen) :
    Calls Try.prog 3 #[va, vb] w fun e w' => e = .returned (.bool true) ∧ Below w.heap.size w w' := by
  obtain ⟨hx, hl⟩ := hx
  obtain ⟨hy, hm⟩ := hy
  have hl' : (x.hops.length : Int) ≤ 9223372036854775807 := by have : maxLen = 9223372036854775807 := rfl; omega
  have hm' : (y.hops.length : Int) ≤ 9223372036854775807 := by have : maxLen = 9223372036854775807 := rfl; omega
  have HX := hide hx
  have HY := hide hy
  obtain ⟨v1, rfl, h1⟩ := hx
  obtain ⟨a1, c1, rfl⟩ := h1.shape
  obtain ⟨v2, rfl, h2⟩ := hy
  obtain ⟨a2, c2, rfl⟩ := h2.shape
  have HSZ := hide (szWay_any x a1 x.hops.length c1 1048576)
  obtain ⟨qa, hqa⟩ : ∃ q, q = szW 1048576 x.hops.length := ⟨_, rfl⟩
  have HSY := hide (szWay_any y a2 y.hops.length c2 qa)
  obtain ⟨qb, hqb⟩ : ∃ q, q = szW qa y.hops.length := ⟨_, rfl⟩
  rw [← hqa] at HSZ
  rw [← hqb] at HSY
  have HTX := hide (toWay_any (.agg (wayC x (.slice a1 x.hops.length c1))) x)
  have HTY := hide (toWay_any (.agg (wayC y (.slice a2 y.hops.length c2))) y)
  have HEX := hide (fun u => eqWay_any (.agg (wayC x u)))
  have HEY := hide (fun u => eqWay_any (.agg (wayC y u)))
  have HSP := hide (fun u1 u2 W (_ : WayAt W (.agg (wayC x u1)) x W.heap.size) (_ : WayAt W (.agg (wayC y u2)) y W.heap.size) (_ : x.hops.length ≤ 1048576) (_ : y.hops.length ≤ 1048576) => sbetter_any u1 u2 x y W)
  have HIM := hide (fun u1 u2 W (_ : WayAt W (.agg (wayC x u1)) x W.heap.size) (_ : WayAt W (.agg (wayC y u2)) y W.heap.size) (_ : x.hops.length ≤ 1048576) (_ : y.hops.length ≤ 1048576) => ibetter_any u1 u2 x y W)
  obtain ⟨R, hR⟩ : ∃ R, R = betterB x y := ⟨_, rfl⟩
  rw [← hR] at HSP HIM
  have HQA := hide hqa
  have HQB := hide hqb
  clear h1 h2 hl hm hR hqa hqb
  unfold wayC at *
  go_enter Try.func3, Try.ntmps3
  go_wp2_with fail
  refine (HSZ.out _ hl' (by omega) (by omega)).mono ?_
  rintro e w1 ⟨rfl, b1⟩
  have g1 : w1.heap[w.heap.size]? = some (.cells #[.int .i64 x.to, .int .i64 x.cost, .slice a1 x.hops.length c1] 24) := by rw [b1.block _ (by simp; omega), Below.heap_alloc _ _ _ (by simp)]; exact heap_alloc_new w _
  have m1 : w1.heap[w.heap.size + 1]? = some (.cells #[.int .i64 y.to, .int .i64 y.cost, .slice a2 y.hops.length c2] 24) := by
    rw [b1.block _ (by simp)]
    have := heap_alloc_new (w.alloc (.cells #[.int .i64 x.to, .int .i64 x.cost, .slice a1 x.hops.length c1] 24)) (.cells #[.int .i64 y.to, .int .i64 y.cost, .slice a2 y.hops.length c2] 24)
    simpa using this
  have B1 : Below w.heap.size w w1 := (below_two _ _).trans (b1.mono (by simp; omega))
  clear b1
  by_cases hna : qa < 0
  · go_wp2
    go_ret
    exact ⟨rfl, B1⟩
  have hqa0 : 0 ≤ qa := by omega
  have hqa1 : qa ≤ 1048576 := by
    have := HQA.out
    rw [this]
    exact szW_le (by rw [← this]; omega)
  have G1 := hide g1
  have M1 := hide m1
  have t0 := cells_at m1 0
  have t1 := cells_at m1 1
  have t2 := cells_at m1 2
  simp at t0 t1 t2
  clear g1 m1
  go_wp2_with fail
  refine (HSY.out _ hm' hqa0 hqa1).mono ?_
  rintro e w2 ⟨rfl, b2⟩
  have g2 : w2.heap[w.heap.size]? = some (.cells #[.int .i64 x.to, .int .i64 x.cost, .slice a1 x.hops.length c1] 24) := (b2.block _ (lt_of_heap G1.out)).trans G1.out
  have m2 : w2.heap[w.heap.size + 1]? = some (.cells #[.int .i64 y.to, .int .i64 y.cost, .slice a2 y.hops.length c2] 24) := (b2.block _ (lt_of_heap M1.out)).trans M1.out
  have B2 : Below w.heap.size w w2 := B1.trans (b2.mono B1.size)
  clear b2 G1 M1 t0 t1 t2 B1
  by_cases hnb : qb < 0
  · go_wp2
    go_ret
    exact ⟨rfl, B2⟩
  obtain ⟨hl2, hm2, _⟩ := szW2_ok (n := x.hops.length) (m := y.hops.length) (by rw [← HQA.out]; omega) (by rw [← HQA.out, ← HQB.out]; omega)
  have HL2 := hide hl2
  have HM2 := hide hm2
  clear hl2 hm2 HQA HQB HSZ HSY hqa0 hqa1
  have s0 := cells_at g2 0
  have s1 := cells_at g2 1
  have s2 := cells_at g2 2
  simp at s0 s1 s2
  have t0 := cells_at m2 0
  have t1 := cells_at m2 1
  have t2 := cells_at m2 2
  simp at t0 t1 t2
  have G2 := hide g2
  have M2 := hide m2
  have hz0 := lt_of_heap g2
  have hz1 := lt_of_heap m2
  have X2 := hide ((HX.out.then B2).then (Below.refl w2.heap.size w2).drew)
  have Y2 := hide ((HY.out.then B2).then (Below.refl w2.heap.size w2).drew)
  clear g2 m2
  go_wp2
  go_region_held3 (fun W => W.cell? ⟨w.heap.size, 0, none⟩ = some (.int .i64 x.to) ∧ W.cell? ⟨w.heap.size, 1, none⟩ = some (.int .i64 x.cost) ∧ W.cell? ⟨w.heap.size, 2, none⟩ = some (.slice a1 x.hops.length c1) ∧ W.cell? ⟨w.heap.size + 1, 0, none⟩ = some (.int .i64 y.to) ∧ W.cell? ⟨w.heap.size + 1, 1, none⟩ = some (.int .i64 y.cost) ∧ W.cell? ⟨w.heap.size + 1, 2, none⟩ = some (.slice a2 y.hops.length c2)) (first | go_keep | (refine ⟨?_, ?_, ?_, ?_, ?_, ?_⟩ <;> (refine Eq.trans (Below.cell (B := w2.heap.size) (w := w2.drew) ?_ ?_) ?_ <;> first | assumption | (go_grown; done)))) (first | (go_at_call 13; have hb := b3; refine (HTY.out _ HM2.out (Y2.out.then b3)).mono ?_; rintro e w4 ⟨r2, rfl, o2, b4⟩; have D4 : Below w2.heap.size w2.drew w4 := D3.trans (b4.mono D3.size)) | (go_at_call 13; refine (HTX.out _ HL2.out X2.out).mono ?_; rintro e w3 ⟨r1, rfl, o1, b3⟩; have D3 : Below w2.heap.size w2.drew w3 := b3) | (go_at_call 12; refine (HSP.out r1 r2 w4 (wayAt_of (owns_below o1 b4 (Nat.le_refl _))) (wayAt_of o2) HL2.out HM2.out).mono ?_; rintro e w5 ⟨rfl, b5⟩; have D5 : Below w2.heap.size w2.drew w5 := D4.trans (b5.mono D4.size)))
  have B5 : Below w.heap.size w w5 := B2.drew.trans (D5.mono B2.size)
  have g5 : w5.heap[w.heap.size]? = some (.cells #[.int .i64 x.to, .int .i64 x.cost, .slice a1 x.hops.length c1] 24) := (D5.block _ hz0).trans G2.out
  have m5 : w5.heap[w.heap.size + 1]? = some (.cells #[.int .i64 y.to, .int .i64 y.cost, .slice a2 y.hops.length c2] 24) := (D5.block _ hz1).trans M2.out
  clear s0 s1 s2 t0 t1 t2 o1 o2 hb b3 b4 b5 D3 D4 D5 G2 M2 X2 Y2 B2 hz0 hz1
  have s0 := cells_at g5 0
  have s1 := cells_at g5 1
  have s2 := cells_at g5 2
  simp at s0 s1 s2
  go_wp2_with fail
  refine (HTX.out _ HL2.out (HX.out.then B5)).mono ?_
  rintro e w6 ⟨y1, rfl, o1, b6⟩
  obtain ⟨e1, d1, rfl⟩ := owns_lenS o1
  have B6 : Below w.heap.size w w6 := B5.trans (b6.mono B5.size)
  have g6 : w6.heap[w.heap.size]? = some (.cells #[.int .i64 x.to, .int .i64 x.cost, .slice a1 x.hops.length c1] 24) := (b6.block _ (lt_of_heap g5)).trans g5
  have m6 : w6.heap[w.heap.size + 1]? = some (.cells #[.int .i64 y.to, .int .i64 y.cost, .slice a2 y.hops.length c2] 24) := (b6.block _ (lt_of_heap m5)).trans m5
  have NEW := hide (heap_alloc_new w6 (.cells #[.int .i64 x.to, .int .i64 x.cost, .slice e1 x.hops.length d1] 27))
  have O1 := hide (o1.alloc (.cells #[.int .i64 x.to, .int .i64 x.cost, .slice e1 x.hops.length d1] 27))
  have G6 := hide g6
  have M6 := hide m6
  have hzg := lt_of_heap g6
  have hzm := lt_of_heap m6
  have tt6 : (w6.alloc (.cells #[.int .i64 x.to, .int .i64 x.cost, .slice e1 x.hops.length d1] 27)).heap[w.heap.size + 1]? = _ := (Below.heap_alloc _ _ _ hzm).trans m6
  have t0 := cells_at tt6 0
  have t1 := cells_at tt6 1
  have t2 := cells_at tt6 2
  simp at t0 t1 t2
  have h6 := B6.size
  clear s0 s1 s2 g5 m5 g6 m6 b6 o1 tt6 B5
  unfold wayC at *
  go_wp2_with fail
  refine (HTY.out _ HM2.out (HY.out.then (B6.alloc B6.size _))).mono ?_
  rintro e w7 ⟨y2, rfl, o2, b7⟩
  obtain ⟨e2, d2, rfl⟩ := owns_lenS o2
  have B7 : Below w.heap.size w w7 := (B6.alloc B6.size _).trans (b7.mono (by simp; omega))
  have g7 : w7.heap[w.heap.size]? = some (.cells #[.int .i64 x.to, .int .i64 x.cost, .slice a1 x.hops.length c1] 24) := (b7.block _ (by simp; omega)).trans ((Below.heap_alloc _ _ _ hzg).trans G6.out)
  have m7 : w7.heap[w.heap.size + 1]? = some (.cells #[.int .i64 y.to, .int .i64 y.cost, .slice a2 y.hops.length c2] 24) := (b7.block _ (by simp; omega)).trans ((Below.heap_alloc _ _ _ hzm).trans M6.out)
  have n7 : w7.heap[w6.heap.size]? = some (.cells #[.int .i64 x.to, .int .i64 x.cost, .slice e1 x.hops.length d1] 27) := (b7.block _ (by simp)).trans NEW.out
  have P1 := owns_below O1.out b7 (Nat.le_refl _)
  obtain ⟨z, hz⟩ : ∃ z, z = w6.heap.size := ⟨_, rfl⟩
  have hzg' : w.heap.size < z := by rw [hz]; exact hzg
  have hzm' : w.heap.size + 1 < z := by rw [hz]; exact hzm
  rw [← hz] at n7 ⊢
  clear t0 t1 t2 b7 O1 NEW G6 M6 hz hzg hzm h6 B6
  have NEW2 := hide (heap_alloc_new w7 (.cells #[.int .i64 y.to, .int .i64 y.cost, .slice e2 y.hops.length d2] 27))
  have O1 := hide (owns_rowAt (P1.alloc (.cells #[.int .i64 y.to, .int .i64 y.cost, .slice e2 y.hops.length d2] 27)))
  have O2 := hide (owns_rowAt (o2.alloc (.cells #[.int .i64 y.to, .int .i64 y.cost, .slice e2 y.hops.length d2] 27)))
  have hzn := lt_of_heap n7
  have n8 : (w7.alloc (.cells #[.int .i64 y.to, .int .i64 y.cost, .slice e2 y.hops.length d2] 27)).heap[z]? = _ := (Below.heap_alloc _ _ _ hzn).trans n7
  have s0 := cells_at n8 0
  have s1 := cells_at n8 1
  have s2 := cells_at n8 2
  simp at s0 s1 s2
  have h7 := B7.size
  have G7 := hide g7
  have M7 := hide m7
  have N7 := hide n7
  clear P1 o2 n8 g7 m7 n7
  unfold wayC at *
  go_wp2_with fail
  refine (HIM.out _ _ _ ⟨_, rfl, O1.out⟩ ⟨_, rfl, O2.out⟩ HL2.out HM2.out).mono ?_
  rintro e w8 ⟨rfl, b8⟩
  have B8 : Below w.heap.size w w8 := (B7.alloc B7.size _).trans (b8.mono (by simp; omega))
  have g8 : w8.heap[w.heap.size]? = some (.cells #[.int .i64 x.to, .int .i64 x.cost, .slice a1 x.hops.length c1] 24) := (b8.block _ (by simp; omega)).trans ((Below.heap_alloc _ _ _ (by omega)).trans G7.out)
  have m8 : w8.heap[w.heap.size + 1]? = some (.cells #[.int .i64 y.to, .int .i64 y.cost, .slice a2 y.hops.length c2] 24) := (b8.block _ (by simp; omega)).trans ((Below.heap_alloc _ _ _ (by omega)).trans M7.out)
  have n8 : w8.heap[z]? = some (.cells #[.int .i64 x.to, .int .i64 x.cost, .slice e1 x.hops.length d1] 27) := (b8.block _ (by simp; omega)).trans ((Below.heap_alloc _ _ _ hzn).trans N7.out)
  have l8 : w8.heap[w7.heap.size]? = some (.cells #[.int .i64 y.to, .int .i64 y.cost, .slice e2 y.hops.length d2] 27) := (b8.block _ (by simp)).trans NEW2.out
  have N1 := hide (RowAt.then (RowAt.then O1.out b8) (Below.refl w8.heap.size w8).drew)
  have N2 := hide (RowAt.then O2.out b8)
  obtain ⟨u, hu⟩ : ∃ u, u = w7.heap.size := ⟨_, rfl⟩
  rw [← hu] at l8 ⊢
  clear s0 s1 s2 b8 NEW2 O1 O2 G7 M7 N7 hzn h7 B7 hu HSP HIM
  have s0 := cells_at g8 0
  have s1 := cells_at g8 1
  have s2 := cells_at g8 2
  simp at s0 s1 s2
  have t0 := cells_at n8 0
  have t1 := cells_at n8 1
  have t2 := cells_at n8 2
  simp at t0 t1 t2
  have hzz := lt_of_heap n8
  have hww := lt_of_heap g8
  have XD := hide ((HX.out.then B8).then (Below.refl w8.heap.size w8).drew)
  clear g8 n8
  go_wp2
  go_region_held3 (fun W => W.cell? ⟨z, 0, none⟩ = some (.int .i64 x.to) ∧ W.cell? ⟨z, 1, none⟩ = some (.int .i64 x.cost) ∧ W.cell? ⟨z, 2, none⟩ = some (.slice e1 x.hops.length d1) ∧ W.cell? ⟨w.heap.size, 0, none⟩ = some (.int .i64 x.to) ∧ W.cell? ⟨w.heap.size, 1, none⟩ = some (.int .i64 x.cost) ∧ W.cell? ⟨w.heap.size, 2, none⟩ = some (.slice a1 x.hops.length c1)) (first | go_keep | (refine ⟨?_, ?_, ?_, ?_, ?_, ?_⟩ <;> (refine Eq.trans (Below.cell (B := w8.heap.size) (w := w8.drew) ?_ ?_) ?_ <;> first | assumption | (go_grown; done)))) (first | (go_at_call 13; refine (HTX.out _ HL2.out XD.out).mono ?_; rintro e w9 ⟨y1, rfl, o1, b9⟩; have D9 : Below w8.heap.size w8.drew w9 := b9) | (go_at_call 15; refine (HEX.out _ _ x x _ ⟨_, rfl, RowAt.then N1.out b9⟩ (wayAt_of o1) HL2.out).mono ?_; rintro e w10 ⟨rfl, b10⟩; have D10 : Below w8.heap.size w8.drew w10 := D9.trans (b10.mono D9.size)))
  have B10 : Below w.heap.size w w10 := B8.drew.trans (D10.mono B8.size)
  have m10 : w10.heap[w.heap.size + 1]? = some (.cells #[.int .i64 y.to, .int .i64 y.cost, .slice a2 y.hops.length c2] 24) := (D10.block _ (lt_of_heap m8)).trans m8
  have l10 : w10.heap[u]? = some (.cells #[.int .i64 y.to, .int .i64 y.cost, .slice e2 y.hops.length d2] 27) := (D10.block _ (lt_of_heap l8)).trans l8
  have N3 := hide (RowAt.then (RowAt.then (RowAt.then N2.out (Below.refl w8.heap.size w8).drew) D10) (Below.refl w10.heap.size w10).drew)
  clear s0 s1 s2 t0 t1 t2 m8 l8 N1 N2 XD D9 D10 b9 b10 o1 hzz hww B8
  have s0 := cells_at m10 0
  have s1 := cells_at m10 1
  have s2 := cells_at m10 2
  simp at s0 s1 s2
  have t0 := cells_at l10 0
  have t1 := cells_at l10 1
  have t2 := cells_at l10 2
  simp at t0 t1 t2
  have hzz := lt_of_heap l10
  have hww := lt_of_heap m10
  have YD := hide ((HY.out.then B10).then (Below.refl w10.heap.size w10).drew)
  clear m10 l10
  go_wp2
  go_region_held3 (fun W => W.cell? ⟨u, 0, none⟩ = some (.int .i64 y.to) ∧ W.cell? ⟨u, 1, none⟩ = some (.int .i64 y.cost) ∧ W.cell? ⟨u, 2, none⟩ = some (.slice e2 y.hops.length d2) ∧ W.cell? ⟨w.heap.size + 1, 0, none⟩ = some (.int .i64 y.to) ∧ W.cell? ⟨w.heap.size + 1, 1, none⟩ = some (.int .i64 y.cost) ∧ W.cell? ⟨w.heap.size + 1, 2, none⟩ = some (.slice a2 y.hops.length c2)) (first | go_keep | (refine ⟨?_, ?_, ?_, ?_, ?_, ?_⟩ <;> (refine Eq.trans (Below.cell (B := w10.heap.size) (w := w10.drew) ?_ ?_) ?_ <;> first | assumption | (go_grown; done)))) (first | (go_at_call 13; refine (HTY.out _ HM2.out YD.out).mono ?_; rintro e w9 ⟨y1, rfl, o1, b9⟩; have D9 : Below w10.heap.size w10.drew w9 := b9) | (go_at_call 15; refine (HEY.out _ _ y y _ ⟨_, rfl, RowAt.then N3.out b9⟩ (wayAt_of o1) HM2.out).mono ?_; rintro e w11 ⟨rfl, b11⟩; have D11 : Below w10.heap.size w10.drew w11 := D9.trans (b11.mono D9.size)))
  have B11 : Below w.heap.size w w11 := B10.drew.trans (D11.mono B10.size)
  go_wp2
  go_ret
  exact ⟨rfl, B11⟩
end Go.Proofs.Ytbmphbeocbgalaa
