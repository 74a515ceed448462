/-
  laws.FnExactEventOk: its walk.
-/
import Derived.Test.YtacbohnaofajaaaEvK
import Derived.Test.YtacbohnaofajaaaCostLawN
import Derived.Deep.RegionHeld3
import Derived.Deep.Cut
namespace Go.Proofs.Ytacbohnaofajaaa
open Go.RowKit

set_option maxRecDepth 100000 in
set_option maxHeartbeats 4000000 in
theorem fnExactEventOk_walk (v : Value) (x : NetD) (ev : EvD) (w : World) (hx : NetAt w v x w.heap.size ∧ (Lit.int .i64 x.n).wf = true ∧ x.ls.length ≤ maxLen ∧ x.ts.length ≤ maxLen) (hs : ev.s.size ≤ maxLen) :
    Calls Try.prog 3 #[v, evV ev] w fun e w' => e = .returned (.bool true) ∧ Below w.heap.size w w' := by
  obtain ⟨hx, _, hl, ht⟩ := hx
  have hl' : (x.ls.length : Int) ≤ 9223372036854775807 := by have : maxLen = 9223372036854775807 := rfl; omega
  have ht' : (x.ts.length : Int) ≤ 9223372036854775807 := by have : maxLen = 9223372036854775807 := rfl; omega
  have hs' : (ev.s.size : Int) ≤ 9223372036854775807 := by have : maxLen = 9223372036854775807 := rfl; omega
  have hx0 := hx
  obtain ⟨v1, v2, rfl, h1, h2⟩ := hx
  obtain ⟨a1, c1, rfl⟩ := h1.shape
  obtain ⟨a2, c2, rfl⟩ := h2.shape
  have HX := hide hx0
  have HSZ := hide (szNet_any (.int .i64 x.n) a1 a2 x.ls.length x.ts.length c1 c2 1048576)
  obtain ⟨y, hy⟩ : ∃ y, y = evV ev := ⟨_, rfl⟩
  have HTE := hide (toEvent_any ev)
  have HSE := hide (fun n W h0 h1 => szEvent_any ev n W h0 h1 hs')
  have HSP := hide (fun m1 m2 W => seventOk_any (.int .i64 x.n) m1 m2 x.n rfl ev W)
  have HIM := hide (fun m1 m2 W => ieventOk_any (.int .i64 x.n) m1 m2 x.n rfl ev W)
  obtain ⟨r, hr⟩ : ∃ r, r = eventOkB x.n ev := ⟨_, rfl⟩
  obtain ⟨u, hu⟩ : ∃ u : Nat, u = ev.s.size := ⟨_, rfl⟩
  rw [← hr] at HSP HIM
  rw [← hu] at HSE
  clear h1 h2 hx0 hl ht hs hs' hr hu
  obtain ⟨k, o, a, s⟩ := ev
  unfold evV at HTE HSE HSP HIM ⊢
  simp only [] at HTE HSE HSP HIM ⊢
  clear hy
  obtain ⟨q, hq⟩ : ∃ q, q = szN 1048576 x.ls.length x.ts.length := ⟨_, rfl⟩
  rw [← hq] at HSZ
  have HQ := hide hq
  clear hq
  go_enter Try.func3, Try.ntmps3
  go_wp2_with fail
  refine (HSZ.out _ hl' ht' (by omega) (by omega)).mono ?_
  rintro e w1 ⟨rfl, b1⟩
  have g1 : w1.heap[w.heap.size]? = some (.cells #[.int .i64 x.n, .slice a1 x.ls.length c1, .slice a2 x.ts.length c2] 25) := by rw [b1.block _ (by simp; omega), Below.heap_alloc _ _ _ (by simp)]; exact heap_alloc_new w _
  have f1 : w1.heap[w.heap.size + 1]? = some (.cells #[.int .i64 k, .int .i64 o, .int .i64 a, .string s] 27) := by rw [b1.block _ (by simp)]; exact (congrArg _ (by simp)).trans (heap_alloc_new _ _)
  have B1 : Below w.heap.size w w1 := (below_two _ _).trans (b1.mono (by simp; omega))
  clear b1
  by_cases hneg : q < 0
  · go_wp2
    go_ret
    exact ⟨rfl, B1⟩
  have hq1 : 0 ≤ q := by omega
  have hq2 : q ≤ 1048576 := by rw [HQ.out]; unfold szN; split <;> (try split) <;> omega
  have hlen := szN_ok (by rw [← HQ.out]; exact hneg)
  obtain ⟨hl2, ht2⟩ := hlen
  have HL2 := hide hl2
  have HT2 := hide ht2
  have G1 := hide g1
  have F1 := hide f1
  have s3 := cells_at f1 0
  have s4 := cells_at f1 1
  have s5 := cells_at f1 2
  have s6 := cells_at f1 3
  simp at s3 s4 s5 s6
  clear hl2 ht2 g1 f1
  go_wp2_with fail
  refine (HSE.out q _ hq1 hq2).mono ?_
  rintro e w2 ⟨rfl, b2⟩
  have B2 : Below w.heap.size w w2 := B1.trans (b2.mono B1.size)
  have g2 : w2.heap[w.heap.size]? = some (.cells #[.int .i64 x.n, .slice a1 x.ls.length c1, .slice a2 x.ts.length c2] 25) := by rw [b2.block _ (lt_of_heap G1.out)]; exact G1.out
  have f2 : w2.heap[w.heap.size + 1]? = some (.cells #[.int .i64 k, .int .i64 o, .int .i64 a, .string s] 27) := by rw [b2.block _ (lt_of_heap F1.out)]; exact F1.out
  obtain ⟨q', hq'⟩ : ∃ q', q' = szE q u := ⟨_, rfl⟩
  rw [← hq']
  clear hq' b2 s3 s4 s5 s6 B1 G1 F1 HSE HQ HSZ hq1 hq2 hneg
  by_cases hneg : q' < 0
  · go_wp2
    go_ret
    exact ⟨rfl, B2⟩
  have hz0 := lt_of_heap g2
  have hz1 := lt_of_heap f2
  have s0 := cells_at g2 0
  have s1 := cells_at g2 1
  have s2 := cells_at g2 2
  have s3 := cells_at f2 0
  have s4 := cells_at f2 1
  have s5 := cells_at f2 2
  have s6 := cells_at f2 3
  simp at s0 s1 s2 s3 s4 s5 s6
  have HTN := hide (fun W (h : NetAt W (.agg #[.int .i64 x.n, .slice a1 x.ls.length c1, .slice a2 x.ts.length c2]) x W.heap.size) => toNet_any (.agg #[.int .i64 x.n, .slice a1 x.ls.length c1, .slice a2 x.ts.length c2]) x W HL2.out HT2.out h)
  have B3 : Below w.heap.size w w2.drew := B2.drew
  have X3 := hide (HX.out.then B3)
  have G2 := hide g2
  have F2 := hide f2
  clear g2 f2
  go_wp2
  go_region_held3 (fun W => W.cell? ⟨w.heap.size, 0, none⟩ = some (.int .i64 x.n) ∧ W.cell? ⟨w.heap.size, 1, none⟩ = some (.slice a1 x.ls.length c1) ∧ W.cell? ⟨w.heap.size, 2, none⟩ = some (.slice a2 x.ts.length c2) ∧ W.cell? ⟨w.heap.size + 1, 0, none⟩ = some (.int .i64 k) ∧ W.cell? ⟨w.heap.size + 1, 1, none⟩ = some (.int .i64 o) ∧ W.cell? ⟨w.heap.size + 1, 2, none⟩ = some (.int .i64 a) ∧ W.cell? ⟨w.heap.size + 1, 3, none⟩ = some (.string s)) (first | (refine ⟨?_, ?_, ?_, ?_, ?_, ?_, ?_⟩ <;> (rw [b5.cell (Nat.lt_of_lt_of_le (by assumption) (Nat.le_trans b3.size b4.size)), b4.cell (Nat.lt_of_lt_of_le (by assumption) b3.size), b3.cell (by assumption)]; assumption)) | (refine ⟨?_, ?_, ?_, ?_, ?_, ?_, ?_⟩ <;> (rw [b4.cell (Nat.lt_of_lt_of_le (by assumption) b3.size), b3.cell (by assumption)]; assumption)) | (refine ⟨?_, ?_, ?_, ?_, ?_, ?_, ?_⟩ <;> (rw [b3.cell (by assumption)]; assumption)) | go_keep) (first | (go_at_call 7; refine (HTN.out _ X3.out).mono ?_; rintro e w3 ⟨y1, y2, rfl, o1, o2, b3⟩) | (go_at_call 8; refine (HTE.out _).mono ?_; rintro e w4 ⟨rfl, b4⟩) | (go_at_call 6; refine (HSP.out _ _ _).mono ?_; rintro e w5 ⟨rfl, b5⟩))
  have BB : Below w2.heap.size w2 w5 := (((Below.refl _ _).drew).trans b3).trans ((b4.mono b3.size).trans (b5.mono (Nat.le_trans b3.size b4.size)))
  have B5 : Below w.heap.size w w5 := B2.trans (BB.mono B2.size)
  have g5 : w5.heap[w.heap.size]? = some (.cells #[.int .i64 x.n, .slice a1 x.ls.length c1, .slice a2 x.ts.length c2] 25) := by rw [BB.block _ (lt_of_heap G2.out)]; exact G2.out
  have f5 : w5.heap[w.heap.size + 1]? = some (.cells #[.int .i64 k, .int .i64 o, .int .i64 a, .string s] 27) := by rw [BB.block _ (lt_of_heap F2.out)]; exact F2.out
  have X5 := hide (HX.out.then B5)
  clear o1 o2 b3 b4 b5 BB B3 X3 G2 F2 B2 s0 s1 s2 s3 s4 s5 s6 hz0 hz1
  clear w4 w3 w2
  have s0 := cells_at g5 0
  have s1 := cells_at g5 1
  have s2 := cells_at g5 2
  simp at s0 s1 s2
  have G5 := hide g5
  have F5 := hide f5
  clear g5 f5
  go_wp2_with fail
  refine (HTN.out _ X5.out).mono ?_
  rintro e w6 ⟨y1, y2, rfl, o1, o2, b6⟩
  obtain ⟨ya, yc, rfl⟩ := LinksAt.shape (owns_rowAt o1)
  obtain ⟨yb, yd, rfl⟩ := ThingsAt.shape (owns_rowAt o2)
  have N6 := hide (netAt_of o1 o2)
  have B6 : Below w.heap.size w w6 := B5.trans (b6.mono B5.size)
  have g6 : w6.heap[w.heap.size]? = some (.cells #[.int .i64 x.n, .slice a1 x.ls.length c1, .slice a2 x.ts.length c2] 25) := by rw [b6.block _ (lt_of_heap G5.out)]; exact G5.out
  have f6 : w6.heap[w.heap.size + 1]? = some (.cells #[.int .i64 k, .int .i64 o, .int .i64 a, .string s] 27) := by rw [b6.block _ (lt_of_heap F5.out)]; exact F5.out
  have W7 : ∃ W, W = w6.alloc (.cells #[.int .i64 x.n, .slice ya x.ls.length yc, .slice yb x.ts.length yd] 34) := ⟨_, rfl⟩
  obtain ⟨w7, hw7⟩ := W7
  have g7 : w7.heap[w.heap.size]? = some (.cells #[.int .i64 x.n, .slice a1 x.ls.length c1, .slice a2 x.ts.length c2] 25) := by rw [hw7, Below.heap_alloc _ _ _ (lt_of_heap g6)]; exact g6
  have f7 : w7.heap[w.heap.size + 1]? = some (.cells #[.int .i64 k, .int .i64 o, .int .i64 a, .string s] 27) := by rw [hw7, Below.heap_alloc _ _ _ (lt_of_heap f6)]; exact f6
  have m7 : w7.heap[w6.heap.size]? = some (.cells #[.int .i64 x.n, .slice ya x.ls.length yc, .slice yb x.ts.length yd] 34) := by rw [hw7]; exact heap_alloc_new w6 _
  have B7 : Below w.heap.size w w7 := by rw [hw7]; exact B6.alloc B6.size _
  have N7 : NetAt w7 (.agg #[.int .i64 x.n, .slice ya x.ls.length yc, .slice yb x.ts.length yd]) x w7.heap.size := by rw [hw7]; exact N6.out.then ((Below.refl _ _).alloc (Nat.le_refl _) _)
  obtain ⟨z, hz⟩ : ∃ z, z = w6.heap.size := ⟨_, rfl⟩
  have HW7 := hide hw7
  have HZ7 := hide hz
  have N7 := hide N7
  rw [← hz] at m7
  clear o1 o2 b6 N6 X5 G5 F5 s0 s1 s2 g6 f6 B5 B6 hw7 hz
  go_upto_region 10 with fail
  rw [← HZ7.out, ← HW7.out]
  clear HZ7 HW7
  clear w6
  have G7 := hide g7
  have F7 := hide f7
  have M7 := hide m7
  have hz0 := lt_of_heap g7
  have hz1 := lt_of_heap f7
  have hz2 := lt_of_heap m7
  have s0 := cells_at g7 0
  have s1 := cells_at g7 1
  have s2 := cells_at g7 2
  have s3 := cells_at f7 0
  have s4 := cells_at f7 1
  have s5 := cells_at f7 2
  have s6 := cells_at f7 3
  have t0 := cells_at m7 0
  have t1 := cells_at m7 1
  have t2 := cells_at m7 2
  simp at s0 s1 s2 s3 s4 s5 s6 t0 t1 t2
  clear g7 f7 m7
  go_wp2
  go_region_held3 (fun W => W.cell? ⟨w.heap.size, 0, none⟩ = some (.int .i64 x.n) ∧ W.cell? ⟨w.heap.size, 1, none⟩ = some (.slice a1 x.ls.length c1) ∧ W.cell? ⟨w.heap.size, 2, none⟩ = some (.slice a2 x.ts.length c2) ∧ W.cell? ⟨w.heap.size + 1, 0, none⟩ = some (.int .i64 k) ∧ W.cell? ⟨w.heap.size + 1, 1, none⟩ = some (.int .i64 o) ∧ W.cell? ⟨w.heap.size + 1, 2, none⟩ = some (.int .i64 a) ∧ W.cell? ⟨w.heap.size + 1, 3, none⟩ = some (.string s) ∧ W.cell? ⟨z, 0, none⟩ = some (.int .i64 x.n) ∧ W.cell? ⟨z, 1, none⟩ = some (.slice ya x.ls.length yc) ∧ W.cell? ⟨z, 2, none⟩ = some (.slice yb x.ts.length yd)) (first | (refine ⟨?_, ?_, ?_, ?_, ?_, ?_, ?_, ?_, ?_, ?_⟩ <;> (rw [b9.cell (Nat.lt_of_lt_of_le (by assumption) b8.size), b8.cell (by assumption)]; assumption)) | (refine ⟨?_, ?_, ?_, ?_, ?_, ?_, ?_, ?_, ?_, ?_⟩ <;> (rw [b8.cell (by assumption)]; assumption)) | go_keep) (first | (go_at_call 8; refine (HTE.out _).mono ?_; rintro e w8 ⟨rfl, b8⟩) | (go_at_call 9; refine (HIM.out _ _ _).mono ?_; rintro e w9 ⟨rfl, b9⟩))
  have BB : Below w7.heap.size w7 w9 := (((Below.refl _ _).drew).trans b8).trans (b9.mono b8.size)
  have B9 : Below w.heap.size w w9 := B7.trans (BB.mono B7.size)
  have g9 : w9.heap[w.heap.size]? = some (.cells #[.int .i64 x.n, .slice a1 x.ls.length c1, .slice a2 x.ts.length c2] 25) := by rw [BB.block _ (lt_of_heap G7.out)]; exact G7.out
  have m9 : w9.heap[z]? = some (.cells #[.int .i64 x.n, .slice ya x.ls.length yc, .slice yb x.ts.length yd] 34) := by rw [BB.block _ (lt_of_heap M7.out)]; exact M7.out
  have N9 := hide ((N7.out.then BB).then (Below.refl _ _).drew)
  have X9 := hide ((HX.out.then B9).then (Below.refl _ _).drew)
  clear b8 b9 BB B7 N7 G7 F7 M7 s0 s1 s2 s3 s4 s5 s6 t0 t1 t2 hz0 hz1 hz2
  have hz0 := lt_of_heap g9
  have hz2 := lt_of_heap m9
  have s0 := cells_at g9 0
  have s1 := cells_at g9 1
  have s2 := cells_at g9 2
  have t0 := cells_at m9 0
  have t1 := cells_at m9 1
  have t2 := cells_at m9 2
  simp at s0 s1 s2 t0 t1 t2
  clear g9 m9
  have HEQ := hide (eqNet_any (.agg #[.int .i64 x.n, .slice ya x.ls.length yc, .slice yb x.ts.length yd]))
  cases r
  all_goals
    go_wp2
    go_region_held3 (fun W => W.cell? ⟨w.heap.size, 0, none⟩ = some (.int .i64 x.n) ∧ W.cell? ⟨w.heap.size, 1, none⟩ = some (.slice a1 x.ls.length c1) ∧ W.cell? ⟨w.heap.size, 2, none⟩ = some (.slice a2 x.ts.length c2) ∧ W.cell? ⟨z, 0, none⟩ = some (.int .i64 x.n) ∧ W.cell? ⟨z, 1, none⟩ = some (.slice ya x.ls.length yc) ∧ W.cell? ⟨z, 2, none⟩ = some (.slice yb x.ts.length yd)) (first | go_keep | (refine ⟨?_, ?_, ?_, ?_, ?_, ?_⟩ <;> (rw [bb.cell (Nat.lt_of_lt_of_le (by assumption) ba.size), ba.cell (by assumption)]; assumption)) | (refine ⟨?_, ?_, ?_, ?_, ?_, ?_⟩ <;> (rw [ba.cell (by assumption)]; assumption))) (first | (go_at_call 7; refine (HTN.out _ X9.out).mono ?_; rintro e wa ⟨y1, y2, rfl, o1, o2, ba⟩) | (go_at_call 10; refine (HEQ.out _ x x _ (N9.out.then ba) (netAt_of o1 o2) HL2.out HT2.out).mono ?_; rintro e wb ⟨rfl, bb⟩))
    have BA : Below w.heap.size w wa := B9.drew.trans (ba.mono B9.size)
    have BB : Below w.heap.size w wb := BA.trans (bb.mono BA.size)
    go_wp2
    go_ret
    exact ⟨rfl, BB⟩
end Go.Proofs.Ytacbohnaofajaaa
