/-
  laws.FnExactNetOk: its walk.
-/
import Derived.Test.YtlijocpniefdjaaNetOkT
import Derived.Deep.RegionHeld3
namespace Go.Proofs.Ytlijocpniefdjaa
open Go.RowKit

theorem szN_ok {n m : Nat} (h : ¬ szN 1048576 n m < 0) : n ≤ 1048576 ∧ m ≤ 1048576 := by
  unfold szN at h
  split at h
  · omega
  · split at h
    · omega
    · omega

theorem netAt_of {W : World} {b : Nat} {x : NetD} {v1 v2 : Value} (h1 : W.ownsRow b 39 4 v1 x.ls.length (flat lkE x.ls)) (h2 : W.ownsRow b 68 4 v2 x.ts.length (flat thE x.ts)) : NetAt W (.agg #[.int .i64 x.n, v1, v2]) x W.heap.size :=
  ⟨v1, v2, rfl, owns_rowAt h1, owns_rowAt h2⟩

set_option maxRecDepth 100000 in
set_option maxHeartbeats 4000000 in
theorem fnExactNetOk_walk (v : Value) (x : NetD) (w : World) (hx : NetAt w v x w.heap.size ∧ (Lit.int .i64 x.n).wf = true ∧ x.ls.length ≤ maxLen ∧ x.ts.length ≤ maxLen) :
    Calls Try.prog 5 #[v] w fun e w' => e = .returned (.bool true) ∧ Below w.heap.size w w' := by
  obtain ⟨hx, _, hl, ht⟩ := hx
  have hl' : (x.ls.length : Int) ≤ 9223372036854775807 := by have : maxLen = 9223372036854775807 := rfl; omega
  have ht' : (x.ts.length : Int) ≤ 9223372036854775807 := by have : maxLen = 9223372036854775807 := rfl; omega
  have hx0 := hx
  obtain ⟨v1, v2, rfl, h1, h2⟩ := hx
  obtain ⟨a1, c1, rfl⟩ := h1.shape
  obtain ⟨a2, c2, rfl⟩ := h2.shape
  have HX := hide hx0
  have hsz := szNet_any (.int .i64 x.n) a1 a2 x.ls.length x.ts.length c1 c2 1048576
  have HSZ := hide hsz
  clear h1 h2 hx0 hl ht hsz
  obtain ⟨q, hq⟩ : ∃ q, q = szN 1048576 x.ls.length x.ts.length := ⟨_, rfl⟩
  rw [← hq] at HSZ
  have HQ := hide hq
  clear hq
  go_enter Try.func5, Try.ntmps5
  go_wp2_with fail
  refine (HSZ.out _ hl' ht' (by omega) (by omega)).mono ?_
  rintro e w1 ⟨rfl, b1⟩
  have g1 : w1.heap[w.heap.size]? = some (.cells #[.int .i64 x.n, .slice a1 x.ls.length c1, .slice a2 x.ts.length c2] 47) := by rw [b1.block _ (by simp)]; exact heap_alloc_new w _
  have B1 : Below w.heap.size w w1 := ((Below.refl _ _).alloc (Nat.le_refl _) _).trans (b1.mono (by simp))
  clear b1
  by_cases hneg : q < 0
  · go_wp2
    go_ret
    exact ⟨rfl, B1⟩
  have hlen := szN_ok (by rw [← HQ.out]; exact hneg)
  obtain ⟨hl2, ht2⟩ := hlen
  have HL2 := hide hl2
  have HT2 := hide ht2
  have G1 := hide g1
  have s0 := cells_at g1 0
  have s1 := cells_at g1 1
  have s2 := cells_at g1 2
  simp at s0 s1 s2
  clear hl2 ht2 g1
  go_wp2_with fail
  refine (toNet_any _ x _ HL2.out HT2.out (HX.out.then B1)).mono ?_
  rintro e w2 ⟨p1, p2, rfl, o1, o2, b2⟩
  have N2 := hide (netAt_of o1 o2)
  have B2 : Below w.heap.size w w2 := B1.trans (b2.mono B1.size)
  have g2 : w2.heap[w.heap.size]? = some (.cells #[.int .i64 x.n, .slice a1 x.ls.length c1, .slice a2 x.ts.length c2] 47) := by rw [b2.block _ (lt_of_heap G1.out)]; exact G1.out
  clear s0 s1 s2 o1 o2 b2 B1 G1
  go_wp2_with fail
  refine (snetOk_any _ x _ HL2.out HT2.out N2.out).mono ?_
  rintro e w3 ⟨rfl, b3⟩
  have B3 : Below w.heap.size w w3 := B2.trans (b3.mono B2.size)
  have g3 : w3.heap[w.heap.size]? = some (.cells #[.int .i64 x.n, .slice a1 x.ls.length c1, .slice a2 x.ts.length c2] 47) := by rw [b3.block _ (lt_of_heap g2)]; exact g2
  have s0 := cells_at g3 0
  have s1 := cells_at g3 1
  have s2 := cells_at g3 2
  simp at s0 s1 s2
  have G3 := hide g3
  clear g2 g3 b3 B2 N2
  go_wp2_with fail
  refine (toNet_any _ x _ HL2.out HT2.out (HX.out.then B3)).mono ?_
  rintro e w4 ⟨y1, y2, rfl, o1, o2, b4⟩
  obtain ⟨ya, yc, rfl⟩ := LinksAt.shape (owns_rowAt o1)
  obtain ⟨yb, yd, rfl⟩ := ThingsAt.shape (owns_rowAt o2)
  have N4 := hide (netAt_of o1 o2)
  have B4 : Below w.heap.size w w4 := B3.trans (b4.mono B3.size)
  have g4 : w4.heap[w.heap.size]? = some (.cells #[.int .i64 x.n, .slice a1 x.ls.length c1, .slice a2 x.ts.length c2] 47) := by rw [b4.block _ (lt_of_heap G3.out)]; exact G3.out
  have hnew := heap_alloc_new w4 (.cells #[.int .i64 x.n, .slice ya x.ls.length yc, .slice yb x.ts.length yd] 27)
  have G4 := hide g4
  have NEW := hide hnew
  clear s0 s1 s2 o1 o2 b4 B3 G3 hnew g4
  go_wp2_with fail
  refine (inetOk_any _ x _ HL2.out HT2.out (N4.out.then ((Below.refl _ _).alloc (Nat.le_refl _) _))).mono ?_
  rintro e w5 ⟨rfl, b5⟩
  have N5 := hide (N4.out.then (((Below.refl _ _).alloc (Nat.le_refl _) _).trans (b5.mono (by simp))))
  have hz4 := B4.size
  have B5 : Below w.heap.size w w5 := (B4.alloc B4.size _).trans (b5.mono (by simp; omega))
  have g5 : w5.heap[w.heap.size]? = some (.cells #[.int .i64 x.n, .slice a1 x.ls.length c1, .slice a2 x.ts.length c2] 47) := by rw [b5.block _ (by simp; omega), Below.heap_alloc _ _ _ (lt_of_heap G4.out)]; exact G4.out
  have m5 : w5.heap[w4.heap.size]? = some (.cells #[.int .i64 x.n, .slice ya x.ls.length yc, .slice yb x.ts.length yd] 27) := by rw [b5.block _ (by simp)]; exact NEW.out
  obtain ⟨z, hz⟩ : ∃ z, z = w4.heap.size := ⟨_, rfl⟩
  rw [← hz] at m5 hz4 ⊢
  clear hz NEW N4 b5 B4 G4 HSZ HQ hneg
  clear w4 w3 w2 w1
  have s0 := cells_at g5 0
  have s1 := cells_at g5 1
  have s2 := cells_at g5 2
  have t0 := cells_at m5 0
  have t1 := cells_at m5 1
  have t2 := cells_at m5 2
  simp at s0 s1 s2 t0 t1 t2
  have hd : w5.drew.heap.size = w5.heap.size := rfl
  have BD : Below w5.heap.size w5 w5.drew := (Below.refl _ _).drew
  have ND := hide (N5.out.then BD)
  have XD := hide ((HX.out.then B5).then BD)
  have hzz := lt_of_heap m5
  have hww := lt_of_heap g5
  have HEQ := hide (eqNet_any (.agg #[.int .i64 x.n, .slice ya x.ls.length yc, .slice yb x.ts.length yd]))
  have HTN := hide (toNet_any (.agg #[.int .i64 x.n, .slice a1 x.ls.length c1, .slice a2 x.ts.length c2]) x)
  clear hd BD
  go_wp2
  go_region_held3 (fun W => W.cell? ⟨w.heap.size, 0, none⟩ = some (.int .i64 x.n) ∧ W.cell? ⟨w.heap.size, 1, none⟩ = some (.slice a1 x.ls.length c1) ∧ W.cell? ⟨w.heap.size, 2, none⟩ = some (.slice a2 x.ts.length c2) ∧ W.cell? ⟨z, 0, none⟩ = some (.int .i64 x.n) ∧ W.cell? ⟨z, 1, none⟩ = some (.slice ya x.ls.length yc) ∧ W.cell? ⟨z, 2, none⟩ = some (.slice yb x.ts.length yd)) (first | go_keep | (refine ⟨?_, ?_, ?_, ?_, ?_, ?_⟩ <;> (rw [b7.cell (Nat.lt_of_lt_of_le (by assumption) b6.size), b6.cell (by assumption)]; assumption)) | (refine ⟨?_, ?_, ?_, ?_, ?_, ?_⟩ <;> (rw [b6.cell (by assumption)]; assumption))) (first | (go_at_call 20; refine (HTN.out _ HL2.out HT2.out XD.out).mono ?_; rintro e w6 ⟨y1, y2, rfl, o1, o2, b6⟩) | (go_at_call 21; refine (HEQ.out _ x x _ (ND.out.then b6) (netAt_of o1 o2) HL2.out HT2.out).mono ?_; rintro e w7 ⟨rfl, b7⟩))
  have B6 : Below w.heap.size w w6 := B5.drew.trans (b6.mono B5.size)
  have B7 : Below w.heap.size w w7 := B6.trans (b7.mono B6.size)
  go_wp2
  go_ret
  exact ⟨rfl, B7⟩
end Go.Proofs.Ytlijocpniefdjaa
