/-
  laws.FnExactRecordOk: its walk.
-/
import Derived.Test.YtlgjkigdfcpdkaaIRecOk
import Derived.Deep.RegionHeld3
namespace Go.Proofs.Ytlgjkigdfcpdkaa
open Go.RowKit

theorem szR_ok {n : Nat} (h : ¬ szR 1048576 n < 0) : n ≤ 1048576 := by
  unfold szR at h
  split at h <;> omega

theorem recAt_of {W : World} {b : Nat} {x : RecD} {v1 : Value} (h1 : W.ownsRow b 51 2 v1 x.near.length (flat nrE x.near)) : RecAt W (.agg (recC x v1)) x W.heap.size :=
  ⟨v1, rfl, owns_rowAt h1⟩

set_option maxRecDepth 100000 in
set_option maxHeartbeats 4000000 in
theorem fnExactRecordOk_walk (v : Value) (x : RecD) (w : World) (hx : RecAt w v x w.heap.size ∧ x.near.length ≤ maxLen) :
    Calls Try.prog 5 #[v] w fun e w' => e = .returned (.bool true) ∧ Below w.heap.size w w' := by
  obtain ⟨hx, hl⟩ := hx
  have hl' : (x.near.length : Int) ≤ 9223372036854775807 := by have : maxLen = 9223372036854775807 := rfl; omega
  have hx0 := hx
  obtain ⟨v1, rfl, h1⟩ := hx
  obtain ⟨a1, c1, rfl⟩ := h1.shape
  have HX := hide hx0
  have HSZ := hide (szRecord_any x a1 x.near.length c1 1048576)
  have HTO := hide (toRecord_any (.agg (recC x (.slice a1 x.near.length c1))) x)
  have HEQ := hide (fun u => eqRecord_any (.agg (recC x u)))
  have HSP := hide (fun u => srecOk_any u x)
  have HIM := hide (fun u => irecOk_any u x)
  obtain ⟨R, hR⟩ : ∃ R, R = recOkB x := ⟨_, rfl⟩
  rw [← hR] at HSP HIM
  clear h1 hx0 hl hR
  obtain ⟨q, hq⟩ : ∃ q, q = szR 1048576 x.near.length := ⟨_, rfl⟩
  rw [← hq] at HSZ
  have HQ := hide hq
  clear hq
  unfold recC at *
  go_enter Try.func5, Try.ntmps5
  go_wp2_with fail
  refine (HSZ.out _ hl' (by omega) (by omega)).mono ?_
  rintro e w1 ⟨rfl, b1⟩
  have g1 : w1.heap[w.heap.size]? = some (.cells #[.int .i64 x.area, .int .i64 x.kind, .int .i64 x.owner, .int .i64 x.key, .int .i64 x.seq, .slice a1 x.near.length c1, .int .i64 x.cost, .bool x.far] 39) := by rw [b1.block _ (by simp)]; exact heap_alloc_new w _
  have B1 : Below w.heap.size w w1 := ((Below.refl _ _).alloc (Nat.le_refl _) _).trans (b1.mono (by simp))
  clear b1
  by_cases hneg : q < 0
  · go_wp2
    go_ret
    exact ⟨rfl, B1⟩
  have HL2 := hide (szR_ok (by rw [← HQ.out]; exact hneg))
  have G1 := hide g1
  have s0 := cells_at g1 0
  have s1 := cells_at g1 1
  have s2 := cells_at g1 2
  have s3 := cells_at g1 3
  have s4 := cells_at g1 4
  have s5 := cells_at g1 5
  have s6 := cells_at g1 6
  have s7 := cells_at g1 7
  simp at s0 s1 s2 s3 s4 s5 s6 s7
  clear g1 HQ
  go_wp2_with fail
  refine (HTO.out _ HL2.out (HX.out.then B1)).mono ?_
  rintro e w2 ⟨p1, rfl, o1, b2⟩
  have N2 := hide (owns_rowAt o1)
  have B2 : Below w.heap.size w w2 := B1.trans (b2.mono B1.size)
  have g2 : w2.heap[w.heap.size]? = some (.cells #[.int .i64 x.area, .int .i64 x.kind, .int .i64 x.owner, .int .i64 x.key, .int .i64 x.seq, .slice a1 x.near.length c1, .int .i64 x.cost, .bool x.far] 39) := by rw [b2.block _ (lt_of_heap G1.out)]; exact G1.out
  clear s0 s1 s2 s3 s4 s5 s6 s7 o1 b2 B1 G1
  go_wp2_with fail
  refine (HSP.out _ _ HL2.out N2.out).mono ?_
  rintro e w3 ⟨rfl, b3⟩
  have B3 : Below w.heap.size w w3 := B2.trans (b3.mono B2.size)
  have g3 : w3.heap[w.heap.size]? = some (.cells #[.int .i64 x.area, .int .i64 x.kind, .int .i64 x.owner, .int .i64 x.key, .int .i64 x.seq, .slice a1 x.near.length c1, .int .i64 x.cost, .bool x.far] 39) := by rw [b3.block _ (lt_of_heap g2)]; exact g2
  have s0 := cells_at g3 0
  have s1 := cells_at g3 1
  have s2 := cells_at g3 2
  have s3 := cells_at g3 3
  have s4 := cells_at g3 4
  have s5 := cells_at g3 5
  have s6 := cells_at g3 6
  have s7 := cells_at g3 7
  simp at s0 s1 s2 s3 s4 s5 s6 s7
  have G3 := hide g3
  clear g2 g3 b3 B2 N2
  go_wp2_with fail
  refine (HTO.out _ HL2.out (HX.out.then B3)).mono ?_
  rintro e w4 ⟨y1, rfl, o1, b4⟩
  obtain ⟨ya, yc, rfl⟩ := NearsAt.shape (owns_rowAt o1)
  have N4 := hide (owns_rowAt o1)
  have B4 : Below w.heap.size w w4 := B3.trans (b4.mono B3.size)
  have g4 : w4.heap[w.heap.size]? = some (.cells #[.int .i64 x.area, .int .i64 x.kind, .int .i64 x.owner, .int .i64 x.key, .int .i64 x.seq, .slice a1 x.near.length c1, .int .i64 x.cost, .bool x.far] 39) := by rw [b4.block _ (lt_of_heap G3.out)]; exact G3.out
  have G4 := hide g4
  have NEW := hide (heap_alloc_new w4 (.cells #[.int .i64 x.area, .int .i64 x.kind, .int .i64 x.owner, .int .i64 x.key, .int .i64 x.seq, .slice ya x.near.length yc, .int .i64 x.cost, .bool x.far] 26))
  clear s0 s1 s2 s3 s4 s5 s6 s7 o1 b4 B3 G3 g4
  unfold recC at *
  go_wp2_with fail
  refine (HIM.out _ _ HL2.out (RowAt.then N4.out ((Below.refl _ _).alloc (Nat.le_refl _) _))).mono ?_
  rintro e w5 ⟨rfl, b5⟩
  have N5 := hide (RowAt.then N4.out (((Below.refl _ _).alloc (Nat.le_refl _) _).trans (b5.mono (by simp))))
  have hz4 := B4.size
  have B5 : Below w.heap.size w w5 := (B4.alloc B4.size _).trans (b5.mono (by simp; omega))
  have g5 : w5.heap[w.heap.size]? = some (.cells #[.int .i64 x.area, .int .i64 x.kind, .int .i64 x.owner, .int .i64 x.key, .int .i64 x.seq, .slice a1 x.near.length c1, .int .i64 x.cost, .bool x.far] 39) := by rw [b5.block _ (by simp; omega), Below.heap_alloc _ _ _ (lt_of_heap G4.out)]; exact G4.out
  have m5 : w5.heap[w4.heap.size]? = some (.cells #[.int .i64 x.area, .int .i64 x.kind, .int .i64 x.owner, .int .i64 x.key, .int .i64 x.seq, .slice ya x.near.length yc, .int .i64 x.cost, .bool x.far] 26) := by rw [b5.block _ (by simp)]; exact NEW.out
  obtain ⟨z, hz⟩ : ∃ z, z = w4.heap.size := ⟨_, rfl⟩
  rw [← hz] at m5 hz4 ⊢
  clear hz NEW N4 b5 B4 G4 HSZ hneg
  clear w4 w3 w2 w1
  have s0 := cells_at g5 0
  have s1 := cells_at g5 1
  have s2 := cells_at g5 2
  have s3 := cells_at g5 3
  have s4 := cells_at g5 4
  have s5 := cells_at g5 5
  have s6 := cells_at g5 6
  have s7 := cells_at g5 7
  simp at s0 s1 s2 s3 s4 s5 s6 s7
  have t0 := cells_at m5 0
  have t1 := cells_at m5 1
  have t2 := cells_at m5 2
  have t3 := cells_at m5 3
  have t4 := cells_at m5 4
  have t5 := cells_at m5 5
  have t6 := cells_at m5 6
  have t7 := cells_at m5 7
  simp at t0 t1 t2 t3 t4 t5 t6 t7
  have BD : Below w5.heap.size w5 w5.drew := (Below.refl _ _).drew
  have ND := hide (RowAt.then N5.out BD)
  have XD := hide ((HX.out.then B5).then BD)
  have hzz := lt_of_heap m5
  have hww := lt_of_heap g5
  clear BD g5 m5 HSP HIM HX N5
  go_wp2
  go_region_held3 (fun W => W.cell? ⟨w.heap.size, 0, none⟩ = some (.int .i64 x.area) ∧ W.cell? ⟨w.heap.size, 1, none⟩ = some (.int .i64 x.kind) ∧ W.cell? ⟨w.heap.size, 2, none⟩ = some (.int .i64 x.owner) ∧ W.cell? ⟨w.heap.size, 3, none⟩ = some (.int .i64 x.key) ∧ W.cell? ⟨w.heap.size, 4, none⟩ = some (.int .i64 x.seq) ∧ W.cell? ⟨w.heap.size, 5, none⟩ = some (.slice a1 x.near.length c1) ∧ W.cell? ⟨w.heap.size, 6, none⟩ = some (.int .i64 x.cost) ∧ W.cell? ⟨w.heap.size, 7, none⟩ = some (.bool x.far) ∧ W.cell? ⟨z, 0, none⟩ = some (.int .i64 x.area) ∧ W.cell? ⟨z, 1, none⟩ = some (.int .i64 x.kind) ∧ W.cell? ⟨z, 2, none⟩ = some (.int .i64 x.owner) ∧ W.cell? ⟨z, 3, none⟩ = some (.int .i64 x.key) ∧ W.cell? ⟨z, 4, none⟩ = some (.int .i64 x.seq) ∧ W.cell? ⟨z, 5, none⟩ = some (.slice ya x.near.length yc) ∧ W.cell? ⟨z, 6, none⟩ = some (.int .i64 x.cost) ∧ W.cell? ⟨z, 7, none⟩ = some (.bool x.far)) (first | go_keep | (refine ⟨?_, ?_, ?_, ?_, ?_, ?_, ?_, ?_, ?_, ?_, ?_, ?_, ?_, ?_, ?_, ?_⟩ <;> (rw [b7.cell (Nat.lt_of_lt_of_le (by assumption) b6.size), b6.cell (by assumption)]; assumption)) | (refine ⟨?_, ?_, ?_, ?_, ?_, ?_, ?_, ?_, ?_, ?_, ?_, ?_, ?_, ?_, ?_, ?_⟩ <;> (rw [b6.cell (by assumption)]; assumption))) (first | (go_at_call 27; refine (HTO.out _ HL2.out XD.out).mono ?_; rintro e w6 ⟨y1, rfl, o1, b6⟩) | (go_at_call 28; refine (HEQ.out _ _ x x _ ⟨_, rfl, RowAt.then ND.out b6⟩ (recAt_of o1) HL2.out).mono ?_; rintro e w7 ⟨rfl, b7⟩))
  have B6 : Below w.heap.size w w6 := B5.drew.trans (b6.mono B5.size)
  have B7 : Below w.heap.size w w7 := B6.trans (b7.mono B6.size)
  go_wp2
  go_ret
  exact ⟨rfl, B7⟩
end Go.Proofs.Ytlgjkigdfcpdkaa
