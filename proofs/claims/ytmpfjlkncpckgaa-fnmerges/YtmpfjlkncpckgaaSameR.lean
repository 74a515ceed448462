/-
  laws.same at a record and itself.
-/
import Derived.Test.YtmpfjlkncpckgaaGrD
import Derived.Deep.RegionHeld3
namespace Go.Proofs.Ytmpfjlkncpckgaa
open Go.RowKit

set_option linter.unusedSimpArgs false

set_option maxRecDepth 100000 in
set_option maxHeartbeats 2000000 in
theorem same_any (x : RecD) (v1 v2 : Value) (w : World) (h1 : NearsAt w v1 x.near w.heap.size) (h2 : NearsAt w v2 x.near w.heap.size) (hl : x.near.length ≤ 1048576) :
    Calls Try.prog 21 #[.agg (recC x v1), .agg (recC x v2)] w fun e w' => e = .returned (.bool true) ∧ Below w.heap.size w w' := by
  obtain ⟨a1, c1, rfl⟩ := h1.shape
  obtain ⟨a2, c2, rfl⟩ := h2.shape
  have H1 := hide h1
  have H2 := hide h2
  clear h1 h2
  have BX : Below w.heap.size w ((w.alloc (.cells (recC x (.slice a1 x.near.length c1)) 26)).alloc (.cells (recC x (.slice a2 x.near.length c2)) 26)) := below_two _ _
  have hq0 : ((w.alloc (.cells (recC x (.slice a1 x.near.length c1)) 26)).alloc (.cells (recC x (.slice a2 x.near.length c2)) 26)).heap[w.heap.size]? = some (.cells (recC x (.slice a1 x.near.length c1)) 26) := by rw [Below.heap_alloc _ _ _ (by simp), heap_alloc_new]
  have hq1 : ((w.alloc (.cells (recC x (.slice a1 x.near.length c1)) 26)).alloc (.cells (recC x (.slice a2 x.near.length c2)) 26)).heap[w.heap.size + 1]? = some (.cells (recC x (.slice a2 x.near.length c2)) 26) := by
    have e := heap_alloc_new (w.alloc (.cells (recC x (.slice a1 x.near.length c1)) 26)) (.cells (recC x (.slice a2 x.near.length c2)) 26)
    simpa using e
  obtain ⟨wx, hwx⟩ : ∃ wx, wx = (w.alloc (.cells (recC x (.slice a1 x.near.length c1)) 26)).alloc (.cells (recC x (.slice a2 x.near.length c2)) 26) := ⟨_, rfl⟩
  rw [← hwx] at BX hq0 hq1
  have hsx := lt_of_heap hq1
  unfold recC at *
  have HQ0 := hide hq0
  have HQ1 := hide hq1
  clear hq0 hq1
  go_enter Try.func21, Try.ntmps21
  go_wp2
  rw [← hwx]
  clear hwx
  go_loopw [5] (fun i wr => ∃ k : Nat, k ≤ x.near.length ∧ i = .int .i64 k ∧ Below wx.heap.size wx wr) (fun i _ => x.near.length - (intOf i).toNat)
  case atStart => exact ⟨0, by omega, rfl, Below.refl _ _⟩
  case round =>
    obtain ⟨k, hk, rfl, hb⟩ := hrel
    have hbs := hb.size
    have hr0 := (hb.block _ (lt_of_heap HQ0.out)).trans HQ0.out
    have hr1 := (hb.block _ (lt_of_heap HQ1.out)).trans HQ1.out
    have s5 := cells_at hr0 5
    have t5 := cells_at hr1 5
    simp at s5 t5
    have BWR : Below w.heap.size w wr := BX.trans (hb.mono (by omega))
    by_cases hlt : k < x.near.length
    · obtain ⟨n, hn⟩ : ∃ n, x.near[k]? = some n := ⟨x.near[k], List.getElem?_eq_getElem hlt⟩
      obtain ⟨d1, o1, e1, hv1, hd1, f0, f1⟩ := H1.out.cells k n hn
      obtain ⟨d2, o2, e2, hv2, hd2, g0, g1⟩ := H2.out.cells k n hn
      cases hv1
      cases hv2
      rw [← BWR.cell (p := ⟨d1, o1 + k * 2, none⟩) hd1] at f0
      rw [← BWR.cell (p := ⟨d1, o1 + k * 2 + 1, none⟩) hd1] at f1
      rw [← BWR.cell (p := ⟨d2, o2 + k * 2, none⟩) hd2] at g0
      rw [← BWR.cell (p := ⟨d2, o2 + k * 2 + 1, none⟩) hd2] at g1
      have hki : (0 : Int) ≤ (k : Int) := by omega
      have hkj : (k : Int) < (x.near.length : Int) := by omega
      have e0 := fun W => near_neq W n.to n.c n.to n.c
      rw [decide_eq_true rfl] at e0
      clear hn hr0 hr1
      go_wp2
      go_quiet (fail)
      go_wp2
      go_roundw
      case rel => exact ⟨k + 1, by omega, by go_num, hb.trans ⟨rfl, rfl, rfl, Nat.le_refl _, fun _ _ => rfl⟩⟩
      case measure => simp [intOf]; omega
    · have hkn : k = x.near.length := by omega
      have KN := hide hkn
      clear hkn hr0 hr1
      go_wp2
      go_ret
      exact ⟨rfl, BWR⟩
end Go.Proofs.Ytmpfjlkncpckgaa
