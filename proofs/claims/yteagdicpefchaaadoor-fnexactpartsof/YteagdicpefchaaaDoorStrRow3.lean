/-
  laws.heldStringS: its contract over a row of marks.
-/
import Derived.Test.YteagdicpefchaaaDoorStrRow2
namespace Go.Proofs.YteagdicpefchaaaDoor
open Go.RowKit

set_option maxRecDepth 100000 in
set_option maxHeartbeats 1000000 in
theorem heldS_any (v : Value) (base : Nat) (m : Nat) (q : Int) (w : World) (h1 : w.ownsRow base 9 1 v m (strs (marks q m))) (hn : m ≤ 1000) (hq : -1000000 ≤ q) (hq2 : q ≤ 1000000) :
    Calls Tryd.prog 22 #[v, .int .i64 q] w fun e w' => e = .returned (.int .i64 (q + (m : Int))) ∧ Below w.heap.size w w' := by
  by_cases h0 : m = 0
  · subst h0
    obtain ⟨a1, c1, rfl⟩ := owns_len h1
    clear h1
    go_enter Tryd.func22, Tryd.ntmps22
    go_wp2
    refine wp_loop_rounds 1 ?_
    rw [rounds_succ]
    go_wp2
    go_ret
    exact ⟨by simp, Below.refl _ _⟩
  · obtain ⟨g1, c1, rfl, hg1, hl1⟩ := owns_shape h1 (by omega)
    have hc1 : ∀ k, k < m → w.cell? ⟨g1, k, none⟩ = some (.string (bs (mkT (q + (k : Int))))) := fun k h => by
      have hl : k < (marks q m).length := by rw [marks_length]; exact h
      rw [h1.cellAt k (by omega), strs_at _ k hl, marks_at]
    have C1 := hide hc1
    clear h1 h0 hc1
    go_enter Tryd.func22, Tryd.ntmps22
    go_wp2
    go_loopw [5, 1] (fun i r wr => ∃ k : Nat, k ≤ m ∧ i = .int .i64 k ∧ r = .int .i64 (q + (k : Int)) ∧ Below w.heap.size w wr) (fun i _ _ => m - (intOf i).toNat)
    case atStart => exact ⟨0, by omega, rfl, by simp, Below.refl _ _⟩
    case round =>
      obtain ⟨k, hk, rfl, rfl, hnx⟩ := hrel
      have hsz := hnx.size
      by_cases hlt : k < m
      · obtain ⟨t, ht⟩ : ∃ t, t = bs (mkT (q + (k : Int))) := ⟨_, rfl⟩
        have d1 : wr.cell? ⟨g1, k, none⟩ = some (.string t) := by rw [hnx.cell (p := ⟨g1, k, none⟩) hl1, C1.out k hlt, ht]
        have hg2 : g1 < wr.heap.size := by omega
        have hki : (0 : Int) ≤ (k : Int) := by omega
        have hkj : (k : Int) < (m : Int) := by omega
        have hmk : ∀ w, Calls Tryd.prog 33 #[.int .i64 (q + (k : Int))] w fun e w' => e = .returned (.string t) ∧ Below w.heap.size w w' := fun w => by rw [ht]; exact mark_any _ w (by omega)
        have MK := hide hmk
        clear ht hmk
        go_wp2
        go_region_held3 (fun w' => w'.cell? ⟨g1, k, none⟩ = some (.string t)) (first | go_keep | (rw [hbc.cell (p := ⟨g1, k, none⟩) (by simp; omega)]; go_keep)) (first | (go_at_call 33; refine (MK.out _).mono ?_; rintro e w' ⟨rfl, hbc⟩))
        go_wp2
        go_roundw
        case rel => exact ⟨k + 1, by omega, by go_num, by go_num, hnx.trans ((Below.refl _ _).drew.trans (hbc.mono hsz))⟩
        case measure => simp [intOf]; omega
      · have hkn : k = m := by omega
        have KN := hide hkn
        clear hkn
        go_wp2
        go_ret
        exact ⟨ret_int (by rw [KN.out]), hnx⟩
end Go.Proofs.YteagdicpefchaaaDoor
