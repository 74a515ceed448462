/-
  spec.Unhex and impl.Unhex at every text up to 1048576 bytes; the law's walk.
-/
import Derived.Test.YtkpedpaffjoifaaUnhex
namespace Go.Proofs.Ytkpedpaffjoifaa
open Go.RowKit

def unW (s : ByteArray) : Value := if s.size ≤ 40000 ∧ (s.size : Int) % 2 = 0 then unV s else .tuple #[.string (bs []), .bool false]
theorem unW_in {s : ByteArray} (h : s.size ≤ 40000) (h2 : (s.size : Int) % 2 = 0) : unW s = unV s := by unfold unW; rw [if_pos ⟨h, h2⟩]
theorem unW_out {s : ByteArray} (h : ¬ (s.size ≤ 40000 ∧ (s.size : Int) % 2 = 0)) : unW s = .tuple #[.string (bs []), .bool false] := by unfold unW; rw [if_neg h]

set_option maxRecDepth 100000 in
set_option maxHeartbeats 400000 in
theorem suh_any (s : ByteArray) (w : World) (hs : s.size ≤ 1048576) : Calls Try.prog 20 #[.string s] w fun e w' => e = .returned (unW s) ∧ Below w.heap.size w w' := by
  by_cases h1 : (40000 : Int) < (s.size : Int)
  · rw [unW_out (by omega)]
    go_enter Try.func20, Try.ntmps20
    go_wp2
    go_ret2
    exact ⟨rfl, Below.refl _ _⟩
  by_cases h2 : (s.size : Int) % 2 = 0
  · rw [unW_in (by omega) h2]
    exact suh_in s w (by omega) h2
  · rw [unW_out (by omega)]
    have h3 : (s.size : Int) % 2 = 1 := by omega
    clear h2
    go_enter Try.func20, Try.ntmps20
    go_wp2
    go_ret2
    exact ⟨rfl, Below.refl _ _⟩

set_option maxRecDepth 100000 in
set_option maxHeartbeats 400000 in
theorem iuh_any (s : ByteArray) (w : World) (hs : s.size ≤ 1048576) : Calls Try.prog 21 #[.string s] w fun e w' => e = .returned (unW s) ∧ Below w.heap.size w w' := by
  by_cases h2 : (s.size : Int) % 2 = 0
  · by_cases h1 : (40000 : Int) < (s.size : Int)
    · rw [unW_out (by omega)]
      go_enter Try.func21, Try.ntmps21
      go_wp2
      go_step3
      go_wp2
      first | go_ret2 | (rw [Exit.noGoto_ret]; go_ret2)
      exact ⟨rfl, Below.refl _ _⟩
    rw [unW_in (by omega) h2]
    exact iuh_in s w (by omega) h2
  · rw [unW_out (by omega)]
    have h3 : (s.size : Int) % 2 = 1 := by omega
    clear h2
    go_enter Try.func21, Try.ntmps21
    go_wp2
    go_step3
    go_wp2
    first | go_ret2 | (rw [Exit.noGoto_ret]; go_ret2)
    exact ⟨rfl, Below.refl _ _⟩

theorem unW_two (s : ByteArray) : ∃ (t : ByteArray) (b : Bool), unW s = .tuple #[.string t, .bool b] := by
  unfold unW unV
  split
  · split <;> exact ⟨_, _, rfl⟩
  · exact ⟨_, _, rfl⟩

set_option maxRecDepth 100000 in
set_option maxHeartbeats 400000 in
theorem fnExactUnhex_walk (s : ByteArray) (_ : s.size ≤ maxLen) (w : World) :
    Calls Try.prog 8 #[.string s] w fun e w' => e = .returned (.bool true) ∧ Below w.heap.size w w' := by
  by_cases hs : (1048576 : Int) < (s.size : Int)
  · go_enter Try.func8, Try.ntmps8
    go_wp2
    go_ret
    exact ⟨rfl, Below.refl _ _⟩
  obtain ⟨t, b, hv⟩ := unW_two s
  go_enter Try.func8, Try.ntmps8
  go_wp2_with (first | (go_at_call 20; refine (suh_any _ _ (by omega)).mono ?_; rw [hv]; rintro e w1 ⟨rfl, hb1⟩) | (go_at_call 21; refine (iuh_any _ _ (by omega)).mono ?_; rw [hv]; rintro e w2 ⟨rfl, hb2⟩))
  go_ret
  exact ⟨rfl, hb1.trans (hb2.mono hb1.size)⟩
end Go.Proofs.Ytkpedpaffjoifaa
