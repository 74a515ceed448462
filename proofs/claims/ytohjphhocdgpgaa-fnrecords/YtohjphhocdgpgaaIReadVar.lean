/-
  impl.ReadVar at every text up to 1048576 bytes and every place.
-/
import Derived.Test.YtohjphhocdgpgaaReadVarI
namespace Go.Proofs.Ytohjphhocdgpgaa
open Go.RowKit

set_option maxRecDepth 100000 in
set_option maxHeartbeats 400000 in
theorem irv_any (s : ByteArray) (x : Int) (w : World) (hs : s.size ≤ 1048576) :
    Calls Try.prog 96 #[.string s, .int .i64 x] w fun e w' => e = .returned (rdV s x) ∧ Below w.heap.size w w' := by
  by_cases h1 : x < 0
  · rw [rdV_out s x (.inl h1)]
    go_enter Try.func96, Try.ntmps96
    go_wp2
    go_ret3
    exact ⟨rfl, Below.refl _ _⟩
  by_cases h2 : (s.size : Int) < x
  · rw [rdV_out s x (.inr h2)]
    go_enter Try.func96, Try.ntmps96
    go_wp2
    go_ret3
    exact ⟨rfl, Below.refl _ _⟩
  obtain ⟨p, rfl⟩ : ∃ p : Nat, x = (p : Int) := ⟨x.toNat, by omega⟩
  rw [rdV_in s p (by omega)]
  refine (irv_in s p w hs (by omega)).mono ?_
  rintro e w' ⟨h, rfl⟩
  exact ⟨h, Below.refl _ _⟩

theorem rdV_three (s : ByteArray) (x : Int) : ∃ (a b : Int) (c : Bool), rdV s x = .tuple #[.int .i64 a, .int .i64 b, .bool c] := by
  unfold rdV
  split
  · cases rdO s x.toNat with
    | none => exact ⟨_, _, _, rfl⟩
    | some y => exact ⟨_, _, _, rfl⟩
  · exact ⟨_, _, _, rfl⟩
end Go.Proofs.Ytohjphhocdgpgaa
