/-
  spec.ReadVar at every text up to 1048576 bytes and every place.
-/
import Derived.Test.YtohjphhocdgpgaaIReadVar
import Derived.Test.YtohjphhocdgpgaaSrvS
namespace Go.Proofs.Ytohjphhocdgpgaa
open Go.RowKit

set_option maxRecDepth 100000 in
set_option maxHeartbeats 400000 in
theorem srv_any (s : ByteArray) (x : Int) (w : World) (hs : s.size ≤ 1048576) :
    Calls Try.prog 102 #[.string s, .int .i64 x] w fun e w' => e = .returned (rdV s x) ∧ Below w.heap.size w w' := by
  by_cases h1 : x < 0 ∨ (s.size : Int) < x
  · have hin : inB x 0 (s.size : Int) = false := by simp [inB]; omega
    rw [rdV_out s x h1]
    go_enter Try.func102, Try.ntmps102
    go_wp2_with (first | (go_at_call 64; refine (in_any _ _ _ _).mono ?_; rintro e w' ⟨rfl, rfl⟩))
    go_ret3
    exact ⟨rfl, Below.refl _ _⟩
  obtain ⟨p, rfl⟩ : ∃ p : Nat, x = (p : Int) := ⟨x.toNat, by omega⟩
  rw [rdV_in s p (by omega)]
  exact srv_in s p w hs (by omega)
end Go.Proofs.Ytohjphhocdgpgaa
