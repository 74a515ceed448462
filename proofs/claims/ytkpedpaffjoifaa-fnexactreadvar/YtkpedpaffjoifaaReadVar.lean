/-
  spec.ReadVar and impl.ReadVar at every text up to 1048576 bytes and every place; the law's walk.
-/
import Derived.Test.YtkpedpaffjoifaaReadVarI
import Derived.Test.YtkpedpaffjoifaaReadVarS
namespace Go.Proofs.Ytkpedpaffjoifaa
open Go.RowKit

set_option maxRecDepth 100000 in
set_option maxHeartbeats 400000 in
theorem irv_any (s : ByteArray) (x : Int) (w : World) (hs : s.size ≤ 1048576) :
    Calls Try.prog 13 #[.string s, .int .i64 x] w fun e w' => e = .returned (rdV s x) ∧ Below w.heap.size w w' := by
  by_cases h1 : x < 0
  · rw [rdV_out s x (.inl h1)]
    go_enter Try.func13, Try.ntmps13
    go_wp2
    go_ret3
    exact ⟨rfl, Below.refl _ _⟩
  by_cases h2 : (s.size : Int) < x
  · rw [rdV_out s x (.inr h2)]
    go_enter Try.func13, Try.ntmps13
    go_wp2
    go_ret3
    exact ⟨rfl, Below.refl _ _⟩
  obtain ⟨p, rfl⟩ : ∃ p : Nat, x = (p : Int) := ⟨x.toNat, by omega⟩
  rw [rdV_in s p (by omega)]
  refine (irv_in s p w hs (by omega)).mono ?_
  rintro e w' ⟨h, rfl⟩
  exact ⟨h, Below.refl _ _⟩

set_option maxRecDepth 100000 in
set_option maxHeartbeats 400000 in
theorem srv_any (s : ByteArray) (x : Int) (w : World) (hs : s.size ≤ 1048576) :
    Calls Try.prog 12 #[.string s, .int .i64 x] w fun e w' => e = .returned (rdV s x) ∧ Below w.heap.size w w' := by
  by_cases h1 : x < 0 ∨ (s.size : Int) < x
  · have hin : inB x 0 (s.size : Int) = false := by simp [inB]; omega
    rw [rdV_out s x h1]
    go_enter Try.func12, Try.ntmps12
    go_wp2_with (first | (go_at_call 24; refine (in_any _ _ _ _).mono ?_; rintro e w' ⟨rfl, rfl⟩))
    go_ret3
    exact ⟨rfl, Below.refl _ _⟩
  obtain ⟨p, rfl⟩ : ∃ p : Nat, x = (p : Int) := ⟨x.toNat, by omega⟩
  rw [rdV_in s p (by omega)]
  exact srv_in s p w hs (by omega)

theorem rdV_three (s : ByteArray) (x : Int) : ∃ (a b : Int) (c : Bool), rdV s x = .tuple #[.int .i64 a, .int .i64 b, .bool c] := by
  unfold rdV
  split
  · cases rdO s x.toNat with
    | none => exact ⟨_, _, _, rfl⟩
    | some y => exact ⟨_, _, _, rfl⟩
  · exact ⟨_, _, _, rfl⟩

set_option maxRecDepth 100000 in
set_option maxHeartbeats 400000 in
theorem fnExactReadVar_walk (s : ByteArray) (x : Int) (_ : s.size ≤ maxLen) (_ : (Lit.int .i64 x).wf = true) (w : World) :
    Calls Try.prog 4 #[.string s, .int .i64 x] w fun e w' => e = .returned (.bool true) ∧ Below w.heap.size w w' := by
  by_cases hs : (1048576 : Int) < (s.size : Int)
  · go_enter Try.func4, Try.ntmps4
    go_wp2
    go_ret
    exact ⟨rfl, Below.refl _ _⟩
  obtain ⟨a, b, c, hv⟩ := rdV_three s x
  go_enter Try.func4, Try.ntmps4
  go_wp2_with (first | (go_at_call 12; refine (srv_any _ _ _ (by omega)).mono ?_; rw [hv]; rintro e w1 ⟨rfl, hb1⟩) | (go_at_call 13; refine (irv_any _ _ _ (by omega)).mono ?_; rw [hv]; rintro e w2 ⟨rfl, hb2⟩))
  go_ret
  exact ⟨rfl, hb1.trans (hb2.mono hb1.size)⟩
end Go.Proofs.Ytkpedpaffjoifaa
