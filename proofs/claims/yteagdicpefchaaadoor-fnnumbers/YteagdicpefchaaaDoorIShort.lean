/-
  impl.ShortText: its contract.
-/
import Derived.Test.YteagdicpefchaaaDoorIVarText
namespace Go.Proofs.YteagdicpefchaaaDoor
open Go.RowKit

theorem varV_in (n : Nat) (h : n ≤ 1000000000) : varV (n : Int) = .tuple #[.string (bs (varL n)), .bool true] := by
  unfold varV; rw [if_pos (by omega)]; rfl

theorem varL_len (n : Nat) : (varL n).length ≤ n + 1 := by
  induction n using Nat.strongRecOn with
  | _ n ih =>
    by_cases h : 127 < n
    · rw [varL_big h]; have := ih (n / 128) (by omega); simp; omega
    · rw [varL_small (by omega)]; simp

theorem bs_size (l : List UInt8) : (bs l).size = l.length := by simp [bs, ByteArray.size]

theorem var_size (n : Nat) : (bs (varL n)).size ≤ n + 1 := by rw [bs_size]; exact varL_len n

set_option maxHeartbeats 400000 in
theorem ist_any (s : ByteArray) (w : World) (hs : s.size ≤ 20000) :
    Calls Tryd.prog 13 #[.string s] w fun e w' => e = .returned (.tuple #[.string (bs (varL s.size) ++ s), .bool true]) ∧ Below w.heap.size w w' := by
  have hv := varV_in s.size (by omega)
  have hz := var_size s.size
  go_enter Tryd.func13, Tryd.ntmps13
  go_wp2_with (first | (go_at_call 8; refine (ivt_any _ _).mono ?_; rw [hv]; rintro e w' ⟨rfl, hb⟩))
  go_ret2
  exact ⟨rfl, hb⟩
end Go.Proofs.YteagdicpefchaaaDoor
