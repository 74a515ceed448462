/-
  spec.ShortText, impl.ShortText: their contracts; the law's walk.
-/
import Derived.Test.YtkpedpaffjoifaaVarText
namespace Go.Proofs.Ytkpedpaffjoifaa
open Go.RowKit

theorem varV_in (n : Nat) (h : n ≤ 1000000000) : varV (n : Int) = .tuple #[.string (bs (varL n)), .bool true] := by
  unfold varV; rw [if_pos (by omega)]; rfl

theorem varL_len (n : Nat) : (varL n).length ≤ n + 1 := by
  induction n using Nat.strongRecOn with
  | _ n ih =>
    by_cases h : 127 < n
    · rw [varL_big h]; have := ih (n / 128) (by omega); simp; omega
    · rw [varL_small (by omega)]; simp

theorem bs_size (l : List UInt8) : (bs l).size = l.length := by simp [bs, ByteArray.size]

theorem var_size (n : Nat) : (bs (varL n)).size ≤ n + 1 := by rw [bs_size]; exact varL_len n

set_option maxHeartbeats 400000 in
theorem sst_any (s : ByteArray) (w : World) (hs : s.size ≤ 20000) :
    Calls Try.prog 14 #[.string s] w fun e w' => e = .returned (.tuple #[.string (bs (varL s.size) ++ s), .bool true]) ∧ Below w.heap.size w w' := by
  have hi : ((s.size : Int)).toNat = s.size := by omega
  have hz := var_size s.size
  go_enter Try.func14, Try.ntmps14
  go_wp2_with (first | (go_at_call 25; refine (var_any _ _ (by omega) (by omega)).mono ?_; rw [hi]; rintro e w' ⟨rfl, hb⟩))
  go_ret2
  exact ⟨rfl, hb⟩

set_option maxHeartbeats 400000 in
theorem ist_any (s : ByteArray) (w : World) (hs : s.size ≤ 20000) :
    Calls Try.prog 15 #[.string s] w fun e w' => e = .returned (.tuple #[.string (bs (varL s.size) ++ s), .bool true]) ∧ Below w.heap.size w w' := by
  have hv := varV_in s.size (by omega)
  have hz := var_size s.size
  go_enter Try.func15, Try.ntmps15
  go_wp2_with (first | (go_at_call 11; refine (ivt_any _ _).mono ?_; rw [hv]; rintro e w' ⟨rfl, hb⟩))
  go_ret2
  exact ⟨rfl, hb⟩

set_option maxRecDepth 100000 in
set_option maxHeartbeats 400000 in
theorem fnExactShortText_walk (s : ByteArray) (_ : s.size ≤ maxLen) (w : World) :
    Calls Try.prog 5 #[.string s] w fun e w' => e = .returned (.bool true) ∧ Below w.heap.size w w' := by
  by_cases hs : (1048576 : Int) < (s.size : Int)
  · go_enter Try.func5, Try.ntmps5
    go_wp2
    go_ret
    exact ⟨rfl, Below.refl _ _⟩
  by_cases h2 : (20000 : Int) < (s.size : Int)
  · go_enter Try.func5, Try.ntmps5
    go_wp2
    go_ret
    exact ⟨rfl, Below.refl _ _⟩
  obtain ⟨t, ht⟩ : ∃ t, t = bs (varL s.size) ++ s := ⟨_, rfl⟩
  go_enter Try.func5, Try.ntmps5
  go_wp2_with (first | (go_at_call 14; refine (sst_any _ _ (by omega)).mono ?_; rw [← ht]; rintro e w1 ⟨rfl, hb1⟩) | (go_at_call 15; refine (ist_any _ _ (by omega)).mono ?_; rw [← ht]; rintro e w2 ⟨rfl, hb2⟩))
  go_ret
  exact ⟨rfl, hb1.trans (hb2.mono hb1.size)⟩
end Go.Proofs.Ytkpedpaffjoifaa
