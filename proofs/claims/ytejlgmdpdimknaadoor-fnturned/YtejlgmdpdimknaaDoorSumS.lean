/-
  spec.SumMore, spec.SumOf: their contracts.
-/
import Derived.Test.YtejlgmdpdimknaaDoorBase
import Derived.Test.YtejlgmdpdimknaaDoorSumMath
namespace Go.Proofs.YtejlgmdpdimknaaDoor
open Go.RowKit

def stN : Nat → Nat → Nat
  | 0, x => x
  | k + 1, x => st (stN k x)

theorem stN_lt : ∀ (k x : Nat), x < 4294967296 → stN k x < 4294967296
  | 0, _, h => h
  | k + 1, x, h => st_lt _ (stN_lt k x h)

theorem upL_snoc (x : Nat) (l : List UInt8) (b : UInt8) : upL x (l ++ [b]) = upB (upL x l) b := by simp [upL]

theorem take_snoc (l : List UInt8) (k : Nat) (h : k < l.length) : l.take (k + 1) = l.take k ++ [l[k]] := by simp

set_option maxRecDepth 100000 in
set_option maxHeartbeats 1000000 in
theorem ssm_any (x : Nat) (s : ByteArray) (w : World) (hx : x < 4294967296) (hs : s.size ≤ 100000000) :
    Calls Tryd.prog 8 #[.int .u32 (x : Int), .string s] w fun e w' => e = .returned (.int .u32 ((upL x s.data.toList : Nat) : Int)) ∧ w = w' := by
  go_enter Tryd.func8, Tryd.ntmps8
  go_wp2
  go_loop [0, 5] (fun v i => ∃ k y : Nat, k ≤ s.size ∧ i = .int .i64 k ∧ v = .int .u32 (y : Int) ∧ Hid (y = upL x (s.data.toList.take k))) (fun _ i => s.size - (intOf i).toNat)
  case atStart => exact ⟨0, x, by omega, rfl, rfl, rfl⟩
  case round =>
    obtain ⟨k, y, hk, rfl, rfl, hy⟩ := hrel
    have hy2 : y < 4294967296 := by rw [hy.out]; exact upL_lt _ _ hx
    by_cases hlt : k < s.size
    · have hb := (s[k]).toNat_lt
      have hxor := xor_u32 y (s[k]).toNat hy2 (by omega)
      obtain ⟨z, hz⟩ : ∃ z : Nat, z = y ^^^ (s[k]).toNat := ⟨_, rfl⟩
      have hz2 : z < 4294967296 := by rw [hz]; exact Nat.xor_lt_two_pow (n := 32) hy2 (by omega)
      have hup : stN 8 z = upL x (s.data.toList.take (k + 1)) := by
        have hk' : k < s.data.toList.length := by simpa using hlt
        rw [take_snoc _ _ hk', upL_snoc, ← hy.out, hz]
        rfl
      rw [← hz] at hxor
      have HUP := hide hup
      clear hup hz
      go_wp2
      go_loop [0, 6] (fun v i => ∃ j c : Nat, j ≤ 8 ∧ i = .int .i64 j ∧ v = .int .u32 (c : Int) ∧ Hid (c = stN j z)) (fun _ i => 8 - (intOf i).toNat)
      case atStart => exact ⟨0, z, by omega, rfl, rfl, rfl⟩
      case round =>
        obtain ⟨j, c, hj, rfl, rfl, hc⟩ := hrel
        by_cases hj8 : j < 8
        · have hc2 : c < 4294967296 := by rw [hc.out]; exact stN_lt _ _ hz2
          have hst : st c = stN (j + 1) z := by rw [hc.out]; rfl
          have HST := hide hst
          clear hst hxor
          by_cases hodd : c % 2 = 1
          · have h1 : (c : Int) % 2 = 1 := by omega
            have h2 := xor_u32 (c / 2) 3558460437 (by omega) (by omega)
            have h3 : st c = c / 2 ^^^ 3558460437 := by unfold st; rw [if_pos hodd]
            simp at h2
            go_wp2
            go_round
            case rel => exact ⟨j + 1, c / 2 ^^^ 3558460437, by omega, by go_num, by simp, (by rw [← h3]; exact HST.out)⟩
            case measure => simp [intOf]; omega
          · have h1 : (c : Int) % 2 = 0 := by omega
            have h3 : st c = c / 2 := by unfold st; rw [if_neg hodd]
            go_wp2
            go_round
            case rel => exact ⟨j + 1, c / 2, by omega, by go_num, by simp, (by rw [← h3]; exact HST.out)⟩
            case measure => simp [intOf]; omega
        · obtain rfl : j = 8 := by omega
          clear hxor
          go_wp2
          go_round
          case rel => exact ⟨k + 1, c, by omega, by go_num, rfl, by rw [← HUP.out]; exact hc.out⟩
          case measure => simp [intOf]; omega
    · have hfin : y = upL x s.data.toList := by rw [hy.out, List.take_of_length_le (by simp; omega)]
      have HF := hide hfin
      clear hfin
      go_wp2
      go_ret
      exact ⟨by rw [HF.out]; rfl, rfl⟩

set_option maxHeartbeats 400000 in
theorem sso_any (s : ByteArray) (w : World) (hs : s.size ≤ 100000000) :
    Calls Tryd.prog 10 #[.string s] w fun e w' => e = .returned (.int .u32 ((upL 4294967295 s.data.toList : Nat) : Int)) ∧ w = w' := by
  obtain ⟨t, ht⟩ : ∃ t : Nat, t = upL 4294967295 s.data.toList := ⟨_, rfl⟩
  have hc := ssm_any 4294967295 s w (by omega) hs
  rw [← ht] at hc ⊢
  go_enter Tryd.func10, Tryd.ntmps10
  go_wp2_with fail
  refine hc.mono ?_
  rintro e w' ⟨rfl, rfl⟩
  have HT := hide ht
  clear ht hc
  go_wp2
  go_ret
  exact ⟨rfl, rfl⟩
end Go.Proofs.YtejlgmdpdimknaaDoor
