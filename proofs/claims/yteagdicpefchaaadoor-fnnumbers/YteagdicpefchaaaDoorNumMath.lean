/-
  What is written comes back: the plain mathematics.
-/
import Derived.Test.YteagdicpefchaaaDoorIReadShort
import Derived.Test.YteagdicpefchaaaDoorIHex
import Derived.Test.YteagdicpefchaaaDoorIUnhex
import Derived.Test.YteagdicpefchaaaDoorIReadDec
import Derived.Test.YteagdicpefchaaaDoorIShort
import Derived.Test.YteagdicpefchaaaDoorDec
namespace Go.Proofs.YteagdicpefchaaaDoor
open Go.RowKit

theorem loB_nat (n : Nat) (h : n ≤ 127) : (loB n).toNat = n := by have := byte_lo n h; omega
theorem hiB_nat (n : Nat) : (hiB n).toNat = n % 128 + 128 := by have := byte_hi n; omega

theorem rdA_var (n : Nat) : ∀ (f : Nat) (pre rest : List UInt8), n < 128 ^ (f + 1) → (0 < n ∨ pre = []) → valL pre + pw pre.length * n ≤ 1000000000 →
    rdA (f + 1) pre (varL n ++ rest) = some (valL pre + pw pre.length * n, pre.length + (varL n).length) := by
  induction n using Nat.strongRecOn with
  | _ n ih =>
    intro f pre rest hn hp hv
    by_cases h : 127 < n
    · have hf : ∃ g, f = g + 1 := by
        cases f with
        | zero => simp at hn; omega
        | succ g => exact ⟨g, rfl⟩
      obtain ⟨g, rfl⟩ := hf
      have e1 : valL (pre ++ [hiB n]) = valL pre + n % 128 * pw pre.length := by rw [valL_snoc, hiB_nat]; congr 2; omega
      have e2 : pw (pre ++ [hiB n]).length = 128 * pw pre.length := by simp [pw, Nat.pow_succ, Nat.mul_comm]
      have e4 : n % 128 * pw pre.length + 128 * pw pre.length * (n / 128) = pw pre.length * n := by
        have h1 : n = 128 * (n / 128) + n % 128 := (Nat.div_add_mod n 128).symm
        have h2 : pw pre.length * n = pw pre.length * (128 * (n / 128) + n % 128) := congrArg _ h1
        rw [h2, Nat.mul_add, Nat.mul_comm (n % 128), ← Nat.mul_assoc, Nat.mul_comm (pw pre.length) 128]
        omega
      have e3 : valL (pre ++ [hiB n]) + pw (pre ++ [hiB n]).length * (n / 128) = valL pre + pw pre.length * n := by rw [e1, e2]; omega
      rw [varL_big h, List.cons_append, rdA_more _ _ _ _ (by rw [hiB_nat]; omega), ih (n / 128) (by omega) g (pre ++ [hiB n]) rest (by rw [Nat.pow_succ] at hn; omega) (.inl (by omega)) (by rw [e3]; exact hv), e3]
      simp
      omega
    · have e1 : valL (pre ++ [loB n]) = valL pre + pw pre.length * n := by rw [valL_snoc, loB_nat n (by omega), Nat.mod_eq_of_lt (by omega), Nat.mul_comm]
      rw [varL_small (by omega), List.cons_append, List.nil_append, rdA_yes f pre (loB n) rest (by rw [loB_nat n (by omega)]; omega) (by
        rw [loB_nat n (by omega)]
        rintro ⟨h1, h2⟩
        rcases hp with hp | hp
        · omega
        · exact h2 hp) (by rw [e1]; exact hv), e1]
      simp

theorem rdA_var0 (n : Nat) (rest : List UInt8) (h : n ≤ 1000000000) : rdA 5 [] (varL n ++ rest) = some (n, (varL n).length) := by
  have := rdA_var n 4 [] rest (by omega) (.inr rfl) (by simp [valL, pw]; exact h)
  simpa [valL, pw] using this

theorem data_bs (l : List UInt8) : (bs l).data.toList = l := rfl
theorem data_app (a b : ByteArray) : (a ++ b).data.toList = a.data.toList ++ b.data.toList := by simp

/-- the number comes back from the middle of a text -/
theorem var_back (n : Nat) (x y : List UInt8) (h : n ≤ 1000000000) (t : ByteArray) (ht : t.data.toList = x ++ varL n ++ y) : rdV t (x.length : Int) = .tuple #[.int .i64 (n : Int), .int .i64 ((x.length + (varL n).length : Nat) : Int), .bool true] := by
  have hsz : t.size = x.length + (varL n).length + y.length := by
    have : t.data.toList.length = t.size := by simp
    rw [← this, ht]; simp; omega
  rw [rdV_in t x.length (by omega)]
  have e : rdO t x.length = some (n, (varL n).length) := by
    unfold rdO
    rw [ht, List.append_assoc, List.drop_left, rdA_var0 n y h]
  rw [e]
  rfl

theorem short_back (t u : ByteArray) (hu : u = bs (varL t.size) ++ t) (ht : t.size ≤ 20000) : shV u 0 = .tuple #[.string t, .int .i64 (u.size : Int), .bool true] := by
  have hd : u.data.toList = varL t.size ++ t.data.toList := by rw [hu, data_app, data_bs]
  have hsz : u.size = (varL t.size).length + t.size := by
    have h1 : u.data.toList.length = u.size := by simp
    have h2 : t.data.toList.length = t.size := by simp
    rw [← h1, hd, List.length_append, h2]
  have hr : rdR u 0 = some (t.size, (varL t.size).length) := by
    unfold rdR
    rw [if_pos (by omega)]
    have e : rdO u (0 : Int).toNat = some (t.size, (varL t.size).length) := by
      unfold rdO
      rw [hd]
      exact rdA_var0 _ _ (by omega)
    rw [e]
    simp
  rw [shV_yes hr (by omega)]
  have e1 : u.extract (varL t.size).length ((varL t.size).length + t.size) = t := by
    apply ByteArray.ext
    apply Array.toList_inj.1
    have h2 : t.data.toList.length = t.size := by simp
    rw [Go.Lib.extract_data, hd, List.drop_left, Nat.add_sub_cancel_left, List.take_of_length_le (by omega)]
  rw [e1, hsz]
  rfl

theorem fig_range (x : Int) (h0 : 0 ≤ x) (h1 : x < 16) : fv (fig x).toNat = x := by
  by_cases h : x < 10
  · have e := fig_lo x h0 h
    rw [fv_dig (by omega)]
    omega
  · have e := fig_hi x (by omega) h1
    rw [fv_let (by omega)]
    omega

theorem un_hex : ∀ l : List UInt8, unL (hexL l) = l ∧ okF (hexL l) = true
  | [] => ⟨rfl, rfl⟩
  | c :: r => by
    obtain ⟨h1, h2⟩ := un_hex r
    have hc := c.toNat_lt
    have e1 := fig_range ((c.toNat : Int) / 16) (by omega) (by omega)
    have e2 := fig_range ((c.toNat : Int) % 16) (by omega) (by omega)
    refine ⟨?_, ?_⟩
    · simp only [hexL, unL, h1]
      congr 1
      apply UInt8.toNat_inj.1
      unfold pairB
      rw [e1, e2]
      simp
      omega
    · simp only [hexL]
      show okF _ = true
      rw [show (fig ((c.toNat : Int) / 16) :: fig ((c.toNat : Int) % 16) :: hexL r) = [fig ((c.toNat : Int) / 16), fig ((c.toNat : Int) % 16)] ++ hexL r from rfl, okF_append, h2]
      simp [okF, e1, e2]
      omega

theorem hex_back (t : ByteArray) (ht : t.size ≤ 20000) : unW (bs (hexL t.data.toList)) = .tuple #[.string t, .bool true] := by
  have hz : (bs (hexL t.data.toList)).size = 2 * t.size := by
    have h2 : t.data.toList.length = t.size := by simp
    rw [bsz, hexL_len, h2]
  obtain ⟨h1, h2⟩ := un_hex t.data.toList
  rw [unW_in (by omega) (by omega), unV_yes (by rw [data_bs]; exact h2), data_bs, h1]
  rfl

theorem decN_val (n : Nat) : valD (decN n) = n ∧ allD (decN n) = true := by
  induction n using Nat.strongRecOn with
  | _ n ih =>
    by_cases h : 0 < n
    · obtain ⟨h1, h2⟩ := ih (n / 10) (by omega)
      have e : (digB n).toNat = 48 + n % 10 := by simp [digB]; omega
      rw [decN_pos h]
      refine ⟨by rw [valD_snoc, h1, e]; omega, by rw [allD_snoc, h2]; simp [isD, e]; omega⟩
    · have : n = 0 := by omega
      subst this
      rw [decN_zero]
      exact ⟨rfl, rfl⟩

theorem dec_back (n : Nat) (h : n ≤ 1000000000) : rdDV (bs (decI (n : Int))) = .tuple #[.int .i64 (n : Int), .bool true] := by
  have e : decI (n : Int) = decS n := by unfold decI; rw [if_neg (by omega)]; rfl
  have hv : valD (decS n) = n ∧ allD (decS n) = true := by
    unfold decS
    split
    · rename_i h0; subst h0; exact ⟨rfl, rfl⟩
    · exact decN_val n
  have hc : canon (decS n) = true := (dec_iff (decS n) hv.2).1 (by rw [hv.1])
  rw [e, rdDV_yes (by rw [data_bs]; exact hc) (by rw [data_bs, hv.1]; exact h), data_bs, hv.1]

theorem rdA_fuel : ∀ (f : Nat) (pre l : List UInt8) (v k : Nat), rdA f pre l = some (v, k) → k ≤ pre.length + f
  | 0, _, _, _, _, h => by simp [rdA] at h
  | f + 1, pre, [], _, _, h => by simp [rdA] at h
  | f + 1, pre, c :: r, v, k, h => by
    simp only [rdA] at h
    split at h
    · have := rdA_fuel f (pre ++ [c]) r v k h
      simp at this ⊢
      omega
    · split at h
      · cases h
      · simp at h
        omega

theorem dec_small (m : Nat) (h : m ≤ 1000000000) : (decI (m : Int)).length ≤ 1048576 := by
  have e : decI (m : Int) = decS m := by unfold decI; rw [if_neg (by omega)]; rfl
  have hv : valD (decS m) = m ∧ allD (decS m) = true := by
    unfold decS
    split
    · rename_i h0; subst h0; exact ⟨rfl, rfl⟩
    · exact decN_val m
  have hc : canon (decS m) = true := (dec_iff (decS m) hv.2).1 (by rw [hv.1])
  rw [e]
  by_cases hl : 10 < (decS m).length
  · have := canon_long _ hc hl
    omega
  · omega
end Go.Proofs.YteagdicpefchaaaDoor
