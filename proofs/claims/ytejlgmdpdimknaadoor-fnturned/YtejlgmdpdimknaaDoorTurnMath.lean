/-
  One byte turned: not unsealed. A text sealed: unsealed as it was.
-/
import Derived.Test.YtejlgmdpdimknaaDoorUnseal
namespace Go.Proofs.YtejlgmdpdimknaaDoor
open Go.RowKit

theorem ba_ext {a b : ByteArray} (h : a.data.toList = b.data.toList) : a = b := by
  cases a
  cases b
  congr 1
  exact Array.toList_inj.1 h

theorem ext_list (s : ByteArray) (a b : Nat) : (s.extract a b).data.toList = (s.data.toList.take b).drop a := by
  simp [List.extract_eq_take_drop, List.drop_take]

theorem size_list (s : ByteArray) : s.size = s.data.toList.length := by simp

theorem unT_list (s : ByteArray) (n : Nat) : unT s n ↔ s.data.toList.drop n = fourL (upL 4294967295 (s.data.toList.take n)) := by
  unfold unT sumS
  rw [ext_list]
  constructor
  · intro h
    have := congrArg (fun b : ByteArray => b.data.toList) h
    simp only [ext_list] at this
    rw [size_list, List.take_length] at this
    simpa [bs] using this
  · intro h
    apply ba_ext
    rw [ext_list, size_list, List.take_length, h]
    simp [bs]

theorem seal_list (s : ByteArray) : (s ++ bs (fourL (sumS s))).data.toList = s.data.toList ++ fourL (upL 4294967295 s.data.toList) := by
  simp [bs, sumS]

theorem un_seal (s t : ByteArray) (ht : t = s ++ bs (fourL (sumS s))) (hs : s.size ≤ 20000) : unV t = .tuple #[.string s, .bool true] := by
  have hl : t.data.toList = s.data.toList ++ fourL (upL 4294967295 s.data.toList) := by rw [ht, seal_list]
  have hz : t.size = s.size + 4 := by rw [size_list, hl, size_list]; simp [fourL_len]
  have hn : t.size - 4 = s.data.toList.length := by rw [hz, size_list]; omega
  have e : t.extract 0 (t.size - 4) = s := by
    apply ba_ext
    rw [ext_list, hn, hl]
    simp
  rw [unV_yes (by omega) (by omega) ?_, e]
  · rw [unT_list, hn, hl]
    simp

theorem set_ne {l : List UInt8} {i : Nat} {c : UInt8} (hi : i < l.length) (hc : c ≠ l[i]) : l.set i c ≠ l := by
  intro h
  have := congrArg (fun x : List UInt8 => x[i]?) h
  simp [hi] at this
  exact hc this

theorem set_split (l : List UInt8) (i : Nat) (c : UInt8) (hi : i < l.length) : l = l.take i ++ l[i] :: l.drop (i + 1) ∧ l.set i c = l.take i ++ c :: l.drop (i + 1) := by
  constructor
  · simp
  · exact List.set_eq_take_append_cons_drop.trans (by rw [if_pos hi])

theorem turned_no (s t : ByteArray) (i : Nat) (c : UInt8) (hi : i < s.size + 4)
    (hl : t.data.toList = (s.data.toList ++ fourL (upL 4294967295 s.data.toList)).set i c)
    (hc : ∀ h : i < (s.data.toList ++ fourL (upL 4294967295 s.data.toList)).length, c ≠ (s.data.toList ++ fourL (upL 4294967295 s.data.toList))[i]) : unV t = .tuple #[.string (bs []), .bool false] := by
  apply unV_no
  rintro ⟨h1, h2, h3⟩
  have hsz := size_list s
  generalize s.data.toList = sl at *
  have hz : t.size = sl.length + 4 := by rw [size_list, hl]; simp [fourL_len]
  have hn : t.size - 4 = sl.length := by omega
  rw [unT_list, hn, hl] at h3
  have hlen : i < (sl ++ fourL (upL 4294967295 sl)).length := by simp [fourL_len]; omega
  have hc' := hc hlen
  by_cases hin : i < sl.length
  · rw [List.set_append_left _ _ hin] at h3
    have e1 : (sl.set i c ++ fourL (upL 4294967295 sl)).drop sl.length = fourL (upL 4294967295 sl) := by
      rw [List.drop_append_of_le_length (by simp), List.drop_eq_nil_of_le (by simp)]
      rfl
    have e2 : (sl.set i c ++ fourL (upL 4294967295 sl)).take sl.length = sl.set i c := by
      rw [List.take_append_of_le_length (by simp), List.take_of_length_le (by simp)]
    rw [e1, e2] at h3
    have e3 := fourL_inj (upL_lt _ _ (by omega)) (upL_lt _ _ (by omega)) h3
    obtain ⟨k1, k2⟩ := set_split sl i c hin
    rw [k2] at e3
    have e4 : upL 4294967295 (sl.take i ++ sl[i] :: sl.drop (i + 1)) = upL 4294967295 (sl.take i ++ c :: sl.drop (i + 1)) := by rw [← k1]; exact e3
    have := upL_turn _ _ _ _ _ (by omega) e4
    rw [List.getElem_append_left hin] at hc'
    exact hc' this.symm
  · rw [List.set_append_right _ _ (by omega)] at h3
    have e1 : (sl ++ (fourL (upL 4294967295 sl)).set (i - sl.length) c).drop sl.length = (fourL (upL 4294967295 sl)).set (i - sl.length) c := by simp
    have e2 : (sl ++ (fourL (upL 4294967295 sl)).set (i - sl.length) c).take sl.length = sl := by simp
    rw [e1, e2] at h3
    rw [List.getElem_append_right (by omega)] at hc'
    exact set_ne (by rw [fourL_len]; omega) hc' h3

theorem xor_u8 (b : UInt8) (c : Nat) (hc : c < 256) : bits .xor .u8 (b.toNat : Int) (c : Int) = ((b ^^^ UInt8.ofNat c).toNat : Int) := by
  have e : bits .xor .u8 (b.toNat : Int) (c : Int) = IntKind.u8.wrap ((BitVec.ofInt 8 (b.toNat : Int) ^^^ BitVec.ofInt 8 (c : Int)).toNat : Nat) := rfl
  have hb := b.toNat_lt
  have h : b.toNat ^^^ c < 256 := Nat.xor_lt_two_pow (n := 8) hb hc
  rw [e, BitVec.toNat_xor]
  simp only [BitVec.ofInt_natCast, BitVec.toNat_ofNat]
  rw [Nat.mod_eq_of_lt hb, Nat.mod_eq_of_lt hc]
  simp only [UInt8.toNat_xor, UInt8.toNat_ofNat']
  rw [Nat.mod_eq_of_lt hc]
  simp only [IntKind.wrap, IntKind.signed, IntKind.bits]
  simp
  omega

theorem xor_ne (b : UInt8) (c : Nat) (h0 : 0 < c) (hc : c < 256) : b ^^^ UInt8.ofNat c ≠ b := by
  intro h
  have h2 := congrArg UInt8.toNat h
  rw [UInt8.toNat_xor, UInt8.toNat_ofNat', Nat.mod_eq_of_lt hc] at h2
  have h3 : b.toNat ^^^ (b.toNat ^^^ c) = b.toNat ^^^ b.toNat := by rw [h2]
  rw [← Nat.xor_assoc, Nat.xor_self, Nat.zero_xor] at h3
  omega

theorem sum_x (s : ByteArray) : upL (upL 4294967295 s.data.toList) [120] = upL 4294967295 (s ++ ⟨#[120]⟩).data.toList := by
  simp [upL]
end Go.Proofs.YtejlgmdpdimknaaDoor
