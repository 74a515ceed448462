/-
  The plain mathematics of reading a number out of bytes.
-/
import Derived.Test.YtohjphhocdgpgaaMath
import Derived.Lib.Strings
namespace Go.Proofs.Ytohjphhocdgpgaa
open Go.RowKit

def valL : List UInt8 → Nat
  | [] => 0
  | b :: r => b.toNat % 128 + 128 * valL r

def pw (k : Nat) : Nat := 128 ^ k

theorem valL_snoc : ∀ (l : List UInt8) (c : UInt8), valL (l ++ [c]) = valL l + c.toNat % 128 * pw l.length
  | [], c => by simp [valL, pw]
  | b :: r, c => by
    have ih := valL_snoc r c
    simp only [List.cons_append, valL, ih, List.length_cons, pw, Nat.pow_succ, Nat.mul_add]
    rw [← Nat.mul_assoc, Nat.mul_comm 128 (c.toNat % 128), Nat.mul_assoc, Nat.mul_comm 128 (128 ^ r.length)]
    omega

theorem valL_lt : ∀ l : List UInt8, valL l < pw l.length
  | [] => by simp [valL, pw]
  | b :: r => by
    have ih := valL_lt r
    simp only [valL, List.length_cons, pw, Nat.pow_succ] at *
    omega

/-- the bytes are those of their number, unless the last of several is nought -/
theorem var_val : ∀ (pre : List UInt8) (c : UInt8), (∀ b ∈ pre, 127 < b.toNat) → c.toNat ≤ 127 → (varL (valL (pre ++ [c])) = pre ++ [c] ↔ ¬ (c.toNat = 0 ∧ pre ≠ []))
  | [], c, _, hc => by
    have e : valL ([] ++ [c]) = c.toNat := by simp [valL]; omega
    rw [e, varL_small hc]
    simp [loB]
  | b :: r, c, hp, hc => by
    have hb : 127 < b.toNat := hp b (by simp)
    have hb2 := b.toNat_lt
    have ih := var_val r c (fun x hx => hp x (by simp [hx])) hc
    have e : valL (b :: r ++ [c]) = b.toNat % 128 + 128 * valL (r ++ [c]) := by simp [valL]
    rw [e]
    by_cases hz : valL (r ++ [c]) = 0
    · rw [hz, varL_small (by omega)]
      have hc0 : c.toNat = 0 := by
        rw [valL_snoc] at hz
        have hpw : 0 < pw r.length := by simp [pw, Nat.pow_pos]
        have : c.toNat % 128 * pw r.length = 0 := by omega
        rcases Nat.mul_eq_zero.1 this with h | h <;> omega
      constructor
      · intro h
        have := congrArg List.length h
        simp at this
      · intro h
        exact absurd ⟨hc0, by simp⟩ h
    · rw [varL_big (by omega)]
      have e1 : hiB (b.toNat % 128 + 128 * valL (r ++ [c])) = b := by
        apply UInt8.toNat_inj.1
        simp [hiB]
        omega
      have e2 : (b.toNat % 128 + 128 * valL (r ++ [c])) / 128 = valL (r ++ [c]) := by omega
      rw [e1, e2, List.cons_append, List.cons_inj_right, ih]
      constructor
      · intro h ⟨h1, _⟩
        apply h
        refine ⟨h1, fun hr => ?_⟩
        subst hr
        simp [valL] at hz
        omega
      · intro h ⟨h1, _⟩
        exact h ⟨h1, by simp⟩

def rdA : Nat → List UInt8 → List UInt8 → Option (Nat × Nat)
  | 0, _, _ => none
  | _ + 1, _, [] => none
  | f + 1, pre, c :: r => if 127 < c.toNat then rdA f (pre ++ [c]) r else if (c.toNat = 0 ∧ pre ≠ []) ∨ 1000000000 < valL (pre ++ [c]) then none else some (valL (pre ++ [c]), pre.length + 1)

theorem rdA_end (f : Nat) (pre : List UInt8) : rdA f pre [] = none := by cases f <;> rfl
theorem rdA_more (f : Nat) (pre : List UInt8) (c : UInt8) (r : List UInt8) (h : 127 < c.toNat) : rdA (f + 1) pre (c :: r) = rdA f (pre ++ [c]) r := by simp [rdA, h]
theorem rdA_no (f : Nat) (pre : List UInt8) (c : UInt8) (r : List UInt8) (h : c.toNat ≤ 127) (h2 : (c.toNat = 0 ∧ pre ≠ []) ∨ 1000000000 < valL (pre ++ [c])) : rdA (f + 1) pre (c :: r) = none := by
  have : ¬ 127 < c.toNat := by omega
  simp only [rdA, if_neg this, if_pos h2]
theorem rdA_yes (f : Nat) (pre : List UInt8) (c : UInt8) (r : List UInt8) (h : c.toNat ≤ 127) (h2 : ¬ (c.toNat = 0 ∧ pre ≠ [])) (h3 : valL (pre ++ [c]) ≤ 1000000000) : rdA (f + 1) pre (c :: r) = some (valL (pre ++ [c]), pre.length + 1) := by
  have h4 : ¬ 127 < c.toNat := by omega
  have h5 : ¬ ((c.toNat = 0 ∧ pre ≠ []) ∨ 1000000000 < valL (pre ++ [c])) := by rintro (h | h); exact h2 h; omega
  simp only [rdA, if_neg h4, if_neg h5]

def rdO (s : ByteArray) (p : Nat) : Option (Nat × Nat) := rdA 5 [] (s.data.toList.drop p)
def rdT (p : Nat) : Option (Nat × Nat) → Value
  | some (v, k) => .tuple #[.int .i64 v, .int .i64 ((p + k : Nat) : Int), .bool true]
  | none => .tuple #[.int .i64 0, .int .i64 0, .bool false]
def rdV (s : ByteArray) (x : Int) : Value := if 0 ≤ x ∧ x ≤ (s.size : Int) then rdT x.toNat (rdO s x.toNat) else rdT 0 none

/-- what holds at the head of a round: q: the place; pre: the bytes since p -/
structure Rd (s : ByteArray) (p q : Nat) (pre : List UInt8) (m sc : Nat) : Prop where
  len : pre.length = q - p
  le : p ≤ q
  five : q ≤ p + 5
  size : q ≤ s.size
  val : m = valL pre
  scale : sc = pw (q - p)
  bytes : pre = (s.data.toList.drop p).take (q - p)
  high : ∀ b ∈ pre, 127 < b.toNat
  ans : rdO s p = rdA (p + 5 - q) pre (s.data.toList.drop q)

theorem Rd.first (s : ByteArray) (p : Nat) (h : p ≤ s.size) : Rd s p p [] 0 1 :=
  ⟨by simp, Nat.le_refl _, by omega, h, rfl, by simp [pw], by simp, by simp, by simp [rdO]⟩

theorem drop_byte (s : ByteArray) (q : Nat) (h : q < s.size) : s.data.toList.drop q = s[q] :: s.data.toList.drop (q + 1) := by
  rw [List.drop_eq_getElem_cons (by simpa using h)]
  rfl

theorem take_byte (s : ByteArray) (p q : Nat) (hpq : p ≤ q) (h : q < s.size) : (s.data.toList.drop p).take (q + 1 - p) = (s.data.toList.drop p).take (q - p) ++ [s[q]] := by
  have e : q + 1 - p = (q - p) + 1 := by omega
  rw [e, List.take_succ_eq_append_getElem (by simp; omega)]
  have e2 : (s.data.toList.drop p)[q - p]'(by simp; omega) = s[q] := by
    have e3 : p + (q - p) = q := by omega
    simp only [List.getElem_drop, e3]
    rfl
  rw [e2]

theorem Rd.lt {s : ByteArray} {p q : Nat} {pre : List UInt8} {m sc : Nat} (h : Rd s p q pre m sc) : m < sc := by
  rw [h.val, h.scale, ← h.len]; exact valL_lt pre

theorem Rd.cases {s : ByteArray} {p q : Nat} {pre : List UInt8} {m sc : Nat} (h : Rd s p q pre m sc) :
    (q = p ∧ sc = 1) ∨ (q = p + 1 ∧ sc = 128) ∨ (q = p + 2 ∧ sc = 16384) ∨ (q = p + 3 ∧ sc = 2097152) ∨ (q = p + 4 ∧ sc = 268435456) ∨ (q = p + 5 ∧ sc = 34359738368) := by
  have h1 := h.le
  have h2 := h.five
  have h3 := h.scale
  have : q = p ∨ q = p + 1 ∨ q = p + 2 ∨ q = p + 3 ∨ q = p + 4 ∨ q = p + 5 := by omega
  rcases this with e | e | e | e | e | e <;> subst e <;> simp [pw] at h3 <;> simp [h3]

theorem Rd.value {s : ByteArray} {p q : Nat} {pre : List UInt8} {m sc : Nat} (h : Rd s p q pre m sc) (hq : q < s.size) : m + s[q].toNat % 128 * sc = valL (pre ++ [s[q]]) := by
  rw [valL_snoc, h.val, h.scale, h.len]

theorem Rd.next {s : ByteArray} {p q : Nat} {pre : List UInt8} {m sc : Nat} (h : Rd s p q pre m sc) (hq : q < s.size) (h5 : q < p + 5) (hc : 127 < s[q].toNat) :
    Rd s p (q + 1) (pre ++ [s[q]]) (m + s[q].toNat % 128 * sc) (sc * 128) := by
  have hle := h.le
  refine ⟨by simp [h.len]; omega, by omega, by omega, by omega, h.value hq, ?_, ?_, ?_, ?_⟩
  · rw [h.scale, show q + 1 - p = (q - p) + 1 by omega]; simp [pw, Nat.pow_succ]
  · rw [take_byte s p q hle hq, ← h.bytes]
  · intro b hb
    rcases List.mem_append.1 hb with hb | hb
    · exact h.high b hb
    · simp at hb; rw [hb]; exact hc
  · rw [h.ans, drop_byte s q hq, show p + 5 - q = (p + 5 - (q + 1)) + 1 by omega, rdA_more _ _ _ _ hc]

theorem Rd.no_byte {s : ByteArray} {p q : Nat} {pre : List UInt8} {m sc : Nat} (h : Rd s p q pre m sc) (hq : s.size ≤ q ∨ p + 5 ≤ q) : rdO s p = none := by
  rw [h.ans]
  rcases hq with hq | hq
  · rw [List.drop_eq_nil_of_le (by simpa using hq), rdA_end]
  · rw [show p + 5 - q = 0 by omega]; rfl

theorem Rd.no {s : ByteArray} {p q : Nat} {pre : List UInt8} {m sc : Nat} (h : Rd s p q pre m sc) (hq : q < s.size) (h5 : q < p + 5) (hc : s[q].toNat ≤ 127)
    (hn : (s[q].toNat = 0 ∧ p < q) ∨ 1000000000 < m + s[q].toNat % 128 * sc) : rdO s p = none := by
  have hlen := h.len
  rw [h.ans, drop_byte s q hq, show p + 5 - q = (p + 5 - (q + 1)) + 1 by omega, rdA_no _ _ _ _ hc]
  rcases hn with ⟨h1, h2⟩ | h1
  · exact .inl ⟨h1, fun e => by subst e; simp at hlen; omega⟩
  · exact .inr (by rw [← h.value hq]; exact h1)

theorem Rd.yes {s : ByteArray} {p q : Nat} {pre : List UInt8} {m sc : Nat} (h : Rd s p q pre m sc) (hq : q < s.size) (h5 : q < p + 5) (hc : s[q].toNat ≤ 127)
    (hn : ¬ (s[q].toNat = 0 ∧ p < q)) (hm : m + s[q].toNat % 128 * sc ≤ 1000000000) : rdO s p = some (m + s[q].toNat % 128 * sc, q - p + 1) := by
  have hlen := h.len
  have hle := h.le
  rw [h.ans, drop_byte s q hq, show p + 5 - q = (p + 5 - (q + 1)) + 1 by omega, rdA_yes _ _ _ _ hc, ← h.value hq, hlen]
  · rintro ⟨h1, h2⟩
    apply hn
    refine ⟨h1, ?_⟩
    have := List.length_pos_iff.2 h2
    omega
  · rw [← h.value hq]; exact hm

theorem Rd.next' {s : ByteArray} {p q : Nat} {pre : List UInt8} {m sc c : Nat} (h : Rd s p q pre m sc) (hq : q < s.size) (hc : c = s[q].toNat) (h5 : q < p + 5) (hb : 127 < c) : Rd s p (q + 1) (pre ++ [s[q]]) (m + c % 128 * sc) (sc * 128) := by
  subst hc; exact h.next hq h5 hb
theorem Rd.no' {s : ByteArray} {p q : Nat} {pre : List UInt8} {m sc c : Nat} (h : Rd s p q pre m sc) (hq : q < s.size) (hc : c = s[q].toNat) (h5 : q < p + 5) (hb : c ≤ 127)
    (hn : (c = 0 ∧ p < q) ∨ 1000000000 < m + c % 128 * sc) : rdO s p = none := by
  subst hc; exact h.no hq h5 hb hn
theorem Rd.yes' {s : ByteArray} {p q : Nat} {pre : List UInt8} {m sc c : Nat} (h : Rd s p q pre m sc) (hq : q < s.size) (hc : c = s[q].toNat) (h5 : q < p + 5) (hb : c ≤ 127)
    (hn : ¬ (c = 0 ∧ p < q)) (hm : m + c % 128 * sc ≤ 1000000000) : rdO s p = some (m + c % 128 * sc, q - p + 1) := by
  subst hc; exact h.yes hq h5 hb hn hm

theorem bs_toList (l : List UInt8) : (bs l).toList = l := by simp [bs]

theorem Rd.cmp {s t : ByteArray} {p q : Nat} {pre : List UInt8} {m sc c N : Nat} (h : Rd s p q pre m sc) (hq : q < s.size) (hc : c = s[q].toNat) (hb : c ≤ 127) (ht : t = s.extract p (q + 1)) (hN : N = m + c % 128 * sc) :
    ((bs (varL N)).toList == t.toList) = !(decide (c = 0 ∧ p < q)) := by
  have e1 : t.toList = pre ++ [s[q]] := by
    rw [ht, ByteArray.toList_eq, Go.Lib.extract_data, take_byte s p q h.le hq, ← h.bytes]
  have e2 := var_val pre s[q] h.high (by omega)
  have e3 : N = valL (pre ++ [s[q]]) := by rw [hN, hc, h.value hq]
  have hlen := h.len
  have hle := h.le
  rw [bs_toList, e1, e3]
  have e4 : (pre ≠ []) ↔ p < q := by
    rw [← List.length_pos_iff, hlen]; omega
  rw [e4, ← hc] at e2
  by_cases hx : c = 0 ∧ p < q
  · have : ¬ varL (valL (pre ++ [s[q]])) = pre ++ [s[q]] := fun h => (e2.1 h) hx
    simp [this, hx]
  · have : varL (valL (pre ++ [s[q]])) = pre ++ [s[q]] := e2.2 hx
    rw [this]
    simp [hx]

theorem Rd.cmp_no {s t : ByteArray} {p q : Nat} {pre : List UInt8} {m sc c N : Nat} (h : Rd s p q pre m sc) (hq : q < s.size) (hc : c = s[q].toNat) (h5 : q < p + 5) (hb : c ≤ 127) (ht : t = s.extract p (q + 1)) (hN : N = m + c % 128 * sc)
    (hx : (!((bs (varL N)).toList == t.toList)) = true) : rdO s p = none := by
  rw [h.cmp hq hc hb ht hN] at hx
  exact h.no' hq hc h5 hb (.inl (by simpa using hx))
theorem Rd.cmp_yes {s t : ByteArray} {p q : Nat} {pre : List UInt8} {m sc c N : Nat} (h : Rd s p q pre m sc) (hq : q < s.size) (hc : c = s[q].toNat) (h5 : q < p + 5) (hb : c ≤ 127) (ht : t = s.extract p (q + 1)) (hN : N = m + c % 128 * sc)
    (hm : m + c % 128 * sc ≤ 1000000000) (hx : (!((bs (varL N)).toList == t.toList)) = false) : rdO s p = some (m + c % 128 * sc, q - p + 1) := by
  rw [h.cmp hq hc hb ht hN] at hx
  exact h.yes' hq hc h5 hb (by simpa using hx) hm

theorem rdV_out (s : ByteArray) (x : Int) (h : x < 0 ∨ (s.size : Int) < x) : rdV s x = .tuple #[.int .i64 0, .int .i64 0, .bool false] := by
  unfold rdV; rw [if_neg (by omega)]; rfl
theorem rdV_in (s : ByteArray) (p : Nat) (h : p ≤ s.size) : rdV s (p : Int) = rdT p (rdO s p) := by
  unfold rdV; rw [if_pos (by omega)]; rfl
theorem ret_no {s : ByteArray} {p : Nat} (h : rdO s p = none) : Ending.returned (.tuple #[.int .i64 0, .int .i64 0, .bool false]) = .returned (rdT p (rdO s p)) := by rw [h]; rfl
theorem ret_yes {s : ByteArray} {p v k : Nat} {a b : Int} (h : rdO s p = some (v, k)) (ha : a = (v : Int)) (hb : b = ((p + k : Nat) : Int)) : Ending.returned (.tuple #[.int .i64 a, .int .i64 b, .bool true]) = .returned (rdT p (rdO s p)) := by
  rw [h, ha, hb]; rfl
end Go.Proofs.Ytohjphhocdgpgaa
