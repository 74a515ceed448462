/-
  The plain mathematics of decimal figures.
-/
import Derived.Test.YtpiookjdeopmgaaDoorMath
namespace Go.Proofs.YtpiookjdeopmgaaDoor
open Go.RowKit

def digB (n : Nat) : UInt8 := UInt8.ofNat (48 + n % 10)
def decN (n : Nat) : List UInt8 := if _h : 0 < n then decN (n / 10) ++ [digB n] else []
def decS (n : Nat) : List UInt8 := if n = 0 then [48] else decN n

theorem decN_pos {n : Nat} (h : 0 < n) : decN n = decN (n / 10) ++ [digB n] := by rw [decN]; simp [h]
theorem decN_zero : decN 0 = [] := by rw [decN]; simp

theorem decN_head (n : Nat) (h : 0 < n) : ∃ c t, decN n = c :: t ∧ c ≠ 48 := by
  induction n using Nat.strongRecOn with
  | _ n ih =>
    rw [decN_pos h]
    by_cases h2 : 0 < n / 10
    · obtain ⟨c, t, e, hc⟩ := ih (n / 10) (by omega) h2
      exact ⟨c, t ++ [digB n], by rw [e]; simp, hc⟩
    · have e : n / 10 = 0 := by omega
      rw [e, decN_zero]
      refine ⟨digB n, [], rfl, fun hh => ?_⟩
      have := congrArg UInt8.toNat hh
      simp [digB] at this
      omega

def val10 : List UInt8 → Nat → Nat
  | [], a => a
  | c :: r, a => val10 r (10 * a + (c.toNat - 48))
def valD (l : List UInt8) : Nat := val10 l 0
def isD (c : UInt8) : Bool := decide (48 ≤ c.toNat) && decide (c.toNat ≤ 57)
def allD (l : List UInt8) : Bool := l.all isD

theorem val10_snoc : ∀ (l : List UInt8) (c : UInt8) (a : Nat), val10 (l ++ [c]) a = 10 * val10 l a + (c.toNat - 48)
  | [], _, _ => rfl
  | b :: r, c, a => by simp only [List.cons_append, val10]; exact val10_snoc r c _
theorem valD_snoc (l : List UInt8) (c : UInt8) : valD (l ++ [c]) = 10 * valD l + (c.toNat - 48) := val10_snoc l c 0
theorem val10_ge : ∀ (l : List UInt8) (a : Nat), a ≤ val10 l a
  | [], _ => Nat.le_refl _
  | c :: r, a => by have := val10_ge r (10 * a + (c.toNat - 48)); simp only [val10]; omega
theorem val10_append : ∀ (l r : List UInt8) (a : Nat), val10 (l ++ r) a = val10 r (val10 l a)
  | [], _, _ => rfl
  | b :: l, r, a => by simp only [List.cons_append, val10]; exact val10_append l r _
theorem valD_ge (l r : List UInt8) : valD l ≤ valD (l ++ r) := by unfold valD; rw [val10_append]; exact val10_ge _ _
theorem allD_snoc (l : List UInt8) (c : UInt8) : allD (l ++ [c]) = (allD l && isD c) := by simp [allD]
theorem allD_append (l r : List UInt8) : allD (l ++ r) = (allD l && allD r) := by simp [allD]

theorem val10_big : ∀ (l : List UInt8) (a : Nat), a * 10 ^ l.length ≤ val10 l a
  | [], a => by simp [val10]
  | c :: r, a => by
    have h := val10_big r (10 * a + (c.toNat - 48))
    simp only [val10, List.length_cons, Nat.pow_succ]
    refine Nat.le_trans ?_ h
    have : a * (10 ^ r.length * 10) = (10 * a) * 10 ^ r.length := by rw [Nat.mul_comm (10 ^ r.length) 10, ← Nat.mul_assoc, Nat.mul_comm a 10]
    rw [this]
    exact Nat.mul_le_mul_right _ (by omega)

theorem dec_val (h : UInt8) (h1 : 49 ≤ h.toNat) (h2 : h.toNat ≤ 57) : ∀ r : List UInt8, allD r.reverse = true → 0 < valD (h :: r.reverse) ∧ decN (valD (h :: r.reverse)) = h :: r.reverse
  | [], _ => by
    have e : valD [h] = h.toNat - 48 := by simp [valD, val10]
    simp only [List.reverse_nil, e]
    refine ⟨by omega, ?_⟩
    rw [decN_pos (by omega), show (h.toNat - 48) / 10 = 0 by omega, decN_zero]
    have : digB (h.toNat - 48) = h := by
      apply UInt8.toNat_inj.1
      simp [digB]
      omega
    rw [this]; rfl
  | c :: r, hd => by
    rw [List.reverse_cons, allD_snoc, Bool.and_eq_true] at hd
    obtain ⟨hp, he⟩ := dec_val h h1 h2 r hd.1
    have hc : 48 ≤ c.toNat ∧ c.toNat ≤ 57 := by simpa [isD] using hd.2
    have e : valD (h :: (c :: r).reverse) = 10 * valD (h :: r.reverse) + (c.toNat - 48) := by
      rw [List.reverse_cons, ← List.cons_append, valD_snoc]
    rw [e]
    refine ⟨by omega, ?_⟩
    rw [decN_pos (by omega), show (10 * valD (h :: r.reverse) + (c.toNat - 48)) / 10 = valD (h :: r.reverse) by omega, he]
    have : digB (10 * valD (h :: r.reverse) + (c.toNat - 48)) = c := by
      apply UInt8.toNat_inj.1
      simp [digB]
      omega
    rw [this]; simp

/-- a text of figures that is the text of its number -/
def canon (l : List UInt8) : Bool := match l with
  | [] => false
  | c :: t => allD (c :: t) && (t.isEmpty || decide (c.toNat ≠ 48))

theorem dec_iff (l : List UInt8) (hd : allD l = true) : (decS (valD l) = l) ↔ canon l = true := by
  cases l with
  | nil => simp [canon, valD, val10, decS]
  | cons c t =>
    have hc : 48 ≤ c.toNat ∧ c.toNat ≤ 57 := by simp [allD, isD] at hd; exact hd.1
    have ht : allD t = true := by simp [allD] at hd ⊢; exact hd.2
    by_cases h48 : c.toNat = 48
    · have e : c = 48 := UInt8.toNat_inj.1 (by rw [h48]; rfl)
      subst e
      cases t with
      | nil => simp [canon, valD, val10, decS, hd]
      | cons d u =>
        simp only [canon, hd]
        simp
        intro hh
        unfold decS at hh
        split at hh
        · simp at hh
        · rename_i hz
          obtain ⟨x, y, e1, e2⟩ := decN_head _ (Nat.pos_of_ne_zero hz)
          rw [e1] at hh
          simp at hh
          exact e2 hh.1
    · have h := dec_val c (by omega) hc.2 t.reverse (by simpa using ht)
      rw [List.reverse_reverse] at h
      have e : decS (valD (c :: t)) = c :: t := by unfold decS; rw [if_neg (by omega)]; exact h.2
      simp [e, canon, hd, h48]

/-- more than ten figures of a number's text are too many -/
theorem canon_long (l : List UInt8) (h : canon l = true) (hl : 10 < l.length) : 1000000000 < valD l := by
  cases l with
  | nil => simp at hl
  | cons c t =>
    simp only [canon, Bool.and_eq_true, Bool.or_eq_true] at h
    have ht : t.isEmpty = false := by cases t with | nil => simp at hl | cons _ _ => rfl
    rw [ht] at h
    have hc : 48 ≤ c.toNat := by have := h.1; simp [allD, isD] at this; exact this.1.1
    have h48 : c.toNat ≠ 48 := by simpa using h.2
    have hb := val10_big t (10 * 0 + (c.toNat - 48))
    have hp : 10 ^ 10 ≤ 10 ^ t.length := Nat.pow_le_pow_right (by omega) (by simp at hl; omega)
    have : 1 * 10 ^ t.length ≤ (10 * 0 + (c.toNat - 48)) * 10 ^ t.length := Nat.mul_le_mul_right _ (by omega)
    have e : valD (c :: t) = val10 t (10 * 0 + (c.toNat - 48)) := rfl
    rw [e]
    omega

def rdDO (l : List UInt8) : Option Nat := if canon l = true ∧ valD l ≤ 1000000000 then some (valD l) else none
def rdDT : Option Nat → Value
  | some n => .tuple #[.int .i64 (n : Int), .bool true]
  | none => .tuple #[.int .i64 0, .bool false]
def rdDV (s : ByteArray) : Value := rdDT (rdDO s.data.toList)

theorem rdDV_two (s : ByteArray) : ∃ (a : Int) (b : Bool), rdDV s = .tuple #[.int .i64 a, .bool b] := by
  unfold rdDV; cases rdDO s.data.toList <;> exact ⟨_, _, rfl⟩
theorem rdDV_no {s : ByteArray} (h : ¬ (canon s.data.toList = true ∧ valD s.data.toList ≤ 1000000000)) : rdDV s = .tuple #[.int .i64 0, .bool false] := by
  unfold rdDV rdDO; rw [if_neg h]; rfl
theorem rdDV_yes {s : ByteArray} (h : canon s.data.toList = true) (h2 : valD s.data.toList ≤ 1000000000) : rdDV s = .tuple #[.int .i64 (valD s.data.toList : Int), .bool true] := by
  unfold rdDV rdDO; rw [if_pos ⟨h, h2⟩]; rfl
theorem canon_allD {l : List UInt8} (h : canon l = true) : allD l = true := by
  cases l with
  | nil => simp [canon] at h
  | cons c t => simp only [canon, Bool.and_eq_true] at h; exact h.1

theorem allD_bad (s : ByteArray) (k : Nat) (h : k < s.size) (hb : s[k].toNat < 48 ∨ 57 < s[k].toNat) : allD s.data.toList = false := by
  have e : s.data.toList = s.data.toList.take k ++ (s[k] :: s.data.toList.drop (k + 1)) := by
    have : s.data.toList.drop k = s[k] :: s.data.toList.drop (k + 1) := by
      rw [List.drop_eq_getElem_cons (by simpa using h)]; rfl
    rw [← this, List.take_append_drop]
  rw [e, allD_append]
  have : isD s[k] = false := by
    rcases hb with hb | hb
    · simp [isD]; omega
    · simp [isD]; omega
  simp [allD, this]

theorem takeD_one (s : ByteArray) (k : Nat) (h : k < s.size) : s.data.toList.take (k + 1) = s.data.toList.take k ++ [s[k]] := by
  rw [List.take_succ_eq_append_getElem (by simpa using h)]; rfl

theorem bs_append (a b : List UInt8) : bs a ++ bs b = bs (a ++ b) := by
  apply ByteArray.ext
  simp [bs]
end Go.Proofs.YtpiookjdeopmgaaDoor
