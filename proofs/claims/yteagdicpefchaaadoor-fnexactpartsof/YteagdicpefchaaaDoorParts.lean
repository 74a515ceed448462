/-
  spec.PartsOf and impl.PartsOf: their contracts.
-/
import Derived.Test.YteagdicpefchaaaDoorStrRow3
import Derived.Test.YteagdicpefchaaaDoorShelf
import Derived.Lib.LaidTab
import Derived.Lib.FieldsLaws
import Derived.Stop.LaidErr
import Derived.MakeChecks
namespace Go.Proofs.YteagdicpefchaaaDoor
open Go.RowKit

theorem Tryd.info9 : (Tryd.prog.info? 9).map (fun i => (i.zero, i.size, i.bytes)) = some (some (.string ⟨#[]⟩), 1, 16) := by kernel_rfl

def okB (b : UInt8) : Bool := decide (32 ≤ b.toNat) && decide (b.toNat ≤ 126)
def okL (l : List UInt8) : Bool := l.all okB
theorem okL_append (l r : List UInt8) : okL (l ++ r) = (okL l && okL r) := by simp [okL]
theorem okL_take (s : ByteArray) (k : Nat) (h : k < s.size) : okL (s.data.toList.take (k + 1)) = (okL (s.data.toList.take k) && okB s[k]) := by
  rw [takeD_one s k h, okL_append]; simp [okL]
theorem okL_bad (s : ByteArray) (k : Nat) (h : k < s.size) (hb : s[k].toNat < 32 ∨ 126 < s[k].toNat) : okL s.data.toList = false := by
  have e : s.data.toList = s.data.toList.take k ++ (s[k] :: s.data.toList.drop (k + 1)) := by
    have : s.data.toList.drop k = s[k] :: s.data.toList.drop (k + 1) := by
      rw [List.drop_eq_getElem_cons (by simpa using h)]; rfl
    rw [← this, List.take_append_drop]
  rw [e, okL_append]
  have : okB s[k] = false := by
    rcases hb with hb | hb
    · simp [okB]; omega
    · simp [okB]; omega
  simp [okL, this]
theorem sp_of {b : UInt8} (h1 : 32 ≤ b.toNat) : Lib.isSp b = decide (b.toNat = 32) := by
  by_cases h : b.toNat = 32
  · have e : b = 32 := UInt8.toNat_inj.1 (by rw [h]; rfl)
    subst e
    rfl
  · have hne : ∀ c : UInt8, c.toNat ≤ 32 → (b == c) = false := fun c hc => by
      simp only [beq_eq_false_iff_ne]
      intro e
      subst e
      omega
    simp [Lib.isSp, h, hne]

def goodS (s : ByteArray) : Bool := decide (s.size ≤ 600) && okL s.data.toList && decide ((Lib.fields s.data.toList).length ≤ 10)
def prL (s : ByteArray) : List (List UInt8) := if goodS s = true then Lib.fields s.data.toList else []
theorem prL_len (s : ByteArray) : (prL s).length ≤ 10 := by
  unfold prL
  split
  · rename_i h; simp [goodS] at h; exact h.2
  · simp
theorem prL_yes {s : ByteArray} (h : goodS s = true) : prL s = Lib.fields s.data.toList := by unfold prL; rw [if_pos h]
theorem prL_no {s : ByteArray} (h : goodS s = false) : prL s = [] := by unfold prL; rw [if_neg (by simp [h])]

/-- at the head of a round: b: where the word began; k: the place; done: the words so far -/
structure Pt (s : ByteArray) (b k : Nat) (done : List (List UInt8)) : Prop where
  bk : b ≤ k
  ks : k ≤ s.size
  ok : okL (s.data.toList.take k) = true
  len : done.length ≤ k
  all : Lib.fields s.data.toList = done ++ Lib.fieldsGo ((s.data.toList.drop b).take (k - b)) (s.data.toList.drop k)

theorem Pt.first (s : ByteArray) : Pt s 0 0 [] := ⟨by omega, by omega, by simp [okL], by simp, by simp [Lib.fields]⟩

theorem drop_one (s : ByteArray) (k : Nat) (h : k < s.size) : s.data.toList.drop k = s[k] :: s.data.toList.drop (k + 1) := by
  rw [List.drop_eq_getElem_cons (by simpa using h)]; rfl
theorem piece_one (s : ByteArray) (b k : Nat) (hb : b ≤ k) (h : k < s.size) : (s.data.toList.drop b).take (k + 1 - b) = (s.data.toList.drop b).take (k - b) ++ [s[k]] :=
  Lib.piece_more hb (by rw [List.getElem?_eq_getElem (by simpa using h)]; rfl)

theorem Pt.more {s : ByteArray} {b k : Nat} {done : List (List UInt8)} (h : Pt s b k done) (hk : k < s.size) (h1 : 32 < s[k].toNat) (h2 : s[k].toNat ≤ 126) : Pt s b (k + 1) done := by
  refine ⟨by have := h.bk; omega, by omega, ?_, by have := h.len; omega, ?_⟩
  · rw [okL_take s k hk, h.ok]; simp [okB]; omega
  · rw [h.all, drop_one s k hk, Lib.fieldsGo_more _ _ _ (by rw [sp_of (by omega)]; simp; omega), piece_one s b k h.bk hk]

theorem Pt.word {s : ByteArray} {b k : Nat} {done : List (List UInt8)} (h : Pt s b k done) (hk : k < s.size) (h1 : s[k].toNat = 32) (hb : b < k) : Pt s (k + 1) (k + 1) (done ++ [(s.data.toList.drop b).take (k - b)]) := by
  refine ⟨by omega, by omega, ?_, by have := h.len; simp; omega, ?_⟩
  · rw [okL_take s k hk, h.ok]; simp [okB]; omega
  · rw [h.all, drop_one s k hk, Lib.fieldsGo_end _ _ _ (by rw [sp_of (by omega)]; simp [h1]) (Lib.piece_ne hb (by simp; omega))]
    simp

theorem Pt.blank {s : ByteArray} {b k : Nat} {done : List (List UInt8)} (h : Pt s b k done) (hk : k < s.size) (h1 : s[k].toNat = 32) (hb : ¬ b < k) : Pt s (k + 1) (k + 1) done := by
  have e : b = k := by have := h.bk; omega
  subst e
  refine ⟨by omega, by omega, ?_, by have := h.len; omega, ?_⟩
  · rw [okL_take s b hk, h.ok]; simp [okB]; omega
  · rw [h.all, drop_one s b hk]
    simp only [Nat.sub_self, List.take_zero]
    rw [Lib.fieldsGo_sp _ _ (by rw [sp_of (by omega)]; simp [h1])]

theorem Pt.last {s : ByteArray} {b k : Nat} {done : List (List UInt8)} (h : Pt s b k done) (hk : ¬ k < s.size) (hb : b < k) : Lib.fields s.data.toList = done ++ [(s.data.toList.drop b).take (k - b)] ∧ okL s.data.toList = true := by
  have e : s.data.toList.drop k = [] := List.drop_eq_nil_of_le (by simp; omega)
  have hne := Lib.piece_ne (l := s.data.toList) hb (by have := h.ks; simpa using this)
  refine ⟨?_, ?_⟩
  · rw [h.all, e]
    simp only [Lib.fieldsGo]
    rw [if_neg (by simpa using hne)]
  · have := h.ok
    rwa [List.take_of_length_le (by simp; omega)] at this
theorem Pt.none {s : ByteArray} {b k : Nat} {done : List (List UInt8)} (h : Pt s b k done) (hk : ¬ k < s.size) (hb : ¬ b < k) : Lib.fields s.data.toList = done ∧ okL s.data.toList = true := by
  have e : s.data.toList.drop k = [] := List.drop_eq_nil_of_le (by simp; omega)
  have eb : k - b = 0 := by omega
  refine ⟨?_, ?_⟩
  · rw [h.all, e, eb]
    simp [Lib.fieldsGo]
  · have := h.ok
    rwa [List.take_of_length_le (by simp; omega)] at this

theorem extract_bs (s : ByteArray) (b k : Nat) : s.extract b k = bs ((s.data.toList.drop b).take (k - b)) := by
  apply ByteArray.ext
  apply Array.toList_inj.1
  rw [Go.Lib.extract_data]
  rfl
end Go.Proofs.YteagdicpefchaaaDoor
