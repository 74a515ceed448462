/-
  Tables: the place of a line, the hops to a node, and who follows them, as mathematics.
-/
import Derived.Test.YtnpafmjfhglbhaaLnLawK
namespace Go.Proofs.Ytnpafmjfhglbhaa
open Go.RowKit

def isLn (t : Bool) (z : Int) (x : LnD) : Bool := x.thing == t && x.to == z

/-- the place of the first line to z, -1 without one -/
def idxZ (l : List LnD) (t : Bool) (z : Int) : Int := match l.findIdx? (isLn t z) with
  | some i => (i : Int)
  | none => -1

theorem idxZ_hit {l : List LnD} {t : Bool} {z : Int} {k : Nat} {x : LnD} (hk : l[k]? = some x) (hx : isLn t z x = true) (hno : ∀ y ∈ l.take k, isLn t z y = false) : idxZ l t z = (k : Int) := by
  have e : l.findIdx? (isLn t z) = some k := by
    obtain ⟨h1, e1⟩ := List.getElem?_eq_some_iff.1 hk
    rw [List.findIdx?_eq_some_iff_getElem]
    refine ⟨h1, by rw [e1]; exact hx, fun j hj => ?_⟩
    have hm : l[j] ∈ l.take k := by
      rw [List.mem_take_iff_getElem]
      exact ⟨j, by omega, rfl⟩
    simpa using hno _ hm
  unfold idxZ
  rw [e]

theorem idxZ_none {l : List LnD} {t : Bool} {z : Int} (hno : ∀ y ∈ l, isLn t z y = false) : idxZ l t z = -1 := by
  have e : l.findIdx? (isLn t z) = none := by
    rw [List.findIdx?_eq_none_iff]
    exact hno
  unfold idxZ
  rw [e]

theorem idxZ_cases (l : List LnD) (t : Bool) (z : Int) : idxZ l t z = -1 ∨ ∃ (k : Nat) (x : LnD), idxZ l t z = (k : Int) ∧ l[k]? = some x ∧ isLn t z x = true := by
  unfold idxZ
  cases h : l.findIdx? (isLn t z) with
  | none => exact .inl rfl
  | some i =>
    rw [List.findIdx?_eq_some_iff_getElem] at h
    obtain ⟨h1, h2, _⟩ := h
    exact .inr ⟨i, l[i], rfl, List.getElem?_eq_getElem h1, h2⟩

theorem take_noJ {l : List LnD} {k : Nat} {x : LnD} {t : Bool} {z : Int} (h : l[k]? = some x) (hno : ∀ y ∈ l.take k, isLn t z y = false) (hx : isLn t z x = false) : ∀ y ∈ l.take (k + 1), isLn t z y = false := by
  obtain ⟨hk, e⟩ := List.getElem?_eq_some_iff.1 h
  rw [List.take_succ_eq_append_getElem hk, e]
  intro y hy
  rcases List.mem_append.1 hy with h1 | h1
  · exact hno y h1
  · have : y = x := by simpa using h1
    subst this
    exact hx

/-- the hops of a table to the node z -/
def hopsL (l : List LnD) (z : Int) : List Int := if idxZ l false z < 0 then [] else (l.getD (idxZ l false z).toNat zeroJD).hops

theorem hopsL_none {l : List LnD} {z : Int} (h : idxZ l false z = -1) : hopsL l z = [] := by unfold hopsL; rw [h]; rfl

theorem hopsL_hit {l : List LnD} {z : Int} {k : Nat} {x : LnD} (h : idxZ l false z = (k : Int)) (hk : l[k]? = some x) : hopsL l z = x.hops := by
  unfold hopsL
  rw [h, if_neg (by omega)]
  simp [List.getD, hk]

/-- the hops from a to z -/
def hopsD (D : List (List LnD)) (a z : Int) : List Int := if 1 ≤ a ∧ a ≤ (D.length : Int) then hopsL (D.getD (a - 1).toNat []) z else []

theorem hopsD_off {D : List (List LnD)} {a z : Int} (h : ¬ (1 ≤ a ∧ a ≤ (D.length : Int))) : hopsD D a z = [] := if_neg h

theorem hopsD_on {D : List (List LnD)} {a z : Int} {i : Nat} {l : List LnD} (ha : a - 1 = (i : Int)) (hl : D[i]? = some l) : hopsD D a z = hopsL l z := by
  have hi := (List.getElem?_eq_some_iff.1 hl).1
  unfold hopsD
  rw [if_pos ⟨by omega, by omega⟩]
  have e : (a - 1).toNat = i := by omega
  rw [e]
  simp [List.getD, hl]

def pickD (ps : List Int) (i : Nat) : Int := if i < ps.length then max (ps.getD i 0) 0 else 0

theorem pickD_pos (ps : List Int) (i : Nat) : 0 ≤ pickD ps i := by unfold pickD; split <;> omega

/-- the hop that is picked -/
def hopAt (hs : List Int) (p : Int) : Int := hs.getD (p % (hs.length : Int)).toNat 0

theorem hopAt_get {hs : List Int} {p : Int} (h : hs ≠ []) : ∃ j : Nat, p % (hs.length : Int) = (j : Int) ∧ j < hs.length ∧ hs[j]? = some (hopAt hs p) := by
  have hl : 0 < hs.length := List.length_pos_iff.2 h
  have h1 := Int.emod_nonneg p (b := (hs.length : Int)) (by omega)
  have h2 := Int.emod_lt_of_pos p (b := (hs.length : Int)) (by omega)
  refine ⟨(p % (hs.length : Int)).toNat, by omega, by omega, ?_⟩
  unfold hopAt
  rw [List.getElem?_eq_getElem (by omega)]
  simp [List.getD, List.getElem?_eq_getElem (show (p % (hs.length : Int)).toNat < hs.length by omega)]

/-- who follows the tables, with so many steps left -/
def walkF (D : List (List LnD)) (z : Int) (ps : List Int) : Nat → Int → List Int → Option (List Int)
  | 0, a, way => if a = z then some way else none
  | n + 1, a, way => if a = z then some way else if hopsD D a z = [] then none else walkF D z ps n (hopAt (hopsD D a z) (pickD ps (12 - (n + 1)))) (way ++ [hopAt (hopsD D a z) (pickD ps (12 - (n + 1)))])

def walkO (D : List (List LnD)) (a z : Int) (ps : List Int) : Option (List Int) := walkF D z ps 12 a [a]

def walkD (D : List (List LnD)) (a z : Int) (ps : List Int) : List Int := (walkO D a z ps).getD []

def walkB (D : List (List LnD)) (a z : Int) (ps : List Int) : Bool := (walkO D a z ps).isSome

/-- under way: i steps are done -/
structure AtW (D : List (List LnD)) (z : Int) (ps : List Int) (O : Option (List Int)) (i : Nat) (a : Int) (way : List Int) : Prop where
  i12 : i ≤ 12
  len : way.length = i + 1
  eq : walkF D z ps (12 - i) a way = O

theorem AtW.start (D : List (List LnD)) (a z : Int) (ps : List Int) : AtW D z ps (walkO D a z ps) 0 a [a] := ⟨by omega, rfl, rfl⟩

theorem AtW.there {D : List (List LnD)} {z : Int} {ps : List Int} {O : Option (List Int)} {i : Nat} {way : List Int} (h : AtW D z ps O i z way) : O = some way := by
  rw [← h.eq]
  cases 12 - i <;> simp [walkF]

theorem AtW.over {D : List (List LnD)} {z a : Int} {ps : List Int} {O : Option (List Int)} {way : List Int} (h : AtW D z ps O 12 a way) (ha : a ≠ z) : O = none := by
  rw [← h.eq]
  simp [walkF, ha]

theorem AtW.off {D : List (List LnD)} {z a : Int} {ps : List Int} {O : Option (List Int)} {i : Nat} {way : List Int} (h : AtW D z ps O i a way) (ha : a ≠ z) (hh : hopsD D a z = []) : O = none := by
  rw [← h.eq]
  cases 12 - i <;> simp [walkF, ha, hh]

theorem AtW.step {D : List (List LnD)} {z a : Int} {ps : List Int} {O : Option (List Int)} {i : Nat} {way : List Int} (h : AtW D z ps O i a way) (ha : a ≠ z) (hh : hopsD D a z ≠ []) (hi : i ≠ 12) :
    AtW D z ps O (i + 1) (hopAt (hopsD D a z) (pickD ps i)) (way ++ [hopAt (hopsD D a z) (pickD ps i)]) := by
  have h1 := h.i12
  refine ⟨by omega, by rw [List.length_append, h.len]; rfl, ?_⟩
  rw [← h.eq]
  obtain ⟨n, hn⟩ : ∃ n, 12 - i = n + 1 := ⟨12 - i - 1, by omega⟩
  have e1 : 12 - (i + 1) = n := by omega
  have e2 : 12 - (n + 1) = i := by omega
  rw [hn, e1, walkF, if_neg ha, if_neg hh, e2]
end Go.Proofs.Ytnpafmjfhglbhaa
