/-
  Where a key stands in a list: spec.l05At, impl's placeOf.
-/
import Derived.Test.YthmmpmbnpfhloaaDoorSh10
namespace Go.Proofs.YthmmpmbnpfhloaaDoor
open Go.RowKit

/-- the first place of a key, -1 without one -/
def atZ (xs : List RecD) (r : RecD) : Int := match xs.findIdx? (fun x => sameKeyB x r) with
  | some i => (i : Int)
  | none => -1

theorem atZ_found {xs : List RecD} {r x : RecD} {k : Nat} (hk : xs[k]? = some x) (hs : sameKeyB x r = true) (hall : ∀ j, j < k → ∀ y, xs[j]? = some y → sameKeyB y r = false) : atZ xs r = (k : Int) := by
  obtain ⟨h1, e1⟩ := List.getElem?_eq_some_iff.1 hk
  have : xs.findIdx? (fun x => sameKeyB x r) = some k := by
    rw [List.findIdx?_eq_some_iff_getElem]
    refine ⟨h1, by rw [e1]; exact hs, fun j hj => ?_⟩
    have := hall j hj xs[j] (List.getElem?_eq_getElem (by omega))
    simp [this]
  unfold atZ
  rw [this]

theorem atZ_none {xs : List RecD} {r : RecD} (hall : ∀ j, j < xs.length → ∀ y, xs[j]? = some y → sameKeyB y r = false) : atZ xs r = -1 := by
  have : xs.findIdx? (fun x => sameKeyB x r) = none := by
    rw [List.findIdx?_eq_none_iff]
    intro x hx
    obtain ⟨i, hi, e⟩ := List.getElem_of_mem hx
    exact hall i hi x (by rw [← e]; exact List.getElem?_eq_getElem hi)
  unfold atZ
  rw [this]

theorem atZ_cases (xs : List RecD) (r : RecD) : atZ xs r = -1 ∨ ∃ (k : Nat) (x : RecD), atZ xs r = (k : Int) ∧ xs[k]? = some x ∧ sameKeyB x r = true := by
  unfold atZ
  cases h : xs.findIdx? (fun x => sameKeyB x r) with
  | none => exact .inl rfl
  | some i =>
    obtain ⟨h1, h2, _⟩ := List.findIdx?_eq_some_iff_getElem.1 h
    exact .inr ⟨i, xs[i], rfl, List.getElem?_eq_getElem h1, h2⟩

end Go.Proofs.YthmmpmbnpfhloaaDoor
