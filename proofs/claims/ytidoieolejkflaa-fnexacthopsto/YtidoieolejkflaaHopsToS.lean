/-
  spec.HopsTo, impl.HopsTo: their contracts.
-/
import Derived.Test.YtidoieolejkflaaRtsM
import Derived.Test.YtidoieolejkflaaWayToI
namespace Go.Proofs.Ytidoieolejkflaa
open Go.RowKit

set_option linter.unusedSimpArgs false

/-- whether a route leads there -/
def isThere (t : Bool) (z : Int) (x : RtD) : Bool := x.thing == t && x.to == z

/-- the hops of the first route to z -/
def hopsToD (xs : List RtD) (t : Bool) (z : Int) : List Int := match xs.find? (isThere t z) with
  | some x => x.hops
  | none => []

theorem hopsTo_hit {ps : List QP} {k : Nat} {p : QP} {t : Bool} {z : Int} (h : ps[k]? = some p) (hno : ∀ q ∈ ps.take k, isThere t z q.1 = false) (hz : isThere t z p.1 = true) : hopsToD (fstsQ ps) t z = p.1.hops := by
  have e : (fstsQ ps).find? (isThere t z) = some p.1 := by
    have h1 := fstsQ_at h
    obtain ⟨hk, e1⟩ := List.getElem?_eq_some_iff.1 h1
    rw [List.find?_eq_some_iff_append]
    refine ⟨hz, (fstsQ ps).take k, (fstsQ ps).drop (k + 1), ?_, ?_⟩
    · rw [← e1, ← List.drop_eq_getElem_cons hk, List.take_append_drop]
    · intro x hx
      have e2 : (fstsQ ps).take k = fstsQ (ps.take k) := by simp [fstsQ]
      rw [e2] at hx
      simp only [fstsQ, List.mem_map] at hx
      obtain ⟨q, hq, rfl⟩ := hx
      rw [hno q hq]
      rfl
  unfold hopsToD
  rw [e]

theorem hopsTo_none {ps : List QP} {t : Bool} {z : Int} (hno : ∀ q ∈ ps, isThere t z q.1 = false) : hopsToD (fstsQ ps) t z = [] := by
  have e : (fstsQ ps).find? (isThere t z) = none := by
    rw [List.find?_eq_none]
    intro x hx
    simp only [fstsQ, List.mem_map] at hx
    obtain ⟨q, hq, rfl⟩ := hx
    rw [hno q hq]
    simp
  unfold hopsToD
  rw [e]

theorem takeQ_all {ps : List QP} {k : Nat} {p : QP} {t : Bool} {z : Int} (h : ps[k]? = some p) (hno : ∀ q ∈ ps.take k, isThere t z q.1 = false) (hz : isThere t z p.1 = false) : ∀ q ∈ ps.take (k + 1), isThere t z q.1 = false := by
  obtain ⟨hk, e⟩ := List.getElem?_eq_some_iff.1 h
  rw [List.take_succ_eq_append_getElem hk, e]
  intro q hq
  rcases List.mem_append.1 hq with h1 | h1
  · exact hno q h1
  · have : q = p := by simpa using h1
    subst this
    exact hz

theorem hopsTo_len {ps : List QP} {t : Bool} {z : Int} : (hopsToD (fstsQ ps) t z).length ≤ totQ ps := by
  unfold hopsToD
  split
  · rename_i x e
    have hm := List.mem_of_find?_eq_some e
    simp only [fstsQ, List.mem_map] at hm
    obtain ⟨q, hq, rfl⟩ := hm
    exact totQ_mem hq
  · simp
end Go.Proofs.Ytidoieolejkflaa
