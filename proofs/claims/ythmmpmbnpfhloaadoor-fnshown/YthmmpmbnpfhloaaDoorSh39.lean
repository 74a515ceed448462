/-
  impl.offerOf, impl.routesToThings: their contracts.
-/
import Derived.Test.YthmmpmbnpfhloaaDoorSh38
namespace Go.Proofs.YthmmpmbnpfhloaaDoor
open Go.RowKit

set_option linter.unusedSimpArgs false

def offQ (r : RecD) (d : WayD) : RtD := if r.far then ⟨true, r.key, 4, d.cost, r.cost, d.hops⟩ else ⟨true, r.key, 3, r.cost + d.cost, 0, d.hops⟩

/-- what the first records offer -/
def OffK (xs : List RecD) (ds es : List WayD) (src : Int) (k : Nat) (ys : List RtD) : Prop := ∀ y, y ∈ ys ↔ ∃ r ∈ xs.take k, r.kind = 3 ∧ r.cost < 60000 ∧ ∃ d, ownerW ds es src r.owner = some d ∧ y = offQ r d

theorem OffK.more {xs : List RecD} {ds es : List WayD} {src : Int} {k : Nat} {ys : List RtD} {r : RecD} {d : WayD} (h : OffK xs ds es src k ys) (hr : xs[k]? = some r) (h1 : r.kind = 3) (h2 : r.cost < 60000) (h3 : ownerW ds es src r.owner = some d) : OffK xs ds es src (k + 1) (ys ++ [offQ r d]) := by
  obtain ⟨hk, e⟩ := List.getElem?_eq_some_iff.1 hr
  intro y
  rw [List.mem_append, h y, List.take_succ_eq_append_getElem hk, e]
  constructor
  · rintro (⟨x, hx, ht⟩ | h4)
    · exact ⟨x, List.mem_append.2 (.inl hx), ht⟩
    · have : y = offQ r d := by simpa using h4
      exact ⟨r, List.mem_append.2 (.inr (by simp)), h1, h2, d, h3, this⟩
  · rintro ⟨x, hx, g1, g2, d', g3, g4⟩
    rcases List.mem_append.1 hx with h5 | h5
    · exact .inl ⟨x, h5, g1, g2, d', g3, g4⟩
    · have : x = r := by simpa using h5
      subst this
      rw [h3] at g3
      cases g3
      exact .inr (by simp [g4])

theorem rtOf_all {bs : List QP} (h : OffL bs) : ((fstsQ bs).map wOf).map rtOf = fstsQ bs := by
  rw [List.map_map]
  have : ∀ y ∈ fstsQ bs, (rtOf ∘ wOf) y = y := fun y hy => by
    obtain ⟨b, hb, rfl⟩ := List.mem_map.1 hy
    exact (h b hb).rt
  conv => rhs; rw [← List.map_id (fstsQ bs)]
  exact List.map_congr_left this

theorem offL_push {os : List QP} {p : QP} (h : OffL os) (hp : OffR p.1) : OffL (os ++ [p]) := fun b hb => by
  rcases List.mem_append.1 hb with h1 | h1
  · exact h b h1
  · have : b = p := by simpa using h1
    subst this
    exact hp

end Go.Proofs.YthmmpmbnpfhloaaDoor
