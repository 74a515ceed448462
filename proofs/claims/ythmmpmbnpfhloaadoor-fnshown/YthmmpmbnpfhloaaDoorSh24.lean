/-
  Ways of several areas, Together: as values.
-/
import Derived.Test.YthmmpmbnpfhloaaDoorSh22
namespace Go.Proofs.YthmmpmbnpfhloaaDoor
open Go.RowKit

open Classical in
/-- the ways that WaysIn tells -/
noncomputable def waysD (xs : List RecD) (area src : Int) : List WayD := if h : ∃ ds, IsWays xs area src ds then Classical.choose h else []

theorem IsWays.eq {xs : List RecD} {area src : Int} {ds : List WayD} (h : IsWays xs area src ds) : ds = waysD xs area src := by
  unfold waysD
  rw [dif_pos ⟨ds, h⟩]
  exact h.unique (Classical.choose_spec (⟨ds, h⟩ : ∃ ds, IsWays xs area src ds))

/-- one more way to a node beside what was found -/
def moreW (tog : WayD → WayD → WayD) (best : Option WayD) (w : Option WayD) : Option WayD := match w with
  | none => best
  | some w => match best with
    | none => some w
    | some b => some (tog b w)

def findW (ds : List WayD) (to : Int) : Option WayD := ds.find? (fun x => x.to == to)

end Go.Proofs.YthmmpmbnpfhloaaDoor
