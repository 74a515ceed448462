/-
  An argument of type laws.Way, opened.
-/
import Derived.Test.YtpiookjdeopmgaaDoorOpenN
import Derived.Test.YtpiookjdeopmgaaDoorWayK
namespace Go.Proofs.YtpiookjdeopmgaaDoor
open Go.RowKit Go.ChangeShapes Go.WideShapes

section
variable {H : Type} {enc : TypeId × Value → H} {w : World} {base : Nat} {spare : Nat → Bool} {held : Bool}

theorem open_hop {fuel : Nat} {cs : List Value} {x : DataW H × List MemPlace} (h : DataW.trod enc Tryd.prog w base spare held fuel 3 cs = some x) : ∃ z : Int, cs = intE z ∧ True := by
  obtain ⟨a, ha, _⟩ := DataW.trod_int Tryd.underlying3 h
  exact ⟨a, ha, trivial⟩

end
end Go.Proofs.YtpiookjdeopmgaaDoor
