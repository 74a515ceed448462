/-
  An argument of type []int, opened.
-/
import Derived.Test.YtnpafmjfhglbhaaOpenWay
namespace Go.Proofs.Ytnpafmjfhglbhaa
open Go.RowKit Go.ChangeShapes Go.WideShapes

section
variable {H : Type} {enc : TypeId × Value → H} {w : World} {base : Nat} {spare : Nat → Bool} {held : Bool}

set_option maxRecDepth 100000 in
theorem open_intL {r : Reach} {b0 : Nat} {v : Value} {d : DataW H} {ps : List MemPlace} (hval : Value.okWide Try.prog w r b0 34 v) (hd : DataW.Trod enc Try.prog w base spare held 34 v d ps) :
    ∃ l : List Int, HopsAt w v l w.heap.size ∧ l.length ≤ maxLen := by
  obtain ⟨a0, len0, cap0, rfl⟩ := okWide_slice Try.underlying34 hval
  obtain ⟨fuel, hf⟩ := hd
  obtain ⟨u, xs, hu, hs, hl, _⟩ := open_structsN (encE := intE) (sz := 1) (R := fun _ => True) (by omega) intE_len Try.underlying34 (by kernel_rfl) (fun _ _ _ h => open_hop h) hf
  simp [Value.cells] at hu
  subst hu
  exact ⟨xs, hs, hl⟩
end
end Go.Proofs.Ytnpafmjfhglbhaa
