/-
  An argument of type []laws.Way, opened.
-/
import Derived.Test.YtbmphbeocbgalaaOpenWay
import Derived.Test.YtbmphbeocbgalaaWaysK
namespace Go.Proofs.Ytbmphbeocbgalaa
open Go.RowKit Go.ChangeShapes Go.WideShapes

instance : Inhabited WP := ⟨zW⟩

section
variable {H : Type} {enc : TypeId × Value → H} {w : World} {base : Nat} {spare : Nat → Bool} {held : Bool}

set_option maxRecDepth 100000 in
theorem open_ways {r : Reach} {b0 : Nat} {v : Value} {d : DataW H} {ps : List MemPlace} (hval : Value.okWide Try.prog w r b0 30 v) (hd : DataW.Trod enc Try.prog w base spare held 30 v d ps) :
    ∃ qs : List WP, WaysAt w v qs w.heap.size ∧ qs.length ≤ maxLen ∧ ∀ p ∈ qs, p.1.hops.length ≤ maxLen := by
  obtain ⟨a0, len0, cap0, rfl⟩ := okWide_slice Try.underlying30 hval
  obtain ⟨fuel, hf⟩ := hd
  obtain ⟨u, xs, hu, hs, hl, hR⟩ := open_structsN (encE := encW) (sz := 3) (by omega) encW_len Try.underlying30 (by kernel_rfl) (fun _ _ _ h => open_wayCells h) hf
  simp [Value.cells] at hu
  subst hu
  exact ⟨xs, ⟨hs, fun p hp => (hR p hp).1⟩, hl, fun p hp => (hR p hp).2⟩
end
end Go.Proofs.Ytbmphbeocbgalaa
