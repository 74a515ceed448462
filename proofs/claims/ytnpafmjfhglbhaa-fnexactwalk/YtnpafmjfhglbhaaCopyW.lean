/-
  spec.l06Copy: a way with a row of its own.
-/
import Derived.Test.YtnpafmjfhglbhaaMarkG
import Derived.Test.YtnpafmjfhglbhaaCopyK
namespace Go.Proofs.Ytnpafmjfhglbhaa
open Go.RowKit

set_option linter.unusedSimpArgs false

theorem intE_one (z : Int) : ∀ u ∈ intE z, u.oneCell' = true := by
  intro u hu
  simp [intE] at hu
  subst hu
  rfl

abbrev putW3 (W : World) (g : Nat) (x : WayD) (v : Value) : World := ((W.setCell ⟨g, 0, none⟩ (.int .i64 x.to)).setCell ⟨g, 1, none⟩ (.int .i64 x.cost)).setCell ⟨g, 2, none⟩ v

theorem grownW3 (W : World) (g : Nat) (x : WayD) (v : Value) : W.grownBy (putW3 W g x v) (some g) :=
  grown_trans (grown_trans (grown_set W g _ _) (grown_set _ g _ _)) (grown_set _ g _ _)

theorem int_flat1 (l : List Int) : (flat intE l).length = l.length * 1 := flat_len intE_len l

theorem own_litI (W : World) (g base : Nat) (hg : g = W.heap.size) (hb : base ≤ W.heap.size) : (W.alloc (.cells #[] 3)).ownsRow base 3 1 (.slice (some ⟨g, 0, none⟩) 0 0) 0 (flat intE []) := by
  subst hg
  exact World.ownsRow_lit W #[] 0 hb (by unfold maxLen; omega) (by simp)

end Go.Proofs.Ytnpafmjfhglbhaa
