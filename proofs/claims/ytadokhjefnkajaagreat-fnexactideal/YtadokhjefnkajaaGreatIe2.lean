/-
  JfFnExactIdeal
-/
import Derived.Test.YtadokhjefnkajaaGreatRows
import Derived.ProofKit
import Derived.OpenShut
import Derived.ChangeOld
namespace Go.Proofs.YtadokhjefnkajaaGreat

set_option maxRecDepth 100000 in
theorem fnExactIdeal_joined:joinedFacts Tryz.pinned.checked.prog 7 Tryz.f7 Rows.fnExactIdealSpec Rows.fnExactIdealRow=true:=by kernel_rfl
end Go.Proofs.YtadokhjefnkajaaGreat
