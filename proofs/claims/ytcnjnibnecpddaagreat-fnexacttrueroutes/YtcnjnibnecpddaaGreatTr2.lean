/-
  Parts.
-/
import Derived.Test.YtcnjnibnecpddaaGreatRows
import Derived.ProofKit
import Derived.OpenShut
namespace Go.Proofs.YtcnjnibnecpddaaGreat

set_option maxRecDepth 100000 in
theorem fnExactTrueRoutes_joined:joinedFacts Tryz.pinned.checked.prog 7 Tryz.f7 Rows.fnExactTrueRoutesSpec Rows.fnExactTrueRoutesRow=true:=by kernel_rfl
end Go.Proofs.YtcnjnibnecpddaaGreat
