/-
  What every walk of this seat imports; the element type's row of the table.
-/
import Derived.Test.YtpiookjdeopmgaaDoorRows
import Derived.Test.YtpiookjdeopmgaaDoorMath
import Derived.WalkKit
import Derived.WalkSpells
import Derived.WalkLawsBesides
namespace Go.Proofs.YtpiookjdeopmgaaDoor
open Go.RowKit

theorem Tryd.info5 : (Tryd.prog.info? 5).map (fun i => (i.zero, i.size, i.bytes)) = some (some (.int .u8 0), 1, 1) := by kernel_rfl
end Go.Proofs.YtpiookjdeopmgaaDoor
