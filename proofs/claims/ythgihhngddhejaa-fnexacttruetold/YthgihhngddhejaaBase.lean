/-
  What every walk of this seat imports; the element type's row of the table.
-/
import Derived.Test.YthgihhngddhejaaRows
import Derived.Test.YthgihhngddhejaaMath
import Derived.WalkKit
import Derived.WalkSpells
import Derived.WalkLawsBesides
namespace Go.Proofs.Ythgihhngddhejaa
open Go.RowKit

theorem Try.info5 : (Try.prog.info? 5).map (fun i => (i.zero, i.size, i.bytes)) = some (some (.int .u8 0), 1, 1) := by kernel_rfl
end Go.Proofs.Ythgihhngddhejaa
