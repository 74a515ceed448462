/-
  impl.isIn, impl.LinkOk: their contracts.
-/
import Derived.Test.YtacbohnaofajaaaIsIn
import Derived.Test.YtacbohnaofajaaaNetOkS
namespace Go.Proofs.Ytacbohnaofajaaa
open Go.RowKit

end Go.Proofs.Ytacbohnaofajaaa
