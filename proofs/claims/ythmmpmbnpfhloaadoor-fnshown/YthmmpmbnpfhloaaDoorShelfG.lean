/-
  (Nothing of the sorted kind is wanted here.)
-/
import Derived.Test.YthmmpmbnpfhloaaDoorProg
namespace Go.Proofs.YthmmpmbnpfhloaaDoor
end Go.Proofs.YthmmpmbnpfhloaaDoor
