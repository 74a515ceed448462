/-
  Small laws of records that a call made.
-/
import Derived.Test.YtohjphhocdgpgaaIRecOk
import Derived.Deep.RegionHeld3
namespace Go.Proofs.Ytohjphhocdgpgaa
open Go.RowKit

theorem szR_ok {n : Nat} (h : ¬ szR 1048576 n < 0) : n ≤ 1048576 := by
  unfold szR at h
  split at h <;> omega

theorem recAt_of {W : World} {b : Nat} {x : RecD} {v1 : Value} (h1 : W.ownsRow b 67 2 v1 x.near.length (flat nrE x.near)) : RecAt W (.agg (recC x v1)) x W.heap.size :=
  ⟨v1, rfl, owns_rowAt h1⟩
end Go.Proofs.Ytohjphhocdgpgaa
