/-
  Two small laws on nets as arguments (cut out of CostLaw).
-/
import Derived.Test.YtacbohnaofajaaaNets
namespace Go.Proofs.Ytacbohnaofajaaa
open Go.RowKit

theorem szN_ok {n m : Nat} (h : ¬ szN 1048576 n m < 0) : n ≤ 1048576 ∧ m ≤ 1048576 := by
  unfold szN at h
  split at h
  · omega
  · split at h
    · omega
    · omega

theorem netAt_of {W : World} {b : Nat} {x : NetD} {v1 v2 : Value} (h1 : W.ownsRow b 48 4 v1 x.ls.length (flat lkE x.ls)) (h2 : W.ownsRow b 52 4 v2 x.ts.length (flat thE x.ts)) : NetAt W (.agg #[.int .i64 x.n, v1, v2]) x W.heap.size :=
  ⟨v1, v2, rfl, owns_rowAt h1, owns_rowAt h2⟩

end Go.Proofs.Ytacbohnaofajaaa
