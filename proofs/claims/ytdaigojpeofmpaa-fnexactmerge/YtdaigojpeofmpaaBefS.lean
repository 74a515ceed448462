/-
  spec.Before: its contract.
-/
import Derived.Test.YtdaigojpeofmpaaRecK
namespace Go.Proofs.Ytdaigojpeofmpaa
open Go.RowKit

def beforeB (x y : RecD) : Bool := decide (x.area < y.area) || (x.area == y.area && (decide (x.kind < y.kind) || (x.kind == y.kind && (decide (x.owner < y.owner) || (x.owner == y.owner && decide (x.key < y.key))))))

set_option maxRecDepth 100000 in
set_option maxHeartbeats 4000000 in
theorem sbefore_any (v1 v2 : Value) (x y : RecD) (w : World) : Calls Try.prog 63 #[.agg (recC x v1), .agg (recC y v2)] w fun e w' => e = .returned (.bool (beforeB x y)) ∧ Below w.heap.size w w' := by
  obtain ⟨a0, a1, a2, a3, a4, ns, a6, a7⟩ := x
  obtain ⟨b0, b1, b2, b3, b4, ms, b6, b7⟩ := y
  unfold recC
  simp only []
  go_enter Try.func63, Try.ntmps63
  go_wp2
  all_goals go_ret
  all_goals refine ⟨ret_bool ?_, below_two _ _⟩
  all_goals (simp only [beforeB]; grind)
end Go.Proofs.Ytdaigojpeofmpaa
