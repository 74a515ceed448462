/-
  spec.SameKey, spec.SameBody: their contracts.
-/
import Derived.Test.YtdaigojpeofmpaaRecK
import Derived.Laws.StructEq
namespace Go.Proofs.Ytdaigojpeofmpaa
open Go.RowKit

def sameKeyB (x y : RecD) : Bool := x.area == y.area && x.kind == y.kind && x.owner == y.owner && x.key == y.key

def sameBodyB (x y : RecD) : Bool := sameKeyB x y && x.cost == y.cost && x.far == y.far && decide (x.near = y.near)

set_option maxRecDepth 100000 in
set_option maxHeartbeats 4000000 in
theorem ssameKey_any (v1 v2 : Value) (x y : RecD) (w : World) : Calls Try.prog 54 #[.agg (recC x v1), .agg (recC y v2)] w fun e w' => e = .returned (.bool (sameKeyB x y)) ∧ Below w.heap.size w w' := by
  obtain ⟨a0, a1, a2, a3, a4, ns, a6, a7⟩ := x
  obtain ⟨b0, b1, b2, b3, b4, ms, b6, b7⟩ := y
  unfold recC
  simp only []
  go_enter Try.func54, Try.ntmps54
  go_wp2
  all_goals go_ret
  all_goals refine ⟨ret_bool ?_, below_two _ _⟩
  all_goals (simp only [sameKeyB]; grind)

theorem near_neq (w : World) (a b a' b' : Int) : (binOp .neq 120 (.agg #[.int .i64 a, .int .i64 b]) (.agg #[.int .i64 a', .int .i64 b'])).run Try.prog w = .ok (.bool (!decide ((⟨a, b⟩ : Nr) = ⟨a', b'⟩))) w := by
  go_simp
  by_cases h1 : a = a' <;> by_cases h2 : b = b' <;> simp [h1, h2]

end Go.Proofs.Ytdaigojpeofmpaa
