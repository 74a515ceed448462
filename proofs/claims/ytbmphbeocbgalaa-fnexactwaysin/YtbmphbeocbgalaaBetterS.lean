/-
  spec.Better, impl.Better: their contracts.
-/
import Derived.Test.YtbmphbeocbgalaaGrI
namespace Go.Proofs.Ytbmphbeocbgalaa
open Go.RowKit

def betterB (x y : WayD) : Bool := decide (x.cost < y.cost)

set_option maxRecDepth 100000 in
set_option maxHeartbeats 1000000 in
theorem sbetter_any (u1 u2 : Value) (x y : WayD) (w : World) : Calls Try.prog 12 #[.agg (wayC x u1), .agg (wayC y u2)] w fun e w' => e = .returned (.bool (betterB x y)) ∧ Below w.heap.size w w' := by
  unfold wayC betterB
  go_enter Try.func12, Try.ntmps12
  go_wp2
  go_ret
  exact ⟨rfl, below_two _ _⟩

set_option maxRecDepth 100000 in
set_option maxHeartbeats 1000000 in
theorem ibetter_any (u1 u2 : Value) (x y : WayD) (w : World) : Calls Try.prog 14 #[.agg (wayC x u1), .agg (wayC y u2)] w fun e w' => e = .returned (.bool (betterB x y)) ∧ Below w.heap.size w w' := by
  unfold wayC betterB
  go_enter Try.func14, Try.ntmps14
  go_wp2
  go_ret
  exact ⟨rfl, below_two _ _⟩
end Go.Proofs.Ytbmphbeocbgalaa
