/-
  spec.l01Figure: its contract.
-/
import Derived.Test.YtpiookjdeopmgaaDoorBase
namespace Go.Proofs.YtpiookjdeopmgaaDoor
open Go.RowKit

set_option maxHeartbeats 400000 in
theorem fig_any (x : Int) (w : World) (h0 : 0 ≤ x) (h1 : x < 16) : Calls Tryd.prog 62 #[.int .i64 x] w fun e w' => e = .returned (.int .u8 ((fig x).toNat : Int)) ∧ w = w' := by
  by_cases h : x < 10
  · have e := fig_lo x h0 h
    have E := hide e
    clear e
    go_enter Tryd.func62, Tryd.ntmps62
    go_wp2
    go_ret
    exact ⟨ret_int (by have := E.out; omega), rfl⟩
  · have e := fig_hi x (by omega) h1
    have E := hide e
    clear e
    go_enter Tryd.func62, Tryd.ntmps62
    go_wp2
    go_ret
    exact ⟨ret_int (by have := E.out; omega), rfl⟩
end Go.Proofs.YtpiookjdeopmgaaDoor
