/-
  The laws of SumMore, SumOf, Sealed, Unsealed: their walks.
-/
import Derived.Test.YtejlgmdpdimknaaDoorUnseal
import Derived.Stop.LaidErr
import Derived.MakeChecks
import Derived.WalkSmall
import Derived.OpenShut
namespace Go.Proofs.YtejlgmdpdimknaaDoor
open Go.RowKit

theorem steps_of {W : World} (h : laidMetH Tryd.prog [("loop.example/g00177/impl.sumSteps", Rows.laid_loop_example_g00177_impl_sumSteps)] W) : Steps W := by
  rw [MakeChecks.laidMetH_plain _ _ _ (by kernel_rfl)] at h
  have h2 : laidMet Tryd.prog [("loop.example/g00177/impl.sumSteps", Lib.tabData .u32 stepTab)] W := h
  exact Lib.tabIs_of_head gSteps (t := 48) (by kernel_rfl) Tryd.underlying48 Tryd.underlying22 (by kernel_rfl) (by kernel_rfl) h2

set_option maxRecDepth 100000 in
set_option maxHeartbeats 1000000 in
theorem fnExactSumMore_walk (x : Int) (s : ByteArray) (wf : (Lit.int .u32 x).wf = true) (_ : s.size ≤ maxLen) (w : World) (hL : laidMetH Tryd.prog Rows.fnExactSumMoreRow.laid w) :
    Calls Tryd.prog 3 #[.int .u32 x, .string s] w fun e w' => e = .returned (.bool true) ∧ Below w.heap.size w w' := by
  have hT : Steps w := steps_of hL
  have hb := bounds_u32 wf
  obtain ⟨n, rfl⟩ : ∃ n : Nat, x = (n : Int) := ⟨x.toNat, by omega⟩
  have hn : n < 4294967296 := by omega
  clear hL wf hb
  by_cases hs : (1048576 : Int) < (s.size : Int)
  · clear hT
    go_enter Tryd.func3, Tryd.ntmps3
    go_wp2
    go_ret
    exact ⟨rfl, Below.refl _ _⟩
  have h1 := ssm_any n s w hn (by omega)
  have h2 := ism_any n s w hn (by omega) hT
  generalize upL n s.data.toList = t at h1 h2
  clear hT
  have H1 := hide h1
  have H2 := hide h2
  clear h1 h2
  go_enter Tryd.func3, Tryd.ntmps3
  go_wp2_with fail
  refine H1.out.mono ?_
  rintro e w1 ⟨rfl, rfl⟩
  go_wp2_with fail
  refine H2.out.mono ?_
  rintro e w1 ⟨rfl, rfl⟩
  go_wp2
  go_ret
  exact ⟨rfl, Below.refl _ _⟩

set_option maxRecDepth 100000 in
set_option maxHeartbeats 1000000 in
theorem fnExactSumOf_walk (s : ByteArray) (_ : s.size ≤ maxLen) (w : World) (hL : laidMetH Tryd.prog Rows.fnExactSumOfRow.laid w) :
    Calls Tryd.prog 4 #[.string s] w fun e w' => e = .returned (.bool true) ∧ Below w.heap.size w w' := by
  have hT : Steps w := steps_of hL
  clear hL
  by_cases hs : (1048576 : Int) < (s.size : Int)
  · clear hT
    go_enter Tryd.func4, Tryd.ntmps4
    go_wp2
    go_ret
    exact ⟨rfl, Below.refl _ _⟩
  have h1 := sso_any s w (by omega)
  have h2 := iso_any s w (by omega) hT
  generalize upL 4294967295 s.data.toList = t at h1 h2
  clear hT
  have H1 := hide h1
  have H2 := hide h2
  clear h1 h2
  go_enter Tryd.func4, Tryd.ntmps4
  go_wp2_with fail
  refine H1.out.mono ?_
  rintro e w1 ⟨rfl, rfl⟩
  go_wp2_with fail
  refine H2.out.mono ?_
  rintro e w1 ⟨rfl, rfl⟩
  go_wp2
  go_ret
  exact ⟨rfl, Below.refl _ _⟩

set_option maxRecDepth 100000 in
set_option maxHeartbeats 1000000 in
theorem fnExactSealed_walk (s : ByteArray) (_ : s.size ≤ maxLen) (w : World) (hL : laidMetH Tryd.prog Rows.fnExactSealedRow.laid w) :
    Calls Tryd.prog 5 #[.string s] w fun e w' => e = .returned (.bool true) ∧ Below w.heap.size w w' := by
  have hT : Steps w := steps_of hL
  clear hL
  by_cases hs : (1048576 : Int) < (s.size : Int)
  · clear hT
    go_enter Tryd.func5, Tryd.ntmps5
    go_wp2
    go_ret
    exact ⟨rfl, Below.refl _ _⟩
  obtain ⟨a, c, hv⟩ := seV_two s
  have HT := hide hT
  clear hT
  have HV := hide hv
  clear hv
  go_enter Tryd.func5, Tryd.ntmps5
  go_wp2_with fail
  refine (sse_any s _ (by omega)).mono ?_
  rw [HV.out]
  rintro e w1 ⟨rfl, b1⟩
  go_wp2_with fail
  refine (ise_any s _ (by omega) (steps_later HT.out b1 (Nat.le_refl _))).mono ?_
  rw [HV.out]
  rintro e w2 ⟨rfl, b2⟩
  go_wp2
  go_ret
  exact ⟨rfl, b1.trans (b2.mono b1.size)⟩

set_option maxRecDepth 100000 in
set_option maxHeartbeats 1000000 in
theorem fnExactUnsealed_walk (s : ByteArray) (_ : s.size ≤ maxLen) (w : World) (hL : laidMetH Tryd.prog Rows.fnExactUnsealedRow.laid w) :
    Calls Tryd.prog 6 #[.string s] w fun e w' => e = .returned (.bool true) ∧ Below w.heap.size w w' := by
  have hT : Steps w := steps_of hL
  clear hL
  by_cases hs : (1048576 : Int) < (s.size : Int)
  · clear hT
    go_enter Tryd.func6, Tryd.ntmps6
    go_wp2
    go_ret
    exact ⟨rfl, Below.refl _ _⟩
  obtain ⟨a, c, hv⟩ := unV_two s
  have HT := hide hT
  clear hT
  have HV := hide hv
  clear hv
  go_enter Tryd.func6, Tryd.ntmps6
  go_wp2_with fail
  refine (sun_any s _ (by omega)).mono ?_
  rw [HV.out]
  rintro e w1 ⟨rfl, b1⟩
  go_wp2_with fail
  refine (iun_any s _ (by omega) (steps_later HT.out b1 (Nat.le_refl _))).mono ?_
  rw [HV.out]
  rintro e w2 ⟨rfl, b2⟩
  go_wp2
  go_ret
  exact ⟨rfl, b1.trans (b2.mono b1.size)⟩
end Go.Proofs.YtejlgmdpdimknaaDoor
