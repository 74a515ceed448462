/-
  The law FnNumbers: its walk, from what the listed variables hold.
-/
import Derived.Test.YteagdicpefchaaaDoorNumLaw
namespace Go.Proofs.YteagdicpefchaaaDoor
namespace fnNumbers
open Go.RowKit

theorem pow_of_laidN {W : World} (h : laidMetH Tryd.prog Rows.fnNumbersRow.laid W) : Lib.TabIs Tryd.prog W "internal/strconv.uint64pow10" .u64 Lib.pow10Tab := by
  rw [MakeChecks.laidMetH_plain _ _ _ (by kernel_rfl)] at h
  have h2 : laidMet Tryd.prog [("internal/strconv.uint64pow10", Lib.tabData .u64 Lib.pow10Tab)] W := laidMet.tail (laidMet.tail h)
  exact Lib.tabIs_of_head gPow (t := 88) (by kernel_rfl) Tryd.underlying88 Tryd.underlying70 (by kernel_rfl) (by kernel_rfl) h2

theorem fnNumbers_walk (a : Option Addr) (len cap : Nat) (w : World) (hc : len ≤ 1048576 → Code w a len w.heap.size) (hL : laidMetH Tryd.prog Rows.fnNumbersRow.laid w) :
    Calls Tryd.prog 3 #[.slice a len cap] w fun e w' => e = .returned (.bool true) ∧ Below w.heap.size w w' := Go.Proofs.YteagdicpefchaaaDoor.fnNumbers_walk a len cap w hc (pow_of_laidN hL)
end fnNumbers
end Go.Proofs.YteagdicpefchaaaDoor
