/-
  impl.Decimal: its contract; the law's walk.
-/
import Derived.Test.YtpiookjdeopmgaaDoorDec
import Derived.Test.YtpiookjdeopmgaaDoorShelf
import Derived.Lib.LaidTab
import Derived.Lib.AppendIntMem
import Derived.Stop.LaidErr
import Derived.MakeChecks
import Derived.WalkSmall
import Derived.OpenShut
namespace Go.Proofs.YtpiookjdeopmgaaDoor
open Go.RowKit

theorem decDigits_S (u : Nat) (h : 0 < u) : Lib.decDigits u = decN u := by
  induction u using Nat.strongRecOn with
  | _ u ih =>
    rw [Lib.decDigits, decN_pos h]
    split
    · rename_i h10
      rw [show u / 10 = 0 by omega, decN_zero]
      have e : u % 10 = u := by omega
      simp [digB, e]
    · rw [ih (u / 10) (by omega) (by omega)]
      rfl

theorem itoa_decI (n : Int) : Lib.itoa n = decI n := by
  unfold Lib.itoa decI
  split
  · rw [decDigits_S _ (by omega)]
  · have e : n.toNat = n.natAbs := by omega
    rw [e]
    unfold decS
    split
    · rename_i h0; rw [h0, Lib.decDigits]; rfl
    · rw [decDigits_S _ (by omega)]

theorem gPow : Tryd.prog.globalNamed "internal/strconv.uint64pow10" = some 3 := by kernel_rfl

set_option maxHeartbeats 400000 in
theorem idec_any (n : Int) (w : World) (h0 : -9223372036854775808 ≤ n) (h1 : n ≤ 9223372036854775807) (htab : Lib.TabIs Tryd.prog w "internal/strconv.uint64pow10" .u64 Lib.pow10Tab) :
    Calls Tryd.prog 40 #[.int .i64 n] w fun e w' => e = .returned (.string (bs (decI n))) ∧ Below w.heap.size w w' := by
  go_enter Tryd.func40, Tryd.ntmps40
  go_wp2_with fail
  refine (Tryd.strconv_Itoa n h0 h1 w htab).mono ?_
  rintro e w' ⟨rfl, k, os, rfl⟩
  go_wp2
  go_ret
  exact ⟨by rw [itoa_decI]; rfl, Lib.below_grow _ _ (Nat.le_refl _) _ _⟩

theorem glob_lt {W : World} {n : String} {g : Nat} {k : IntKind} {zs : List Int} (hg : Tryd.prog.globalNamed n = some g) (h : Lib.TabIs Tryd.prog W n k zs) : g < W.heap.size := by
  unfold Lib.TabIs World.var? at h
  simp only [hg, Option.bind_some] at h
  rcases Nat.lt_or_ge g W.heap.size with hlt | hge
  · exact hlt
  · rw [Array.getElem?_eq_none hge] at h
    simp at h
end Go.Proofs.YtpiookjdeopmgaaDoor
