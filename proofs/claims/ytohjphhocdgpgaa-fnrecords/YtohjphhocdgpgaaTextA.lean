/-
  impl.appendVar, farByte, RecordText: their contracts.
-/
import Derived.Test.YtohjphhocdgpgaaTextS
import Derived.Test.YtohjphhocdgpgaaIVarText
import Derived.Test.YtohjphhocdgpgaaIRecOk
import Derived.Lib.AppendStr
import Derived.Deep.RegionHeld3
namespace Go.Proofs.Ytohjphhocdgpgaa
open Go.RowKit

theorem strCells_bs (l : List UInt8) : Go.Lib.strCells (bs l) = cellsOf l := by
  simp [Go.Lib.strCells, cellsOf, bs]

set_option maxRecDepth 100000 in
set_option maxHeartbeats 1000000 in
theorem appendVar_any (base : Nat) (v : Value) (l : List UInt8) (n : Nat) (w : World) (hown : w.ownsRow base 5 1 v l.length (cellsOf l)) (hn : n ≤ 1000000000) (hl : l.length ≤ 10000000000) (hbase : base ≤ w.heap.size) :
    Calls Try.prog 58 #[v, .int .i64 (n : Int)] w fun e w' => ∃ v' l', e = .returned v' ∧ l' = l ++ varL n ∧ w'.ownsRow base 5 1 v' l'.length (cellsOf l') ∧ w.grownBy w' v.ownBlock := by
  obtain ⟨i0, hi, hz0, hz1, hz2⟩ := info_parts Try.info5
  have HI := hide hi
  have HZ := hide hz0
  have hvt : varV (n : Int) = .tuple #[.string (bs (varL n)), .bool true] := by unfold varV; rw [if_pos (by omega)]; simp
  have HVT := ivt_any (n : Int)
  rw [hvt] at HVT
  have HV := hide HVT
  have OW := hide hown
  have hlen := varL_len n
  have hvs := bs_size (varL n)
  clear HVT hvt hown hi hz0
  go_enter Try.func58, Try.ntmps58
  go_wp2_with fail
  refine (HV.out _).mono ?_
  rintro e w1 ⟨rfl, b1⟩
  have ow1 := owns_below OW.out b1 (Nat.le_refl _)
  have hb1 : base ≤ w1.heap.size := Nat.le_trans hbase b1.size
  go_wp2_with (first | (at_builtin; refine Go.Lib.wpList_append_own_string _ rfl _ _ 22 9 rfl base 5 i0 Try.underlying22 Try.underlying9 HI.out HZ.out hz1 hz2 v l.length (cellsOf l) rfl ow1 (bs (varL n)) rfl (by rw [hvs]; unfold maxLen; omega) (by rw [hvs]; omega) hb1 ?_))
  intro v' w2 ow2 hg _
  have B2 : w.grownBy w2 v.ownBlock := ⟨hg.os.trans b1.os, hg.tape.trans b1.tape, hg.output.trans b1.output, Nat.le_trans b1.size hg.size, fun k hk hr => (hg.block k (Nat.lt_of_lt_of_le hk b1.size) hr).trans (b1.block k hk)⟩
  rw [strCells_bs, ← cellsOf_append, ← List.length_append] at ow2
  have OW2 := hide ow2
  clear ow2 hg ow1
  go_wp2
  go_ret
  exact ⟨_, _, rfl, rfl, OW2.out, B2⟩

theorem below_own {w w' : World} {base n : Nat} {e : TypeId} {v : Value} {xs : List Value} (ho : w.ownsRow base e 1 v n xs) (hg : w.grownBy w' v.ownBlock) (hb : base ≤ w.heap.size) : Below base w w' := (Below.refl _ _).grown hg hb (fun k hk => (ho.lt k hk).1)

theorem keep_app {W W6 : World} {o : Obj} {z j : Nat} {u : Value} {row : Option Nat} (h : W.cell? ⟨z, j, none⟩ = some u) (hg : (W.drew.alloc o).grownBy W6 row) (hne : some z ≠ row) : W6.cell? ⟨z, j, none⟩ = some u :=
  hg.cell ((World.cell?_alloc_lt W.drew o ⟨z, j, none⟩ (World.block_lt_of_cell? W _ h)).trans h) hne

theorem own_ne {W : World} {base z : Nat} {v : Value} {l : List UInt8} {u : Int} (ho : W.ownsRow base 5 1 v l.length (cellsOf l)) (hl : 0 < l.length) (hc : W.cell? ⟨z, 0, none⟩ = some (.int .i64 u)) : some z ≠ v.ownBlock := by
  obtain ⟨g, cap, rfl, _, _⟩ := owns_shape ho hl
  intro e
  simp [Value.ownBlock] at e
  subst e
  rw [ho.cellAt 0 (by omega)] at hc
  have : (cellsOf l)[0]? = some (.int .u8 (l[0].toNat : Int)) := by simp [cellsOf, List.getElem?_eq_getElem hl]
  rw [this] at hc
  cases hc

set_option maxHeartbeats 400000 in
theorem farByte_any (f : Bool) (w : World) : Calls Try.prog 59 #[.bool f] w fun e w' => e = .returned (.int .u8 (if f then 1 else 0)) ∧ w = w' := by
  cases f
  all_goals
    go_enter Try.func59, Try.ntmps59
    go_wp2
    go_ret
    exact ⟨rfl, rfl⟩
end Go.Proofs.Ytohjphhocdgpgaa
