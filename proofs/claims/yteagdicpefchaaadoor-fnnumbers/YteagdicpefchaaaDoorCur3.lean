/-
  spec.l01New, l01PickInt, l01Long: a cursor over the bytes of a draw; some number of a list; some text.
-/
import Derived.Test.YteagdicpefchaaaDoorCur2
namespace Go.Proofs.YteagdicpefchaaaDoor
open Go.RowKit

set_option maxRecDepth 100000 in
set_option maxHeartbeats 1000000 in
theorem new_any (a : Option Addr) (len cap : Nat) (w : World) (hc : Code w a len w.heap.size) :
    Calls Tryd.prog 24 #[.slice a len cap] w fun e w' => e = .returned (.pointer (some ⟨w.heap.size, 0, none⟩)) ∧ Cur w' w.heap.size a len cap ∧ Below w.heap.size w w' := by
  have hlen := hc.1
  have HC := hide hc
  clear hc
  have fin : ∀ h : Int, Cur (w.alloc (.cells #[.slice a len cap, .int .i64 0, .int .i64 h] 56)) w.heap.size a len cap := fun h =>
    ⟨⟨0, h, by omega, heap_alloc_new w _⟩, HC.out.grown (row := none) ⟨rfl, rfl, rfl, by simp, fun k hk _ => Below.heap_alloc _ _ _ hk⟩ (fun b _ => by simp)⟩
  have FIN := hide fin
  clear fin
  by_cases h0 : len = 0
  · subst h0
    go_enter Tryd.func24, Tryd.ntmps24
    go_wp2
    refine wp_loop_rounds 1 ?_
    rw [rounds_succ]
    go_wp2
    go_ret
    exact ⟨rfl, FIN.out _, (Below.refl _ _).alloc (Nat.le_refl _) _⟩
  · obtain ⟨b, off, ha, hb, hx⟩ : ∃ b off, a = some ⟨b, off, none⟩ ∧ b < w.heap.size ∧ ∀ i, i < len → ∃ x : Nat, x < 256 ∧ w.cell? ⟨b, off + i, none⟩ = some (.int .u8 (x : Int)) := by
      rcases HC.out.2 with h | h
      · exact absurd h h0
      · exact h
    subst ha
    have HX := hide hx
    clear hx
    go_enter Tryd.func24, Tryd.ntmps24
    go_wp2
    go_loop [3, 4] (fun h i => ∃ (k : Nat) (z : Int), k ≤ len ∧ i = .int .i64 k ∧ h = .int .i64 z) (fun _ i => len - (intOf i).toNat)
    case atStart => exact ⟨0, _, by omega, rfl, rfl⟩
    case round =>
      obtain ⟨k, z, hk, rfl, rfl⟩ := hrel
      by_cases hlt : k < len
      · obtain ⟨x, hx1, hx2⟩ := HX.out k hlt
        have hki : (k : Int) < (len : Int) := by omega
        by_cases h4 : (k : Int) < 4000
        · go_wp2
          go_round
          case rel => exact ⟨k + 1, _, by omega, by go_num, rfl⟩
          case measure => simp [intOf]; omega
        · go_wp2
          go_ret
          exact ⟨rfl, FIN.out _, (Below.refl _ _).alloc (Nat.le_refl _) _⟩
      · go_wp2
        go_ret
        exact ⟨rfl, FIN.out _, (Below.refl _ _).alloc (Nat.le_refl _) _⟩

set_option maxRecDepth 100000 in
set_option maxHeartbeats 1000000 in
theorem pickInt_any (p : Nat) (a : Option Addr) (len cap : Nat) (g n : Nat) (w : World) (hc : Cur w p a len cap) (hn : 0 < n) (hn2 : n ≤ 1000) (hg : g ≠ p) (hz : ∀ k, k < n → ∃ z : Int, w.cell? ⟨g, k, none⟩ = some (.int .i64 z)) :
    Calls Tryd.prog 34 #[.pointer (some ⟨p, 0, none⟩), .slice (some ⟨g, 0, none⟩) n n] w fun e w' => ∃ x : Int, e = .returned (.int .i64 x) ∧ Cur w' p a len cap ∧ w.grownBy w' (some p) := by
  have HZ := hide hz
  have HC := hide hc
  clear hz hc
  go_enter Tryd.func34, Tryd.ntmps34
  go_wp2_with fail
  refine (below_any p a len cap _ _ HC.out (by omega) (by omega)).mono ?_
  rintro e w1 ⟨x, rfl, h0, h1, hc1, hg1⟩
  obtain ⟨z, hz⟩ := HZ.out x.toNat (by omega)
  have hz1 := hg1.cell hz (by simp; exact hg)
  have hxn : x < (n : Int) := h1
  have HG := hide hg1
  have HC1 := hide hc1
  clear hg1 hc1 hz
  go_wp2
  go_ret
  exact ⟨_, rfl, HC1.out, HG.out⟩

set_option maxRecDepth 100000 in
set_option maxHeartbeats 1000000 in
theorem long_any (m : Nat) (c : Nat) (w : World) (hm : m ≤ 100000) (hc : c < 256) :
    Calls Tryd.prog 27 #[.int .i64 (m : Int), .int .u8 (c : Int)] w fun e w' => ∃ l : List UInt8, e = .returned (.string (bs l)) ∧ l.length = m ∧ Below w.heap.size w w' := by
  obtain ⟨i0, hi, hz0, hz1, hz2⟩ := info_parts Tryd.info5
  go_enter Tryd.func27, Tryd.ntmps27
  go_wp2_with (first | (at_make; refine wpList_make_full _ rfl _ _ 22 rfl w.heap.size 5 i0 (.int .u8 0) 1 Tryd.underlying22 hi hz0 hz1 .i64 .i64 _ _ m rfl rfl ?_ ?_ ?_ ?_ ?_ ?_; rfl; rfl; (rw [hz2]; omega); (unfold maxLen; omega); exact Nat.le_refl _; intro w1 hown hgrow))
  have hb1 : Below w.heap.size w w1 := (Below.refl _ _).grown hgrow (Nat.le_refl _) (fun k hk => by cases hk)
  have e0 : (madeCells (Value.int .u8 0).cells (m * 1)).toList = cellsOf (List.replicate m 0) := by
    have h : (Value.int .u8 0).cells = #[Value.int .u8 0] := rfl
    rw [h, toList_madeCells_one]
    simp [cellsOf]
  rw [e0] at hown
  have OW0 := hide hown
  clear hgrow hown e0
  go_loopw [6] (fun i wr => ∃ (k : Nat) (l : List UInt8), k ≤ m ∧ i = .int .i64 k ∧ l.length = m ∧ wr.ownsRow w.heap.size 5 1 (.slice (some ⟨w.heap.size, 0, none⟩) m m) m (cellsOf l) ∧ Below w.heap.size w wr) (fun i _ => m - (intOf i).toNat)
  case atStart => exact ⟨0, List.replicate m 0, by omega, rfl, by simp, OW0.out, hb1⟩
  case round =>
    clear hb1 OW0
    obtain ⟨k, l, hk, rfl, hl, hown, hnx⟩ := hrel
    have HL := hide hl
    clear hl
    by_cases hlt : k < m
    · have hki : (k : Int) < (m : Int) := by omega
      have hfr := hown.frozenAt k
      have hcl : ∃ x : Int, wr.cell? ⟨w.heap.size, k, none⟩ = some (.int .u8 x) := by
        rw [hown.cellAt k (by omega)]
        have hkl : k < l.length := by have := HL.out; omega
        exact ⟨_, by simp [cellsOf, List.getElem?_eq_getElem hkl]; rfl⟩
      obtain ⟨x, hcl⟩ := hcl
      have hst := (hown.stored k (.int .u8 (c : Int))).1
      have e1 : (cellsOf l).set k (.int .u8 (c : Int)) = cellsOf (l.set k (UInt8.ofNat c)) := by
        have : (c : Int) = ((UInt8.ofNat c).toNat : Int) := by simp; omega
        rw [this]; simp [cellsOf]
      rw [e1] at hst
      have ST := hide hst
      clear hst hown e1
      go_wp2
      go_roundw
      case rel => exact ⟨k + 1, l.set k (UInt8.ofNat c), by omega, by go_num, by simp [HL.out], ST.out, hnx.setCell (Nat.le_refl _) _⟩
      case measure => simp [intOf]; omega
    · have hstr := run_str_own (P := Tryd.prog) 22 9 5 Tryd.underlying22 Tryd.underlying5 Tryd.underlying9 hown
      clear hown
      go_wp2
      go_ret
      exact ⟨l, rfl, HL.out, hnx⟩
end Go.Proofs.YteagdicpefchaaaDoor
