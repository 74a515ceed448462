/-
  The cursor of a draw: spec.l01Byte, l01Below, l01Once: some number in its range comes back; nothing but the cursor's own block turns.
  spec.l01Below: some answer in its range.
  A cursor over the bytes of a draw: spec.l01New, l01Once, l01PickInt; laws.big.
  A record under way while it is drawn.
-/
import Derived.Test.YtchmmekhfcojgaaGreatDoorPq1
import Derived.Deep.QuietTactic
import Derived.BigQuiet
import Derived.Test.YtchmmekhfcojgaaGreatDoorPq11
namespace Go.Proofs.YtchmmekhfcojgaaGreatDoor
open Go.RowKit

/-- the bytes of a draw: len of them, in a block below p -/
def Code (w : World) (a : Option Addr) (len p : Nat) : Prop :=
  len ≤ 1048576 ∧ (len = 0 ∨ ∃ b off, a = some ⟨b, off, none⟩ ∧ b < p ∧ ∀ i, i < len → ∃ x : Nat, x < 256 ∧ w.cell? ⟨b, off + i, none⟩ = some (.int .u8 (x : Int)))

/-- the cursor lies in block p -/
def Cur (w : World) (p : Nat) (a : Option Addr) (len cap : Nat) : Prop :=
  (∃ (i : Nat) (h : Int), i ≤ len ∧ w.heap[p]? = some (.cells #[.slice a len cap, .int .i64 (i : Int), .int .i64 h] 71 (0, 0))) ∧ Code w a len p

theorem and255 (n : Int) : 0 ≤ bits .and .i64 n 255 ∧ bits .and .i64 n 255 ≤ 255 := by
  have key : (BitVec.ofInt 64 n &&& BitVec.ofInt 64 255).toNat ≤ 255 := by
    rw [BitVec.toNat_and]
    exact Nat.le_trans Nat.and_le_right (by decide)
  have e : bits .and .i64 n 255 = IntKind.i64.wrap ((BitVec.ofInt 64 n &&& BitVec.ofInt 64 255).toNat : Nat) := rfl
  rw [e, IntKind.wrap_i64]
  omega

theorem Code.grown {w w' : World} {a : Option Addr} {len p : Nat} {row : Option Nat} (h : Code w a len p) (hg : w.grownBy w' row) (hr : ∀ b, b < p → some b ≠ row) : Code w' a len p := by
  refine ⟨h.1, ?_⟩
  rcases h.2 with h0 | ⟨b, off, ha, hb, hx⟩
  · exact .inl h0
  · refine .inr ⟨b, off, ha, hb, fun i hi => ?_⟩
    obtain ⟨x, h1, h2⟩ := hx i hi
    exact ⟨x, h1, hg.cell h2 (hr b hb)⟩

theorem Cur.grown {w w' : World} {p : Nat} {a : Option Addr} {len cap : Nat} {row : Option Nat} (h : Cur w p a len cap) (hg : w.grownBy w' row) (hr : ∀ b, b ≤ p → some b ≠ row) : Cur w' p a len cap := by
  obtain ⟨⟨i, hh, hi, e⟩, hc⟩ := h
  refine ⟨⟨i, hh, hi, ?_⟩, hc.grown hg (fun b hb => hr b (by omega))⟩
  have hlt : p < w.heap.size := by
    rcases Nat.lt_or_ge p w.heap.size with hl | hl
    · exact hl
    · rw [Array.getElem?_eq_none hl] at e; cases e
  rw [hg.block p hlt (hr p (Nat.le_refl _))]
  exact e

theorem Cur.end {w W2 : World} {p : Nat} {a : Option Addr} {len cap : Nat} (hc : Code w a len p) (hg : w.grownBy W2 (some p)) (i : Nat) (h : Int) (hi : i ≤ len)
    (hh : W2.heap[p]? = some (.cells #[.slice a len cap, .int .i64 (i : Int), .int .i64 h] 71 (0, 0))) : Cur W2 p a len cap ∧ w.grownBy W2 (some p) :=
  ⟨⟨⟨i, h, hi, hh⟩, hc.grown hg (fun b hb => by simp; omega)⟩, hg⟩

set_option maxRecDepth 100000 in
set_option maxHeartbeats 1000000 in
theorem byte_any (p : Nat) (a : Option Addr) (len cap : Nat) (w : World) (hc : Cur w p a len cap) :
    Calls Tryz.prog 26 #[.pointer (some ⟨p, 0, none⟩)] w fun e w' => ∃ x : Int, e = .returned (.int .i64 x) ∧ 0 ≤ x ∧ x ≤ 255 ∧ Cur w' p a len cap ∧ w.grownBy w' (some p) := by
  obtain ⟨⟨i, h, hi, hh⟩, hlen, hcode⟩ := hc
  have c0 := cells_at hh 0
  have c1 := cells_at hh 1
  have c2 := cells_at hh 2
  have f1 := frozen_at hh 1
  have f2 := frozen_at hh 2
  simp at c0 c1 c2
  have HH := hide hh
  have HC := hide hcode
  clear hh hcode
  go_enter Tryz.func26, Tryz.ntmps26
  go_wp2
  generalize wrap64 (wrap64 (h * 6364136223846793005) + 1442695040888963407) = h2
  have hh2 : (w.setCell ⟨p, 2, none⟩ (.int .i64 h2)).heap[p]? = some (.cells #[.slice a len cap, .int .i64 (i : Int), .int .i64 h2] 71 (0, 0)) := by
    rw [heap_setCell_same w p 2 _ _ _ HH.out]; rfl
  have hg1 : w.grownBy (w.setCell ⟨p, 2, none⟩ (.int .i64 h2)) (some p) := ⟨rfl, rfl, rfl, by simp, fun k _ hk => heap_setCell_other w ⟨p, 2, none⟩ k _ (fun e => hk (by simp [e]))⟩
  generalize w.setCell ⟨p, 2, none⟩ (.int .i64 h2) = W1 at hh2 hg1 ⊢
  have d0 := cells_at hh2 0
  have d1 := cells_at hh2 1
  have d2 := cells_at hh2 2
  have e1 := frozen_at hh2 1
  simp at d0 d1 d2
  have HH2 := hide hh2
  clear hh2 c0 c1 c2 f1 f2
  have hbx := and255 (bits .xor .i64 (h2 / 8589934592) (h2 / 35184372088832))
  by_cases hil : i < len
  · have hil2 : (i : Int) < (len : Int) := by omega
    have hcell : ∃ b off, a = some ⟨b, off, none⟩ ∧ b ≠ p ∧ ∃ x : Nat, x < 256 ∧ W1.cell? ⟨b, off + i, none⟩ = some (.int .u8 (x : Int)) := by
      rcases HC.out with h0 | ⟨b, off, ha, hb, hx⟩
      · omega
      · obtain ⟨x, hx1, hx2⟩ := hx i hil
        exact ⟨b, off, ha, by omega, x, hx1, hg1.cell hx2 (by simp; omega)⟩
    obtain ⟨b, off, ha, hbp, x, hx, d3⟩ := hcell
    subst ha
    go_quiet (fail)
    go_wp2
    generalize bits .and .i64 (bits .xor .i64 (h2 / 8589934592) (h2 / 35184372088832)) 255 = x0 at hbx ⊢
    obtain ⟨hb0, hb1⟩ := hbx
    go_quiet (fail)
    go_wp2
    go_quiet (fail)
    go_wp2
    go_ret
    have hbz := and255 (x0 + (x : Int))
    exact ⟨_, rfl, hbz.1, hbz.2, Cur.end ⟨hlen, HC.out⟩ (grown_trans hg1 (grown_trans (grown_drewN W1 _ _) (grown_set _ p 1 _))) (i + 1) h2 (by omega) (heap_setCell_same (W1.drewN _) p 1 _ _ _ HH2.out)⟩
  · have hil2 : ¬ (i : Int) < (len : Int) := by omega
    go_quiet (fail)
    go_wp2
    generalize bits .and .i64 (bits .xor .i64 (h2 / 8589934592) (h2 / 35184372088832)) 255 = x0 at hbx ⊢
    obtain ⟨hb0, hb1⟩ := hbx
    go_quiet (fail)
    go_wp2
    go_ret
    exact ⟨_, rfl, hb0, hb1, Cur.end ⟨hlen, HC.out⟩ (grown_trans hg1 (grown_trans (grown_drewN W1 _ _) (grown_drewN _ _ _))) i h2 hi HH2.out⟩
end Go.Proofs.YtchmmekhfcojgaaGreatDoor
namespace Go.Proofs.YtchmmekhfcojgaaGreatDoor
open Go.RowKit

set_option maxRecDepth 100000 in
set_option maxHeartbeats 1000000 in
theorem below_any (p : Nat) (a : Option Addr) (len cap : Nat) (n : Int) (w : World) (hc : Cur w p a len cap) (hn : 0 < n) (hn2 : n ≤ 1000000000000) :
    Calls Tryz.prog 27 #[.pointer (some ⟨p, 0, none⟩), .int .i64 n] w fun e w' => ∃ x : Int, e = .returned (.int .i64 x) ∧ 0 ≤ x ∧ x < n ∧ Cur w' p a len cap ∧ w.grownBy w' (some p) := by
  by_cases h256 : n ≤ 256
  · go_enter Tryz.func27, Tryz.ntmps27
    go_wp2_with fail
    refine (byte_any p a len cap _ hc).mono ?_
    rintro e w1 ⟨x, rfl, h0, h1, hc1, hg1⟩
    have hr0 := Int.emod_nonneg x (show n ≠ 0 by omega)
    have hr1 := Int.emod_lt_of_pos x hn
    have htm : x.tmod n = x % n := Int.tmod_eq_emod_of_nonneg h0
    have HG := hide hg1
    have HC := hide hc1
    clear hc1 hg1 hc
    go_wp2
    go_ret
    exact ⟨_, rfl, hr0, hr1, HC.out, HG.out⟩
  · go_enter Tryz.func27, Tryz.ntmps27
    go_wp2_with fail
    refine (byte_any p a len cap _ hc).mono ?_
    rintro e w1 ⟨x, rfl, hx0, hx1, hc1, hg1⟩
    have HG1 := hide hg1
    clear hc hg1
    go_wp2_with fail
    refine (byte_any p a len cap _ hc1).mono ?_
    rintro e w2 ⟨y, rfl, hy0, hy1, hc2, hg2⟩
    have HG2 := hide hg2
    clear hc1 hg2
    go_wp2_with fail
    refine (byte_any p a len cap _ hc2).mono ?_
    rintro e w3 ⟨z, rfl, hz0, hz1, hc3, hg3⟩
    have HG3 := hide hg3
    clear hc2 hg3
    go_wp2_with fail
    refine (byte_any p a len cap _ hc3).mono ?_
    rintro e w4 ⟨u, rfl, hu0, hu1, hc4, hg4⟩
    have HG4 := hide hg4
    have HC4 := hide hc4
    clear hc3 hg4 hc4
    have hr0 := Int.emod_nonneg (x * 16777216 + y * 65536 + z * 256 + u) (show n ≠ 0 by omega)
    have hr1 := Int.emod_lt_of_pos (x * 16777216 + y * 65536 + z * 256 + u) hn
    have htm : (x * 16777216 + y * 65536 + z * 256 + u).tmod n = (x * 16777216 + y * 65536 + z * 256 + u) % n := Int.tmod_eq_emod_of_nonneg (by omega)
    go_wp2
    go_ret
    exact ⟨_, rfl, hr0, hr1, HC4.out, grown_trans HG1.out (grown_trans HG2.out (grown_trans HG3.out HG4.out))⟩

theorem lt_of_cur {w : World} {p : Nat} {a : Option Addr} {len cap : Nat} (h : Cur w p a len cap) : p < w.heap.size := by
  obtain ⟨⟨i, hh, hi, e⟩, _⟩ := h
  rcases Nat.lt_or_ge p w.heap.size with hl | hl
  · exact hl
  · rw [Array.getElem?_eq_none hl] at e; cases e

end Go.Proofs.YtchmmekhfcojgaaGreatDoor
namespace Go.Proofs.YtchmmekhfcojgaaGreatDoor
open Go.RowKit

set_option maxRecDepth 100000 in
set_option maxHeartbeats 1000000 in
theorem new_any (a : Option Addr) (len cap : Nat) (w : World) (hc : Code w a len w.heap.size) :
    Calls Tryz.prog 15 #[.slice a len cap] w fun e w' => e = .returned (.pointer (some ⟨w.heap.size, 0, none⟩)) ∧ Cur w' w.heap.size a len cap ∧ Below w.heap.size w w' := by
  have hlen := hc.1
  have HC := hide hc
  clear hc
  have fin : ∀ h : Int, Cur (w.alloc (.cells #[.slice a len cap, .int .i64 0, .int .i64 h] 71)) w.heap.size a len cap := fun h =>
    ⟨⟨0, h, by omega, heap_alloc_new w _⟩, HC.out.grown (row := none) ⟨rfl, rfl, rfl, by simp, fun k hk _ => Below.heap_alloc _ _ _ hk⟩ (fun b _ => by simp)⟩
  have FIN := hide fin
  clear fin
  by_cases h0 : len = 0
  · subst h0
    go_enter Tryz.func15, Tryz.ntmps15
    go_wp2
    refine wp_loop_rounds 1 ?_
    rw [rounds_succ]
    go_wp2
    go_ret
    exact ⟨rfl, FIN.out _, (Below.refl _ _).alloc (Nat.le_refl _) _⟩
  · obtain ⟨b, off, ha, hb, hx⟩ : ∃ b off, a = some ⟨b, off, none⟩ ∧ b < w.heap.size ∧ ∀ i, i < len → ∃ x : Nat, x < 256 ∧ w.cell? ⟨b, off + i, none⟩ = some (.int .u8 (x : Int)) := by
      rcases HC.out.2 with h | h
      · exact absurd h h0
      · exact h
    subst ha
    have HX := hide hx
    clear hx
    go_enter Tryz.func15, Tryz.ntmps15
    go_wp2
    go_loop [3, 4] (fun h i => ∃ (k : Nat) (z : Int), k ≤ len ∧ i = .int .i64 k ∧ h = .int .i64 z) (fun _ i => len - (intOf i).toNat)
    case atStart => exact ⟨0, _, by omega, rfl, rfl⟩
    case round =>
      obtain ⟨k, z, hk, rfl, rfl⟩ := hrel
      by_cases hlt : k < len
      · obtain ⟨x, hx1, hx2⟩ := HX.out k hlt
        have hki : (k : Int) < (len : Int) := by omega
        by_cases h4 : (k : Int) < 4000
        · go_wp2
          go_round
          case rel => exact ⟨k + 1, _, by omega, by go_num, rfl⟩
          case measure => simp [intOf]; omega
        · go_wp2
          go_ret
          exact ⟨rfl, FIN.out _, (Below.refl _ _).alloc (Nat.le_refl _) _⟩
      · go_wp2
        go_ret
        exact ⟨rfl, FIN.out _, (Below.refl _ _).alloc (Nat.le_refl _) _⟩

theorem cur_alloc {w : World} {p : Nat} {a : Option Addr} {len cap : Nat} (h : Cur w p a len cap) (o : Obj) : Cur (w.alloc o) p a len cap :=
  h.grown (row := none) ⟨rfl, rfl, rfl, by simp, fun k hk _ => Below.heap_alloc _ _ _ hk⟩ (fun b _ => by simp)

theorem below_of_grown {p : Nat} {w w' : World} (h : w.grownBy w' (some p)) (hp : p ≤ w.heap.size) : Below p w w' := (Below.refl p w).grown h hp (fun k hk => by simp at hk; omega)

set_option maxHeartbeats 400000 in
theorem big_any (a : Option Addr) (len cap : Nat) (w : World) : Calls Tryz.prog 4 #[.slice a len cap] w fun e w' => e = .returned (.bool (decide ((1048576 : Int) < (len : Int)))) ∧ w = w' := by
  go_enter Tryz.func4, Tryz.ntmps4
  go_wp2
  go_ret
  exact ⟨rfl, rfl⟩

theorem code_later {w w' : World} {a : Option Addr} {len : Nat} (h : Code w a len w.heap.size) (hb : Below w.heap.size w w') : Code w' a len w'.heap.size := by
  refine ⟨h.1, ?_⟩
  rcases h.2 with h0 | ⟨b, off, ha, hb1, hx⟩
  · exact .inl h0
  · refine .inr ⟨b, off, ha, by have := hb.size; omega, fun i hi => ?_⟩
    obtain ⟨x, h1, h2⟩ := hx i hi
    exact ⟨x, h1, by rw [hb.cell (p := ⟨b, off + i, none⟩) hb1]; exact h2⟩

set_option maxRecDepth 100000 in
set_option maxHeartbeats 1000000 in
theorem once_any (p : Nat) (a : Option Addr) (len cap : Nat) (n : Int) (w : World) (hc : Cur w p a len cap) (hn : 0 < n) (hn2 : n ≤ 1000000000000) :
    Calls Tryz.prog 37 #[.pointer (some ⟨p, 0, none⟩), .int .i64 n] w fun e w' => ∃ x : Bool, e = .returned (.bool x) ∧ Cur w' p a len cap ∧ w.grownBy w' (some p) := by
  go_enter Tryz.func37, Tryz.ntmps37
  go_wp2_with fail
  refine (below_any p a len cap n _ hc hn hn2).mono ?_
  rintro e w1 ⟨x, rfl, h0, h1, hc1, hg1⟩
  have HG := hide hg1
  have HC := hide hc1
  clear hc1 hg1 hc
  go_wp2
  go_ret
  exact ⟨_, rfl, HC.out, HG.out⟩

set_option maxRecDepth 100000 in
set_option maxHeartbeats 1000000 in
theorem pickR_any (R : Int → Prop) (p : Nat) (a : Option Addr) (len cap : Nat) (g n : Nat) (w : World) (hc : Cur w p a len cap) (hn : 0 < n) (hn2 : n ≤ 1000) (hg : g ≠ p) (hz : ∀ k, k < n → ∃ z : Int, R z ∧ w.cell? ⟨g, k, none⟩ = some (.int .i64 z)) :
    Calls Tryz.prog 63 #[.pointer (some ⟨p, 0, none⟩), .slice (some ⟨g, 0, none⟩) n n] w fun e w' => ∃ x : Int, e = .returned (.int .i64 x) ∧ R x ∧ Cur w' p a len cap ∧ w.grownBy w' (some p) := by
  have HZ := hide hz
  have HC := hide hc
  clear hz hc
  go_enter Tryz.func63, Tryz.ntmps63
  go_wp2_with fail
  refine (below_any p a len cap _ _ HC.out (by omega) (by omega)).mono ?_
  rintro e w1 ⟨x, rfl, h0, h1, hc1, hg1⟩
  obtain ⟨z, hR, hz⟩ := HZ.out x.toNat (by omega)
  have hz1 := hg1.cell hz (by simp; exact hg)
  have hxn : x < (n : Int) := h1
  have HR := hide hR
  have HG := hide hg1
  have HC1 := hide hc1
  clear hg1 hc1 hz hR
  go_wp2
  go_ret
  exact ⟨_, rfl, HR.out, HC1.out, HG.out⟩

end Go.Proofs.YtchmmekhfcojgaaGreatDoor
namespace Go.Proofs.YtchmmekhfcojgaaGreatDoor
open Go.RowKit

def zeroC : Array Value := #[.int .i64 0, .int .i64 0, .int .i64 0, .int .i64 0, .int .i64 0, .slice none 0 0, .int .i64 0, .bool false]

/-- its box in block z, the result's cell in block B0, the cursor in block p, its row in blocks behind z -/
structure RcSt (w wr : World) (p B0 z : Nat) (a : Option Addr) (len cap : Nat) (v : Value) (x : RecD) : Prop where
  cur : Cur wr p a len cap
  low : w.heap.size ≤ B0
  gro : w.grownBy wr (some p)
  box : wr.heap[z]? = some (.cells (recC x v) 51)
  res : wr.heap[B0]? = some (.cells zeroC 51)
  own : wr.ownsRow (B0 + 1) 100 2 v x.near.length (flat nrE x.near)
  djn : some z ≠ v.ownBlock

theorem grown_of_below {w w' : World} (hb : Below w.heap.size w w') : w.grownBy w' none := ⟨hb.os, hb.tape, hb.output, hb.size, fun k hk _ => hb.block k hk⟩

/-- what a step leaves of the blocks that were there ahead, the cursor's aside -/
theorem gro_step {w a b : World} {p : Nat} {row : Option Nat} (h : w.grownBy a (some p)) (g : a.grownBy b row) (hr : ∀ k, row = some k → k = p ∨ w.heap.size ≤ k) : w.grownBy b (some p) :=
  ⟨g.os.trans h.os, g.tape.trans h.tape, g.output.trans h.output, Nat.le_trans h.size g.size, fun k hk hne => by
    rw [g.block k (Nat.lt_of_lt_of_le hk h.size) (fun e => by
      rcases hr k e.symm with h1 | h1
      · exact hne (by rw [h1])
      · omega), h.block k hk hne]⟩

theorem gro_refl (w : World) (row : Option Nat) : w.grownBy w row := ⟨rfl, rfl, rfl, Nat.le_refl _, fun _ _ _ => rfl⟩

theorem gro_alloc {w a : World} {p : Nat} (h : w.grownBy a (some p)) (o : Obj) : w.grownBy (a.alloc o) (some p) :=
  gro_step h (row := none) ⟨rfl, rfl, rfl, by simp, fun k hk _ => Below.heap_alloc _ _ _ hk⟩ (fun k e => by cases e)

theorem gro_same {w a b : World} {p : Nat} (h : w.grownBy a (some p)) (g : a.grownBy b (some p)) : w.grownBy b (some p) := gro_step h g (fun k e => .inl (by simpa using e.symm))

theorem gro_set {w a : World} {p : Nat} (h : w.grownBy a (some p)) (z i : Nat) (u : Value) (hz : w.heap.size ≤ z) : w.grownBy (a.setCell ⟨z, i, none⟩ u) (some p) :=
  gro_step h (grown_set a z i u) (fun k e => .inr (by simp at e; omega))

section
variable {w wr w' : World} {p B0 z : Nat} {a : Option Addr} {len cap : Nat} {v : Value} {x : RecD}

theorem RcSt.grown (h : RcSt w wr p B0 z a len cap v x) (hc : Cur w' p a len cap) (hg : wr.grownBy w' (some p)) (hp : p < B0) (hz : B0 < z) : RcSt w w' p B0 z a len cap v x where
  cur := hc
  low := h.low
  gro := gro_same h.gro hg
  box := by rw [hg.block z (lt_of_heap h.box) (by simp; omega)]; exact h.box
  res := by rw [hg.block B0 (lt_of_heap h.res) (by simp; omega)]; exact h.res
  own := kept_other h.own hg (by omega)
  djn := h.djn

theorem RcSt.below (h : RcSt w wr p B0 z a len cap v x) (hb : Below wr.heap.size wr w') : RcSt w w' p B0 z a len cap v x where
  cur := h.cur.grown (grown_of_below hb) (fun b _ => by simp)
  low := h.low
  gro := gro_step h.gro (grown_of_below hb) (fun k e => by cases e)
  box := by rw [hb.block z (lt_of_heap h.box)]; exact h.box
  res := by rw [hb.block B0 (lt_of_heap h.res)]; exact h.res
  own := owns_below h.own hb (Nat.le_refl _)
  djn := h.djn

theorem RcSt.alloc (h : RcSt w wr p B0 z a len cap v x) (o : Obj) : RcSt w (wr.alloc o) p B0 z a len cap v x := h.below ((Below.refl _ _).alloc (Nat.le_refl _) _)

theorem RcSt.drew (h : RcSt w wr p B0 z a len cap v x) : RcSt w wr.drew p B0 z a len cap v x := h.below (Below.refl _ _).drew

/-- a field that is no list -/
theorem RcSt.set (h : RcSt w wr p B0 z a len cap v x) (i : Nat) (u : Value) (y : RecD) (hy : y.near = x.near) (hC : (recC x v).setIfInBounds i u = recC y v) (hp : p < B0) (hz : B0 < z) : RcSt w (wr.setCell ⟨z, i, none⟩ u) p B0 z a len cap v y where
  cur := h.cur.grown (grown_set wr z i u) (fun b hb => by simp; omega)
  low := h.low
  gro := gro_set h.gro z i u (by have := h.low; omega)
  box := by rw [heap_setCell_same _ _ i _ _ u h.box, hC]
  res := by rw [heap_setCell_other wr ⟨z, i, none⟩ _ _ (by show B0 ≠ z; omega)]; exact h.res
  own := by
    rw [hy]
    refine h.own.kept (grown_set wr z i u) ?_
    cases hv : v.ownBlock with
    | none => exact .inl rfl
    | some g => exact .inr (fun e => h.djn (by rw [hv]; exact e.symm))
  djn := h.djn

/-- another row of nears, made by an append -/
theorem RcSt.put (h : RcSt w wr p B0 z a len cap v x) {o : Obj} {v' : Value} {l : List Nr} (hg : (wr.alloc o).grownBy w' v.ownBlock) (ho : w'.ownsRow (B0 + 1) 100 2 v' l.length (flat nrE l)) (hd : some z ≠ v'.ownBlock) (hp : p < B0) (hz : B0 < z) :
    RcSt w (w'.setCell ⟨z, 5, none⟩ v') p B0 z a len cap v' { x with near := l } :=
  have hlt := h.own.lt
  have hcu : Cur w' p a len cap := (cur_alloc h.cur o).grown hg (fun b hb e => by have := (hlt b e.symm).1; omega)
  have hbx : w'.heap[z]? = some (.cells (recC x v) 51) := by
    rw [hg.block z (by have := lt_of_heap h.box; simp; omega) h.djn, Below.heap_alloc _ _ _ (lt_of_heap h.box)]; exact h.box
  have hrs : w'.heap[B0]? = some (.cells zeroC 51) := by
    rw [hg.block B0 (by have := lt_of_heap h.res; simp; omega) (fun e => by have := (hlt B0 e.symm).1; omega), Below.heap_alloc _ _ _ (lt_of_heap h.res)]; exact h.res
  { cur := hcu.grown (grown_set w' z 5 v') (fun b hb => by simp; omega)
    low := h.low
    gro := gro_set (gro_step (gro_alloc h.gro o) hg (fun k hk => .inr (by have := (hlt k hk).1; have := h.low; omega))) z 5 v' (by have := h.low; omega)
    box := heap_setCell_same _ _ 5 _ _ v' hbx
    res := by rw [heap_setCell_other w' ⟨z, 5, none⟩ _ _ (by show B0 ≠ z; omega)]; exact hrs
    own := by
      refine ho.kept (grown_set w' z 5 v') ?_
      cases hv : v'.ownBlock with
      | none => exact .inl rfl
      | some g => exact .inr (fun e => hd (by rw [hv]; exact e.symm))
    djn := hd }
end

/-- the append's row doesn't lie where the box does -/
theorem row_ne_box {W : World} {base z n : Nat} {v : Value} {xs : List Value} {C : Array Value} {fr : Nat × Nat} (ho : W.ownsRow base 100 2 v n xs) (h : W.heap[z]? = some (.cells C 51 fr)) : some z ≠ v.ownBlock := by
  intro eq
  rcases ho.2 with ⟨h1, _⟩ | ⟨g', cap', cur', hv', _, hh', _⟩
  · rw [h1] at eq; simp [Value.ownBlock] at eq
  · rw [hv'] at eq
    simp [Value.ownBlock] at eq
    subst eq
    rw [h] at hh'
    simp at hh'
end Go.Proofs.YtchmmekhfcojgaaGreatDoor
