/-
  Records as values; laws.toRecord, eqRecord, szRecord.
  The cursor of a draw: spec.l01Byte, l01Below, l01Once: some number in its range comes back; nothing but the cursor's own block turns.
  spec.l01Below: some answer in its range.
  A cursor over the bytes of a draw: spec.l01New, l01Once, l01PickInt; laws.big.
  A record under way while it is drawn.
  Regions that draw their order, by hand: one operation at a time, in the text's order.
-/
import Derived.Test.YtdaigojpeofmpaaPk1
import Derived.Deep.QuietTactic
import Derived.BigQuiet
import Derived.Deep.RegionHeld3
namespace Go.Proofs.Ytdaigojpeofmpaa
open Go.RowKit

structure RecD where
  area : Int
  kind : Int
  owner : Int
  key : Int
  seq : Int
  near : List Nr
  cost : Int
  far : Bool
  deriving DecidableEq

def recC (x : RecD) (v : Value) : Array Value := #[.int .i64 x.area, .int .i64 x.kind, .int .i64 x.owner, .int .i64 x.key, .int .i64 x.seq, v, .int .i64 x.cost, .bool x.far]

/-- the value v is the record x, whose row lies below B -/
def RecAt (W : World) (v : Value) (x : RecD) (B : Nat) : Prop := ∃ v1, v = .agg (recC x v1) ∧ NearsAt W v1 x.near B

theorem RecAt.then {W W' : World} {v : Value} {x : RecD} (h : RecAt W v x W.heap.size) (hb : Below W.heap.size W W') : RecAt W' v x W'.heap.size := by
  obtain ⟨v1, hv, h1⟩ := h
  exact ⟨v1, hv, h1.then hb⟩

def szR (q : Int) (n : Nat) : Int := if q - (n : Int) < 0 then -1 else q - (n : Int)

set_option maxRecDepth 100000 in
set_option maxHeartbeats 1000000 in
theorem szRecord_any (x : RecD) (a : Option Addr) (n c : Nat) (q : Int) (w : World) (hn : (n : Int) ≤ 9223372036854775807) (hq0 : 0 ≤ q) (hq : q ≤ 1048576) :
    Calls Try.prog 38 #[.agg (recC x (.slice a n c)), .int .i64 q] w fun e w' => e = .returned (.int .i64 (szR q n)) ∧ Below w.heap.size w w' := by
  unfold szR recC
  have HS := hide (szNearS_any a n c q)
  by_cases h : q - (n : Int) < 0
  · rw [if_pos h] at HS ⊢
    go_enter Try.func38, Try.ntmps38
    go_wp2_with fail
    refine (HS.out _ hn hq0 hq).mono ?_
    rintro e w1 ⟨rfl, rfl⟩
    go_wp2
    go_ret
    exact ⟨rfl, (Below.refl _ _).alloc (Nat.le_refl _) _⟩
  · rw [if_neg h] at HS ⊢
    go_enter Try.func38, Try.ntmps38
    go_wp2_with fail
    refine (HS.out _ hn hq0 hq).mono ?_
    rintro e w1 ⟨rfl, rfl⟩
    go_wp2
    go_ret
    exact ⟨rfl, (Below.refl _ _).alloc (Nat.le_refl _) _⟩

set_option maxRecDepth 100000 in
set_option maxHeartbeats 4000000 in
theorem toRecord_any (v : Value) (x : RecD) (w : World) (hl : x.near.length ≤ 1048576) (hv : RecAt w v x w.heap.size) :
    Calls Try.prog 41 #[v] w fun e w' => ∃ v1, e = .returned (.agg (recC x v1)) ∧ w'.ownsRow w.heap.size 120 2 v1 x.near.length (flat nrE x.near) ∧ Below w.heap.size w w' := by
  obtain ⟨u1, rfl, h1⟩ := hv
  obtain ⟨a1, c1, rfl⟩ := h1.shape
  have H1 := hide h1
  clear h1
  unfold recC
  go_enter Try.func41, Try.ntmps41
  go_wp2_with fail
  have hw0 := heap3_0 w (.cells #[.int .i64 x.area, .int .i64 x.kind, .int .i64 x.owner, .int .i64 x.key, .int .i64 x.seq, .slice a1 x.near.length c1, .int .i64 x.cost, .bool x.far] 69) (.cells #[.int .i64 0, .int .i64 0, .int .i64 0, .int .i64 0, .int .i64 0, .slice none 0 0, .int .i64 0, .bool false] 56) (.cells #[.int .i64 x.area, .int .i64 x.kind, .int .i64 x.owner, .int .i64 x.key, .int .i64 x.seq, .slice none 0 0, .int .i64 0, .bool false] 56)
  have hw1 := heap3_1 w (.cells #[.int .i64 x.area, .int .i64 x.kind, .int .i64 x.owner, .int .i64 x.key, .int .i64 x.seq, .slice a1 x.near.length c1, .int .i64 x.cost, .bool x.far] 69) (.cells #[.int .i64 0, .int .i64 0, .int .i64 0, .int .i64 0, .int .i64 0, .slice none 0 0, .int .i64 0, .bool false] 56) (.cells #[.int .i64 x.area, .int .i64 x.kind, .int .i64 x.owner, .int .i64 x.key, .int .i64 x.seq, .slice none 0 0, .int .i64 0, .bool false] 56)
  have hw2 := heap3_2 w (.cells #[.int .i64 x.area, .int .i64 x.kind, .int .i64 x.owner, .int .i64 x.key, .int .i64 x.seq, .slice a1 x.near.length c1, .int .i64 x.cost, .bool x.far] 69) (.cells #[.int .i64 0, .int .i64 0, .int .i64 0, .int .i64 0, .int .i64 0, .slice none 0 0, .int .i64 0, .bool false] 56) (.cells #[.int .i64 x.area, .int .i64 x.kind, .int .i64 x.owner, .int .i64 x.key, .int .i64 x.seq, .slice none 0 0, .int .i64 0, .bool false] 56)
  have bw := below_three (w := w) (.cells #[.int .i64 x.area, .int .i64 x.kind, .int .i64 x.owner, .int .i64 x.key, .int .i64 x.seq, .slice a1 x.near.length c1, .int .i64 x.cost, .bool x.far] 69) (.cells #[.int .i64 0, .int .i64 0, .int .i64 0, .int .i64 0, .int .i64 0, .slice none 0 0, .int .i64 0, .bool false] 56) (.cells #[.int .i64 x.area, .int .i64 x.kind, .int .i64 x.owner, .int .i64 x.key, .int .i64 x.seq, .slice none 0 0, .int .i64 0, .bool false] 56)
  generalize (((w.alloc (.cells #[.int .i64 x.area, .int .i64 x.kind, .int .i64 x.owner, .int .i64 x.key, .int .i64 x.seq, .slice a1 x.near.length c1, .int .i64 x.cost, .bool x.far] 69)).alloc (.cells #[.int .i64 0, .int .i64 0, .int .i64 0, .int .i64 0, .int .i64 0, .slice none 0 0, .int .i64 0, .bool false] 56)).alloc (.cells #[.int .i64 x.area, .int .i64 x.kind, .int .i64 x.owner, .int .i64 x.key, .int .i64 x.seq, .slice none 0 0, .int .i64 0, .bool false] 56)) = w1 at *
  refine (toNearS_any _ x.near w1 hl (H1.out.then bw)).mono ?_
  rintro e w2 ⟨v1, rfl, ho1, b2⟩
  obtain ⟨p1, q1, rfl⟩ := owns_lenS ho1
  have l2 := lt_of_heap hw2
  rw [← b2.block _ (lt_of_heap hw0)] at hw0
  rw [← b2.block _ (lt_of_heap hw1)] at hw1
  rw [← b2.block _ l2] at hw2
  have hb12 : w.heap.size ≤ w1.heap.size := bw.size
  have bw2 : Below w.heap.size w w2 := bw.trans (b2.mono hb12)
  have s6 := cells_at hw0 6
  have s7 := cells_at hw0 7
  have t0 := cells_at hw2 0
  have t1 := cells_at hw2 1
  have t2 := cells_at hw2 2
  have t3 := cells_at hw2 3
  have t4 := cells_at hw2 4
  have t5 := cells_at hw2 5
  have t6 := cells_at hw2 6
  have t7 := cells_at hw2 7
  have r0 := cells_at hw1 0
  have r1 := cells_at hw1 1
  have r2 := cells_at hw1 2
  have r3 := cells_at hw1 3
  have r4 := cells_at hw1 4
  have r5 := cells_at hw1 5
  have r6 := cells_at hw1 6
  have r7 := cells_at hw1 7
  simp at s6 s7 t0 t1 t2 t3 t4 t5 t6 t7 r0 r1 r2 r3 r4 r5 r6 r7
  have f2 := frozen_at hw2
  have f1 := frozen_at hw1
  have O1 := hide ho1
  have HW1 := hide hw1
  clear ho1 hw0 hw1 hw2 H1
  go_wp2
  have k0 : (((w2.setCell ⟨w.heap.size + 1 + 1, 5, none⟩ (.slice p1 x.near.length q1)).setCell ⟨w.heap.size + 1 + 1, 6, none⟩ (.int .i64 x.cost)).setCell ⟨w.heap.size + 1 + 1, 7, none⟩ (.bool x.far)).heap[w.heap.size + 1]? = some (.cells #[.int .i64 0, .int .i64 0, .int .i64 0, .int .i64 0, .int .i64 0, .slice none 0 0, .int .i64 0, .bool false] 56) := by
    rw [heap_setCell_other _ ⟨w.heap.size + 1 + 1, 7, none⟩ _ _ (by show w.heap.size + 1 ≠ w.heap.size + 1 + 1; omega), heap_setCell_other _ ⟨w.heap.size + 1 + 1, 6, none⟩ _ _ (by show w.heap.size + 1 ≠ w.heap.size + 1 + 1; omega), heap_setCell_other _ ⟨w.heap.size + 1 + 1, 5, none⟩ _ _ (by show w.heap.size + 1 ≠ w.heap.size + 1 + 1; omega)]
    exact HW1.out
  have k1 := heap_setCell_same _ _ 0 _ _ (.int .i64 x.area) k0
  have k2 := heap_setCell_same _ _ 1 _ _ (.int .i64 x.kind) k1
  have k3 := heap_setCell_same _ _ 2 _ _ (.int .i64 x.owner) k2
  have k4 := heap_setCell_same _ _ 3 _ _ (.int .i64 x.key) k3
  have k5 := heap_setCell_same _ _ 4 _ _ (.int .i64 x.seq) k4
  have k6 := heap_setCell_same _ _ 5 _ _ (.slice p1 x.near.length q1) k5
  have k7 := heap_setCell_same _ _ 6 _ _ (.int .i64 x.cost) k6
  have k8 := heap_setCell_same _ _ 7 _ _ (.bool x.far) k7
  have hfin := k8
  clear k0 k1 k2 k3 k4 k5 k6 k7 k8
  (try simp only [Exit.inBlock, Exit.then])
  refine bodyPost_ret (results_cell_row rfl _ _ (w.heap.size + 1) 56 #[.int .i64 x.area, .int .i64 x.kind, .int .i64 x.owner, .int .i64 x.key, .int .i64 x.seq, .slice p1 x.near.length q1, .int .i64 x.cost, .bool x.far] (0, 0) _ rfl hfin Try.underlying56 rfl (by kernel_rfl)) rfl ?_
  refine ⟨_, rfl, ?_, ?_⟩
  · refine owns_baseS (b1 := w1.heap.size) ?_ (by omega)
    repeat (refine owns_set ?_ (by omega))
    exact O1.out
  · repeat (refine Below.setCell ?_ (by first | (show w.heap.size ≤ w.heap.size + 1 + 1; omega) | (show w.heap.size ≤ w.heap.size + 1; omega)) _)
    exact bw2

set_option maxRecDepth 100000 in
set_option maxHeartbeats 4000000 in
theorem eqRecord_any (v1 v2 : Value) (x y : RecD) (w : World) (h1 : RecAt w v1 x w.heap.size) (h2 : RecAt w v2 y w.heap.size) (hl : x.near.length ≤ 1048576) :
    Calls Try.prog 44 #[v1, v2] w fun e w' => e = .returned (.bool (decide (x = y))) ∧ Below w.heap.size w w' := by
  obtain ⟨a0, a1, a2, a3, a4, ns, a6, a7⟩ := x
  obtain ⟨b0, b1, b2, b3, b4, ms, b6, b7⟩ := y
  obtain ⟨u1, rfl, k1⟩ := h1
  obtain ⟨u2, rfl, k2⟩ := h2
  simp only [] at k1 k2 hl
  have K1 := hide k1
  have K2 := hide k2
  clear k1 k2
  unfold recC
  simp only []
  by_cases h0 : a0 = b0
  case neg =>
    have hd : (a0 != b0) = true := by simpa using h0
    have hne : decide ((⟨a0, a1, a2, a3, a4, ns, a6, a7⟩ : RecD) = ⟨b0, b1, b2, b3, b4, ms, b6, b7⟩) = false := decide_eq_false (fun h => by cases h; exact h0 rfl)
    rw [hne]
    clear hne
    go_enter Try.func44, Try.ntmps44
    go_wp2
    go_ret
    exact ⟨rfl, below_two _ _⟩
  subst h0
  by_cases h1 : a1 = b1
  case neg =>
    have hd : (a1 != b1) = true := by simpa using h1
    have hne : decide ((⟨a0, a1, a2, a3, a4, ns, a6, a7⟩ : RecD) = ⟨a0, b1, b2, b3, b4, ms, b6, b7⟩) = false := decide_eq_false (fun h => by cases h; exact h1 rfl)
    rw [hne]
    clear hne
    go_enter Try.func44, Try.ntmps44
    go_wp2
    go_ret
    exact ⟨rfl, below_two _ _⟩
  subst h1
  by_cases h2 : a2 = b2
  case neg =>
    have hd : (a2 != b2) = true := by simpa using h2
    have hne : decide ((⟨a0, a1, a2, a3, a4, ns, a6, a7⟩ : RecD) = ⟨a0, a1, b2, b3, b4, ms, b6, b7⟩) = false := decide_eq_false (fun h => by cases h; exact h2 rfl)
    rw [hne]
    clear hne
    go_enter Try.func44, Try.ntmps44
    go_wp2
    go_ret
    exact ⟨rfl, below_two _ _⟩
  subst h2
  by_cases h3 : a3 = b3
  case neg =>
    have hd : (a3 != b3) = true := by simpa using h3
    have hne : decide ((⟨a0, a1, a2, a3, a4, ns, a6, a7⟩ : RecD) = ⟨a0, a1, a2, b3, b4, ms, b6, b7⟩) = false := decide_eq_false (fun h => by cases h; exact h3 rfl)
    rw [hne]
    clear hne
    go_enter Try.func44, Try.ntmps44
    go_wp2
    go_ret
    exact ⟨rfl, below_two _ _⟩
  subst h3
  by_cases h4 : a4 = b4
  case neg =>
    have hd : (a4 != b4) = true := by simpa using h4
    have hne : decide ((⟨a0, a1, a2, a3, a4, ns, a6, a7⟩ : RecD) = ⟨a0, a1, a2, a3, b4, ms, b6, b7⟩) = false := decide_eq_false (fun h => by cases h; exact h4 rfl)
    rw [hne]
    clear hne
    go_enter Try.func44, Try.ntmps44
    go_wp2
    go_ret
    exact ⟨rfl, below_two _ _⟩
  subst h4
  go_enter Try.func44, Try.ntmps44
  go_wp2_with fail
  refine (eqNearS_any u1 u2 ns ms _ (K1.out.then (below_two _ _)) (K2.out.then (below_two _ _)) hl).mono ?_
  rintro e w1 ⟨rfl, bb1⟩
  have bw1 : Below w.heap.size w w1 := (below_two _ _).trans (bb1.mono (by simp; omega))
  have hw0 : w1.heap[w.heap.size]? = some (.cells #[.int .i64 a0, .int .i64 a1, .int .i64 a2, .int .i64 a3, .int .i64 a4, u1, .int .i64 a6, .bool a7] 56) := by
    rw [bb1.block _ (by simp; omega), Below.heap_alloc _ _ _ (by simp), heap_alloc_new]
  have hw1 : w1.heap[w.heap.size + 1]? = some (.cells #[.int .i64 a0, .int .i64 a1, .int .i64 a2, .int .i64 a3, .int .i64 a4, u2, .int .i64 b6, .bool b7] 56) := by
    rw [bb1.block _ (by simp)]
    have := heap_alloc_new (w.alloc (.cells #[.int .i64 a0, .int .i64 a1, .int .i64 a2, .int .i64 a3, .int .i64 a4, u1, .int .i64 a6, .bool a7] 56)) (.cells #[.int .i64 a0, .int .i64 a1, .int .i64 a2, .int .i64 a3, .int .i64 a4, u2, .int .i64 b6, .bool b7] 56)
    simpa using this
  have s6 := cells_at hw0 6
  have s7 := cells_at hw0 7
  have t6 := cells_at hw1 6
  have t7 := cells_at hw1 7
  simp at s6 s7 t6 t7
  clear bb1 hw0 hw1
  by_cases hns : ns = ms
  case neg =>
    rw [decide_eq_false hns]
    have hne : decide ((⟨a0, a1, a2, a3, a4, ns, a6, a7⟩ : RecD) = ⟨a0, a1, a2, a3, a4, ms, b6, b7⟩) = false := decide_eq_false (fun h => by cases h; exact hns rfl)
    have HNE := hide hne
    clear hne
    go_wp2
    go_ret
    exact ⟨by rw [HNE.out]; rfl, bw1⟩
  subst hns
  rw [decide_eq_true (rfl : ns = ns)]
  by_cases h6 : a6 = b6
  case neg =>
    have hd : (a6 != b6) = true := by simpa using h6
    have hne : decide ((⟨a0, a1, a2, a3, a4, ns, a6, a7⟩ : RecD) = ⟨a0, a1, a2, a3, a4, ns, b6, b7⟩) = false := decide_eq_false (fun h => by cases h; exact h6 rfl)
    have HNE := hide hne
    clear hne
    go_wp2
    go_ret
    exact ⟨by rw [HNE.out]; rfl, bw1⟩
  subst h6
  cases a7 <;> cases b7
  all_goals
    go_wp2
    go_ret
    exact ⟨by simp, bw1⟩
end Go.Proofs.Ytdaigojpeofmpaa
namespace Go.Proofs.Ytdaigojpeofmpaa
open Go.RowKit

/-- the bytes of a draw: len of them, in a block below p -/
def Code (w : World) (a : Option Addr) (len p : Nat) : Prop :=
  len ≤ 1048576 ∧ (len = 0 ∨ ∃ b off, a = some ⟨b, off, none⟩ ∧ b < p ∧ ∀ i, i < len → ∃ x : Nat, x < 256 ∧ w.cell? ⟨b, off + i, none⟩ = some (.int .u8 (x : Int)))

/-- the cursor lies in block p -/
def Cur (w : World) (p : Nat) (a : Option Addr) (len cap : Nat) : Prop :=
  (∃ (i : Nat) (h : Int), i ≤ len ∧ w.heap[p]? = some (.cells #[.slice a len cap, .int .i64 (i : Int), .int .i64 h] 122 (0, 0))) ∧ Code w a len p

theorem and255 (n : Int) : 0 ≤ bits .and .i64 n 255 ∧ bits .and .i64 n 255 ≤ 255 := by
  have key : (BitVec.ofInt 64 n &&& BitVec.ofInt 64 255).toNat ≤ 255 := by
    rw [BitVec.toNat_and]
    exact Nat.le_trans Nat.and_le_right (by decide)
  have e : bits .and .i64 n 255 = IntKind.i64.wrap ((BitVec.ofInt 64 n &&& BitVec.ofInt 64 255).toNat : Nat) := rfl
  rw [e, IntKind.wrap_i64]
  omega

theorem Code.grown {w w' : World} {a : Option Addr} {len p : Nat} {row : Option Nat} (h : Code w a len p) (hg : w.grownBy w' row) (hr : ∀ b, b < p → some b ≠ row) : Code w' a len p := by
  refine ⟨h.1, ?_⟩
  rcases h.2 with h0 | ⟨b, off, ha, hb, hx⟩
  · exact .inl h0
  · refine .inr ⟨b, off, ha, hb, fun i hi => ?_⟩
    obtain ⟨x, h1, h2⟩ := hx i hi
    exact ⟨x, h1, hg.cell h2 (hr b hb)⟩

theorem Cur.grown {w w' : World} {p : Nat} {a : Option Addr} {len cap : Nat} {row : Option Nat} (h : Cur w p a len cap) (hg : w.grownBy w' row) (hr : ∀ b, b ≤ p → some b ≠ row) : Cur w' p a len cap := by
  obtain ⟨⟨i, hh, hi, e⟩, hc⟩ := h
  refine ⟨⟨i, hh, hi, ?_⟩, hc.grown hg (fun b hb => hr b (by omega))⟩
  have hlt : p < w.heap.size := by
    rcases Nat.lt_or_ge p w.heap.size with hl | hl
    · exact hl
    · rw [Array.getElem?_eq_none hl] at e; cases e
  rw [hg.block p hlt (hr p (Nat.le_refl _))]
  exact e

theorem Cur.end {w W2 : World} {p : Nat} {a : Option Addr} {len cap : Nat} (hc : Code w a len p) (hg : w.grownBy W2 (some p)) (i : Nat) (h : Int) (hi : i ≤ len)
    (hh : W2.heap[p]? = some (.cells #[.slice a len cap, .int .i64 (i : Int), .int .i64 h] 122 (0, 0))) : Cur W2 p a len cap ∧ w.grownBy W2 (some p) :=
  ⟨⟨⟨i, h, hi, hh⟩, hc.grown hg (fun b hb => by simp; omega)⟩, hg⟩

set_option maxRecDepth 100000 in
set_option maxHeartbeats 1000000 in
theorem byte_any (p : Nat) (a : Option Addr) (len cap : Nat) (w : World) (hc : Cur w p a len cap) :
    Calls Try.prog 105 #[.pointer (some ⟨p, 0, none⟩)] w fun e w' => ∃ x : Int, e = .returned (.int .i64 x) ∧ 0 ≤ x ∧ x ≤ 255 ∧ Cur w' p a len cap ∧ w.grownBy w' (some p) := by
  obtain ⟨⟨i, h, hi, hh⟩, hlen, hcode⟩ := hc
  have c0 := cells_at hh 0
  have c1 := cells_at hh 1
  have c2 := cells_at hh 2
  have f1 := frozen_at hh 1
  have f2 := frozen_at hh 2
  simp at c0 c1 c2
  have HH := hide hh
  have HC := hide hcode
  clear hh hcode
  go_enter Try.func105, Try.ntmps105
  go_wp2
  generalize wrap64 (wrap64 (h * 6364136223846793005) + 1442695040888963407) = h2
  have hh2 : (w.setCell ⟨p, 2, none⟩ (.int .i64 h2)).heap[p]? = some (.cells #[.slice a len cap, .int .i64 (i : Int), .int .i64 h2] 122 (0, 0)) := by
    rw [heap_setCell_same w p 2 _ _ _ HH.out]; rfl
  have hg1 : w.grownBy (w.setCell ⟨p, 2, none⟩ (.int .i64 h2)) (some p) := ⟨rfl, rfl, rfl, by simp, fun k _ hk => heap_setCell_other w ⟨p, 2, none⟩ k _ (fun e => hk (by simp [e]))⟩
  generalize w.setCell ⟨p, 2, none⟩ (.int .i64 h2) = W1 at hh2 hg1 ⊢
  have d0 := cells_at hh2 0
  have d1 := cells_at hh2 1
  have d2 := cells_at hh2 2
  have e1 := frozen_at hh2 1
  simp at d0 d1 d2
  have HH2 := hide hh2
  clear hh2 c0 c1 c2 f1 f2
  have hbx := and255 (bits .xor .i64 (h2 / 8589934592) (h2 / 35184372088832))
  by_cases hil : i < len
  · have hil2 : (i : Int) < (len : Int) := by omega
    have hcell : ∃ b off, a = some ⟨b, off, none⟩ ∧ b ≠ p ∧ ∃ x : Nat, x < 256 ∧ W1.cell? ⟨b, off + i, none⟩ = some (.int .u8 (x : Int)) := by
      rcases HC.out with h0 | ⟨b, off, ha, hb, hx⟩
      · omega
      · obtain ⟨x, hx1, hx2⟩ := hx i hil
        exact ⟨b, off, ha, by omega, x, hx1, hg1.cell hx2 (by simp; omega)⟩
    obtain ⟨b, off, ha, hbp, x, hx, d3⟩ := hcell
    subst ha
    go_quiet (fail)
    go_wp2
    generalize bits .and .i64 (bits .xor .i64 (h2 / 8589934592) (h2 / 35184372088832)) 255 = x0 at hbx ⊢
    obtain ⟨hb0, hb1⟩ := hbx
    go_quiet (fail)
    go_wp2
    go_quiet (fail)
    go_wp2
    go_ret
    have hbz := and255 (x0 + (x : Int))
    exact ⟨_, rfl, hbz.1, hbz.2, Cur.end ⟨hlen, HC.out⟩ (grown_trans hg1 (grown_trans (grown_drewN W1 _ _) (grown_set _ p 1 _))) (i + 1) h2 (by omega) (heap_setCell_same (W1.drewN _) p 1 _ _ _ HH2.out)⟩
  · have hil2 : ¬ (i : Int) < (len : Int) := by omega
    go_quiet (fail)
    go_wp2
    generalize bits .and .i64 (bits .xor .i64 (h2 / 8589934592) (h2 / 35184372088832)) 255 = x0 at hbx ⊢
    obtain ⟨hb0, hb1⟩ := hbx
    go_quiet (fail)
    go_wp2
    go_ret
    exact ⟨_, rfl, hb0, hb1, Cur.end ⟨hlen, HC.out⟩ (grown_trans hg1 (grown_trans (grown_drewN W1 _ _) (grown_drewN _ _ _))) i h2 hi HH2.out⟩
end Go.Proofs.Ytdaigojpeofmpaa
namespace Go.Proofs.Ytdaigojpeofmpaa
open Go.RowKit

set_option maxRecDepth 100000 in
set_option maxHeartbeats 1000000 in
theorem below_any (p : Nat) (a : Option Addr) (len cap : Nat) (n : Int) (w : World) (hc : Cur w p a len cap) (hn : 0 < n) (hn2 : n ≤ 1000000000000) :
    Calls Try.prog 82 #[.pointer (some ⟨p, 0, none⟩), .int .i64 n] w fun e w' => ∃ x : Int, e = .returned (.int .i64 x) ∧ 0 ≤ x ∧ x < n ∧ Cur w' p a len cap ∧ w.grownBy w' (some p) := by
  by_cases h256 : n ≤ 256
  · go_enter Try.func82, Try.ntmps82
    go_wp2_with fail
    refine (byte_any p a len cap _ hc).mono ?_
    rintro e w1 ⟨x, rfl, h0, h1, hc1, hg1⟩
    have hr0 := Int.emod_nonneg x (show n ≠ 0 by omega)
    have hr1 := Int.emod_lt_of_pos x hn
    have htm : x.tmod n = x % n := Int.tmod_eq_emod_of_nonneg h0
    have HG := hide hg1
    have HC := hide hc1
    clear hc1 hg1 hc
    go_wp2
    go_ret
    exact ⟨_, rfl, hr0, hr1, HC.out, HG.out⟩
  · go_enter Try.func82, Try.ntmps82
    go_wp2_with fail
    refine (byte_any p a len cap _ hc).mono ?_
    rintro e w1 ⟨x, rfl, hx0, hx1, hc1, hg1⟩
    have HG1 := hide hg1
    clear hc hg1
    go_wp2_with fail
    refine (byte_any p a len cap _ hc1).mono ?_
    rintro e w2 ⟨y, rfl, hy0, hy1, hc2, hg2⟩
    have HG2 := hide hg2
    clear hc1 hg2
    go_wp2_with fail
    refine (byte_any p a len cap _ hc2).mono ?_
    rintro e w3 ⟨z, rfl, hz0, hz1, hc3, hg3⟩
    have HG3 := hide hg3
    clear hc2 hg3
    go_wp2_with fail
    refine (byte_any p a len cap _ hc3).mono ?_
    rintro e w4 ⟨u, rfl, hu0, hu1, hc4, hg4⟩
    have HG4 := hide hg4
    have HC4 := hide hc4
    clear hc3 hg4 hc4
    have hr0 := Int.emod_nonneg (x * 16777216 + y * 65536 + z * 256 + u) (show n ≠ 0 by omega)
    have hr1 := Int.emod_lt_of_pos (x * 16777216 + y * 65536 + z * 256 + u) hn
    have htm : (x * 16777216 + y * 65536 + z * 256 + u).tmod n = (x * 16777216 + y * 65536 + z * 256 + u) % n := Int.tmod_eq_emod_of_nonneg (by omega)
    go_wp2
    go_ret
    exact ⟨_, rfl, hr0, hr1, HC4.out, grown_trans HG1.out (grown_trans HG2.out (grown_trans HG3.out HG4.out))⟩

theorem lt_of_cur {w : World} {p : Nat} {a : Option Addr} {len cap : Nat} (h : Cur w p a len cap) : p < w.heap.size := by
  obtain ⟨⟨i, hh, hi, e⟩, _⟩ := h
  rcases Nat.lt_or_ge p w.heap.size with hl | hl
  · exact hl
  · rw [Array.getElem?_eq_none hl] at e; cases e

end Go.Proofs.Ytdaigojpeofmpaa
namespace Go.Proofs.Ytdaigojpeofmpaa
open Go.RowKit


set_option maxRecDepth 100000 in
set_option maxHeartbeats 1000000 in
theorem new_any (a : Option Addr) (len cap : Nat) (w : World) (hc : Code w a len w.heap.size) :
    Calls Try.prog 47 #[.slice a len cap] w fun e w' => e = .returned (.pointer (some ⟨w.heap.size, 0, none⟩)) ∧ Cur w' w.heap.size a len cap ∧ Below w.heap.size w w' := by
  have hlen := hc.1
  have HC := hide hc
  clear hc
  have fin : ∀ h : Int, Cur (w.alloc (.cells #[.slice a len cap, .int .i64 0, .int .i64 h] 122)) w.heap.size a len cap := fun h =>
    ⟨⟨0, h, by omega, heap_alloc_new w _⟩, HC.out.grown (row := none) ⟨rfl, rfl, rfl, by simp, fun k hk _ => Below.heap_alloc _ _ _ hk⟩ (fun b _ => by simp)⟩
  have FIN := hide fin
  clear fin
  by_cases h0 : len = 0
  · subst h0
    go_enter Try.func47, Try.ntmps47
    go_wp2
    refine wp_loop_rounds 1 ?_
    rw [rounds_succ]
    go_wp2
    go_ret
    exact ⟨rfl, FIN.out _, (Below.refl _ _).alloc (Nat.le_refl _) _⟩
  · obtain ⟨b, off, ha, hb, hx⟩ : ∃ b off, a = some ⟨b, off, none⟩ ∧ b < w.heap.size ∧ ∀ i, i < len → ∃ x : Nat, x < 256 ∧ w.cell? ⟨b, off + i, none⟩ = some (.int .u8 (x : Int)) := by
      rcases HC.out.2 with h | h
      · exact absurd h h0
      · exact h
    subst ha
    have HX := hide hx
    clear hx
    go_enter Try.func47, Try.ntmps47
    go_wp2
    go_loop [3, 4] (fun h i => ∃ (k : Nat) (z : Int), k ≤ len ∧ i = .int .i64 k ∧ h = .int .i64 z) (fun _ i => len - (intOf i).toNat)
    case atStart => exact ⟨0, _, by omega, rfl, rfl⟩
    case round =>
      obtain ⟨k, z, hk, rfl, rfl⟩ := hrel
      by_cases hlt : k < len
      · obtain ⟨x, hx1, hx2⟩ := HX.out k hlt
        have hki : (k : Int) < (len : Int) := by omega
        by_cases h4 : (k : Int) < 4000
        · go_wp2
          go_round
          case rel => exact ⟨k + 1, _, by omega, by go_num, rfl⟩
          case measure => simp [intOf]; omega
        · go_wp2
          go_ret
          exact ⟨rfl, FIN.out _, (Below.refl _ _).alloc (Nat.le_refl _) _⟩
      · go_wp2
        go_ret
        exact ⟨rfl, FIN.out _, (Below.refl _ _).alloc (Nat.le_refl _) _⟩


theorem cur_alloc {w : World} {p : Nat} {a : Option Addr} {len cap : Nat} (h : Cur w p a len cap) (o : Obj) : Cur (w.alloc o) p a len cap :=
  h.grown (row := none) ⟨rfl, rfl, rfl, by simp, fun k hk _ => Below.heap_alloc _ _ _ hk⟩ (fun b _ => by simp)

theorem below_of_grown {p : Nat} {w w' : World} (h : w.grownBy w' (some p)) (hp : p ≤ w.heap.size) : Below p w w' := (Below.refl p w).grown h hp (fun k hk => by simp at hk; omega)

set_option maxHeartbeats 400000 in
theorem big_any (a : Option Addr) (len cap : Nat) (w : World) : Calls Try.prog 18 #[.slice a len cap] w fun e w' => e = .returned (.bool (decide ((1048576 : Int) < (len : Int)))) ∧ w = w' := by
  go_enter Try.func18, Try.ntmps18
  go_wp2
  go_ret
  exact ⟨rfl, rfl⟩

theorem code_later {w w' : World} {a : Option Addr} {len : Nat} (h : Code w a len w.heap.size) (hb : Below w.heap.size w w') : Code w' a len w'.heap.size := by
  refine ⟨h.1, ?_⟩
  rcases h.2 with h0 | ⟨b, off, ha, hb1, hx⟩
  · exact .inl h0
  · refine .inr ⟨b, off, ha, by have := hb.size; omega, fun i hi => ?_⟩
    obtain ⟨x, h1, h2⟩ := hx i hi
    exact ⟨x, h1, by rw [hb.cell (p := ⟨b, off + i, none⟩) hb1]; exact h2⟩



set_option maxRecDepth 100000 in
set_option maxHeartbeats 1000000 in
theorem once_any (p : Nat) (a : Option Addr) (len cap : Nat) (n : Int) (w : World) (hc : Cur w p a len cap) (hn : 0 < n) (hn2 : n ≤ 1000000000000) :
    Calls Try.prog 106 #[.pointer (some ⟨p, 0, none⟩), .int .i64 n] w fun e w' => ∃ x : Bool, e = .returned (.bool x) ∧ Cur w' p a len cap ∧ w.grownBy w' (some p) := by
  go_enter Try.func106, Try.ntmps106
  go_wp2_with fail
  refine (below_any p a len cap n _ hc hn hn2).mono ?_
  rintro e w1 ⟨x, rfl, h0, h1, hc1, hg1⟩
  have HG := hide hg1
  have HC := hide hc1
  clear hc1 hg1 hc
  go_wp2
  go_ret
  exact ⟨_, rfl, HC.out, HG.out⟩

set_option maxRecDepth 100000 in
set_option maxHeartbeats 1000000 in
theorem pickR_any (R : Int → Prop) (p : Nat) (a : Option Addr) (len cap : Nat) (g n : Nat) (w : World) (hc : Cur w p a len cap) (hn : 0 < n) (hn2 : n ≤ 1000) (hg : g ≠ p) (hz : ∀ k, k < n → ∃ z : Int, R z ∧ w.cell? ⟨g, k, none⟩ = some (.int .i64 z)) :
    Calls Try.prog 107 #[.pointer (some ⟨p, 0, none⟩), .slice (some ⟨g, 0, none⟩) n n] w fun e w' => ∃ x : Int, e = .returned (.int .i64 x) ∧ R x ∧ Cur w' p a len cap ∧ w.grownBy w' (some p) := by
  have HZ := hide hz
  have HC := hide hc
  clear hz hc
  go_enter Try.func107, Try.ntmps107
  go_wp2_with fail
  refine (below_any p a len cap _ _ HC.out (by omega) (by omega)).mono ?_
  rintro e w1 ⟨x, rfl, h0, h1, hc1, hg1⟩
  obtain ⟨z, hR, hz⟩ := HZ.out x.toNat (by omega)
  have hz1 := hg1.cell hz (by simp; exact hg)
  have hxn : x < (n : Int) := h1
  have HR := hide hR
  have HG := hide hg1
  have HC1 := hide hc1
  clear hg1 hc1 hz hR
  go_wp2
  go_ret
  exact ⟨_, rfl, HR.out, HC1.out, HG.out⟩

end Go.Proofs.Ytdaigojpeofmpaa
namespace Go.Proofs.Ytdaigojpeofmpaa
open Go.RowKit

def zeroC : Array Value := #[.int .i64 0, .int .i64 0, .int .i64 0, .int .i64 0, .int .i64 0, .slice none 0 0, .int .i64 0, .bool false]

/-- its box in block z, the result's cell in block B0, the cursor in block p, its row in blocks behind z -/
structure RcSt (w wr : World) (p B0 z : Nat) (a : Option Addr) (len cap : Nat) (v : Value) (x : RecD) : Prop where
  cur : Cur wr p a len cap
  low : w.heap.size ≤ B0
  gro : w.grownBy wr (some p)
  box : wr.heap[z]? = some (.cells (recC x v) 56)
  res : wr.heap[B0]? = some (.cells zeroC 56)
  own : wr.ownsRow (B0 + 1) 120 2 v x.near.length (flat nrE x.near)
  djn : some z ≠ v.ownBlock

theorem grown_of_below {w w' : World} (hb : Below w.heap.size w w') : w.grownBy w' none := ⟨hb.os, hb.tape, hb.output, hb.size, fun k hk _ => hb.block k hk⟩

/-- what a step leaves of the blocks that were there ahead, the cursor's aside -/
theorem gro_step {w a b : World} {p : Nat} {row : Option Nat} (h : w.grownBy a (some p)) (g : a.grownBy b row) (hr : ∀ k, row = some k → k = p ∨ w.heap.size ≤ k) : w.grownBy b (some p) :=
  ⟨g.os.trans h.os, g.tape.trans h.tape, g.output.trans h.output, Nat.le_trans h.size g.size, fun k hk hne => by
    rw [g.block k (Nat.lt_of_lt_of_le hk h.size) (fun e => by
      rcases hr k e.symm with h1 | h1
      · exact hne (by rw [h1])
      · omega), h.block k hk hne]⟩

theorem gro_refl (w : World) (row : Option Nat) : w.grownBy w row := ⟨rfl, rfl, rfl, Nat.le_refl _, fun _ _ _ => rfl⟩

theorem gro_alloc {w a : World} {p : Nat} (h : w.grownBy a (some p)) (o : Obj) : w.grownBy (a.alloc o) (some p) :=
  gro_step h (row := none) ⟨rfl, rfl, rfl, by simp, fun k hk _ => Below.heap_alloc _ _ _ hk⟩ (fun k e => by cases e)

theorem gro_same {w a b : World} {p : Nat} (h : w.grownBy a (some p)) (g : a.grownBy b (some p)) : w.grownBy b (some p) := gro_step h g (fun k e => .inl (by simpa using e.symm))

theorem gro_set {w a : World} {p : Nat} (h : w.grownBy a (some p)) (z i : Nat) (u : Value) (hz : w.heap.size ≤ z) : w.grownBy (a.setCell ⟨z, i, none⟩ u) (some p) :=
  gro_step h (grown_set a z i u) (fun k e => .inr (by simp at e; omega))

section
variable {w wr w' : World} {p B0 z : Nat} {a : Option Addr} {len cap : Nat} {v : Value} {x : RecD}

theorem RcSt.grown (h : RcSt w wr p B0 z a len cap v x) (hc : Cur w' p a len cap) (hg : wr.grownBy w' (some p)) (hp : p < B0) (hz : B0 < z) : RcSt w w' p B0 z a len cap v x where
  cur := hc
  low := h.low
  gro := gro_same h.gro hg
  box := by rw [hg.block z (lt_of_heap h.box) (by simp; omega)]; exact h.box
  res := by rw [hg.block B0 (lt_of_heap h.res) (by simp; omega)]; exact h.res
  own := kept_other h.own hg (by omega)
  djn := h.djn

theorem RcSt.below (h : RcSt w wr p B0 z a len cap v x) (hb : Below wr.heap.size wr w') : RcSt w w' p B0 z a len cap v x where
  cur := h.cur.grown (grown_of_below hb) (fun b _ => by simp)
  low := h.low
  gro := gro_step h.gro (grown_of_below hb) (fun k e => by cases e)
  box := by rw [hb.block z (lt_of_heap h.box)]; exact h.box
  res := by rw [hb.block B0 (lt_of_heap h.res)]; exact h.res
  own := owns_below h.own hb (Nat.le_refl _)
  djn := h.djn

theorem RcSt.alloc (h : RcSt w wr p B0 z a len cap v x) (o : Obj) : RcSt w (wr.alloc o) p B0 z a len cap v x := h.below ((Below.refl _ _).alloc (Nat.le_refl _) _)

theorem RcSt.drew (h : RcSt w wr p B0 z a len cap v x) : RcSt w wr.drew p B0 z a len cap v x := h.below (Below.refl _ _).drew

/-- a field that is no list -/
theorem RcSt.set (h : RcSt w wr p B0 z a len cap v x) (i : Nat) (u : Value) (y : RecD) (hy : y.near = x.near) (hC : (recC x v).setIfInBounds i u = recC y v) (hp : p < B0) (hz : B0 < z) : RcSt w (wr.setCell ⟨z, i, none⟩ u) p B0 z a len cap v y where
  cur := h.cur.grown (grown_set wr z i u) (fun b hb => by simp; omega)
  low := h.low
  gro := gro_set h.gro z i u (by have := h.low; omega)
  box := by rw [heap_setCell_same _ _ i _ _ u h.box, hC]
  res := by rw [heap_setCell_other wr ⟨z, i, none⟩ _ _ (by show B0 ≠ z; omega)]; exact h.res
  own := by
    rw [hy]
    refine h.own.kept (grown_set wr z i u) ?_
    cases hv : v.ownBlock with
    | none => exact .inl rfl
    | some g => exact .inr (fun e => h.djn (by rw [hv]; exact e.symm))
  djn := h.djn

/-- another row of nears, made by an append -/
theorem RcSt.put (h : RcSt w wr p B0 z a len cap v x) {o : Obj} {v' : Value} {l : List Nr} (hg : (wr.alloc o).grownBy w' v.ownBlock) (ho : w'.ownsRow (B0 + 1) 120 2 v' l.length (flat nrE l)) (hd : some z ≠ v'.ownBlock) (hp : p < B0) (hz : B0 < z) :
    RcSt w (w'.setCell ⟨z, 5, none⟩ v') p B0 z a len cap v' { x with near := l } :=
  have hlt := h.own.lt
  have hcu : Cur w' p a len cap := (cur_alloc h.cur o).grown hg (fun b hb e => by have := (hlt b e.symm).1; omega)
  have hbx : w'.heap[z]? = some (.cells (recC x v) 56) := by
    rw [hg.block z (by have := lt_of_heap h.box; simp; omega) h.djn, Below.heap_alloc _ _ _ (lt_of_heap h.box)]; exact h.box
  have hrs : w'.heap[B0]? = some (.cells zeroC 56) := by
    rw [hg.block B0 (by have := lt_of_heap h.res; simp; omega) (fun e => by have := (hlt B0 e.symm).1; omega), Below.heap_alloc _ _ _ (lt_of_heap h.res)]; exact h.res
  { cur := hcu.grown (grown_set w' z 5 v') (fun b hb => by simp; omega)
    low := h.low
    gro := gro_set (gro_step (gro_alloc h.gro o) hg (fun k hk => .inr (by have := (hlt k hk).1; have := h.low; omega))) z 5 v' (by have := h.low; omega)
    box := heap_setCell_same _ _ 5 _ _ v' hbx
    res := by rw [heap_setCell_other w' ⟨z, 5, none⟩ _ _ (by show B0 ≠ z; omega)]; exact hrs
    own := by
      refine ho.kept (grown_set w' z 5 v') ?_
      cases hv : v'.ownBlock with
      | none => exact .inl rfl
      | some g => exact .inr (fun e => hd (by rw [hv]; exact e.symm))
    djn := hd }
end

/-- the append's row doesn't lie where the box does -/
theorem row_ne_box {W : World} {base z n : Nat} {v : Value} {xs : List Value} {C : Array Value} {fr : Nat × Nat} (ho : W.ownsRow base 120 2 v n xs) (h : W.heap[z]? = some (.cells C 56 fr)) : some z ≠ v.ownBlock := by
  intro eq
  rcases ho.2 with ⟨h1, _⟩ | ⟨g', cap', cur', hv', _, hh', _⟩
  · rw [h1] at eq; simp [Value.ownBlock] at eq
  · rw [hv'] at eq
    simp [Value.ownBlock] at eq
    subst eq
    rw [h] at hh'
    simp at hh'
end Go.Proofs.Ytdaigojpeofmpaa
namespace Go.Proofs.Ytdaigojpeofmpaa
open Go.RowKit

def mayTake (ops : Array Oper) (listed : Array Bool) (i : Nat) : Bool := Region.noSelect ops && Region.free .any ops listed i && (Region.ready .any ops listed).contains i

theorem mayTake_parts {ops : Array Oper} {listed : Array Bool} {i : Nat} (h : mayTake ops listed i = true) : Region.noSelect ops = true ∧ Region.free .any ops listed i = true ∧ (Region.ready .any ops listed).contains i = true := by
  unfold mayTake at h
  simp only [Bool.and_eq_true] at h
  exact ⟨h.1.1, h.1.2, h.2⟩

section
variable {P : Program} {ops : Array Oper} {Q : Exit → Act → World → Prop} {S : World → Prop} {fuel : Nat} {listed : Array Bool} {a : Act} {w : World}

/-- the beginning: the region's operations behind a letter -/
theorem wp_region_start {id : Nat} (hm : P.follows .mixedOrders = true) (n : Nat) (hn : ops.size = n) (hS : S w.drew) (h : ∀ ops', Hid (ops' = ops) → S w.drew → wpAnyH P .any ops' Q S n (Array.replicate n false) a w.drew) : (Code.region id ops true).wp P Q a w := by
  refine wp_region_held_drew hm hS (fun hs => ?_)
  rw [hn]
  exact h ops rfl hs

/-- an operation that isn't wanted -/
theorem take_skip (i : Nat) (d : Tmp) (hi : (ops[i]?).map Oper.dst = some (some d)) (ht : mayTake ops listed i = true) (hw : (ops[i]?).map (fun o => Region.wanted o (yielded ops a.tmps)) = some false)
    (hQ : ∀ c a w, Q (.panic c) (a.put (some d) undef) w → Q (.panic c) a w) (hS : S w) (h : wpAnyH P .any ops Q S fuel (listed.setIfInBounds i true) (a.put (some d) undef) w) : wpAnyH P .any ops Q S (fuel + 1) listed a w := by
  obtain ⟨h1, h2, h3⟩ := mayTake_parts ht
  cases ho : ops[i]? with
  | none => rw [ho] at hi; cases hi
  | some oi =>
    rw [ho] at hi hw
    simp only [Option.map_some, Option.some.injEq] at hi hw
    refine wpAnyH_take ho h1 h2 h3 (v := undef) ?_ (Or.inr ⟨hw, rfl⟩) hS ?_
    · rw [hi]; exact hQ
    · rw [hi]; exact h

/-- an operation that yields v in every world that meets S -/
theorem take_do (i : Nat) {oi : Oper} {v : Value} (hi : ops[i]? = some oi) (ht : mayTake ops listed i = true) (hw : Region.wanted oi (yielded ops a.tmps) = true) (hy : ∀ w, S w → (execOp a.eval oi).run P w = .ok (.value v) w)
    (hQ : ∀ c a w, Q (.panic c) (a.put oi.dst v) w → Q (.panic c) a w) (hS : S w) (h : wpAnyH P .any ops Q S fuel (listed.setIfInBounds i true) (a.put oi.dst v) w) : wpAnyH P .any ops Q S (fuel + 1) listed a w := by
  obtain ⟨h1, h2, h3⟩ := mayTake_parts ht
  exact wpAnyH_take hi h1 h2 h3 hQ (Or.inl ⟨hw, hy⟩) hS h

/-- a call that alone may come up -/
theorem take_call (i : Nat) {oi : Oper} (hi : ops[i]? = some oi) (hr : Region.ready .any ops listed = [i]) (hw : Region.wanted oi (yielded ops a.tmps) = true)
    (h : ∀ K' : Act → World → Prop, Shut (∀ a w, S w → (S w → wpAnyH P .any ops Q S fuel (listed.setIfInBounds i true) a w) → K' a w) → Oper.wp P oi a w K' Q) : wpAnyH P .any ops Q S (fuel + 1) listed a w := by
  refine wpAnyH_ready (rs := [i]) hr (by simp) ?_
  refine AllReadyH.cons hi (fun K hK => ?_) AllReadyH.nil
  rw [if_pos hw]
  exact h K hK
end
end Go.Proofs.Ytdaigojpeofmpaa
