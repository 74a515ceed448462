/-
  Records as values; laws.toRecord, eqRecord, szRecord.
  laws.markNearS, heldNearS, markRecord, heldRecord: only the row's own memory turns; what was marked is held.
  'append(out, x)' of a struct of four cells, out a row that the call itself made.
  Lists of records, each with a row of its own.
  laws.szRecordS, toRecordS, eqRecordS: their contracts.
  laws.markRecordS, heldRecordS: only the list's own memory turns; what was marked is held.
  Rows of ints that a call made.
  laws.eqIntS, markIntS, heldIntS, toIntS, szIntS: their contracts (IntRow2 without nets).
  Ways as values; laws.szWay, toWay, eqWay.
-/
import Derived.Test.YtimbeeinognjbaaGreatDoorNk1
import Derived.Deep.QuietTactic
import Derived.BigQuiet
import Derived.WalkSmall
import Derived.Handy
namespace Go.Proofs.YtimbeeinognjbaaGreatDoor
open Go.RowKit

structure RecD where
  area : Int
  kind : Int
  owner : Int
  key : Int
  seq : Int
  near : List Nr
  cost : Int
  far : Bool
  deriving DecidableEq

def recC (x : RecD) (v : Value) : Array Value := #[.int .i64 x.area, .int .i64 x.kind, .int .i64 x.owner, .int .i64 x.key, .int .i64 x.seq, v, .int .i64 x.cost, .bool x.far]

/-- the value v is the record x, whose row lies below B -/
def RecAt (W : World) (v : Value) (x : RecD) (B : Nat) : Prop := ∃ v1, v = .agg (recC x v1) ∧ NearsAt W v1 x.near B

theorem RecAt.then {W W' : World} {v : Value} {x : RecD} (h : RecAt W v x W.heap.size) (hb : Below W.heap.size W W') : RecAt W' v x W'.heap.size := by
  obtain ⟨v1, hv, h1⟩ := h
  exact ⟨v1, hv, h1.then hb⟩

def szR (q : Int) (n : Nat) : Int := if q - (n : Int) < 0 then -1 else q - (n : Int)

set_option maxRecDepth 100000 in
set_option maxHeartbeats 1000000 in
theorem szRecord_any (x : RecD) (a : Option Addr) (n c : Nat) (q : Int) (w : World) (hn : (n : Int) ≤ 9223372036854775807) (hq0 : 0 ≤ q) (hq : q ≤ 1048576) :
    Calls Tryz.prog 76 #[.agg (recC x (.slice a n c)), .int .i64 q] w fun e w' => e = .returned (.int .i64 (szR q n)) ∧ Below w.heap.size w w' := by
  unfold szR recC
  have HS := hide (szNearS_any a n c q)
  by_cases h : q - (n : Int) < 0
  · rw [if_pos h] at HS ⊢
    go_enter Tryz.func76, Tryz.ntmps76
    go_wp2_with fail
    refine (HS.out _ hn hq0 hq).mono ?_
    rintro e w1 ⟨rfl, rfl⟩
    go_wp2
    go_ret
    exact ⟨rfl, (Below.refl _ _).alloc (Nat.le_refl _) _⟩
  · rw [if_neg h] at HS ⊢
    go_enter Tryz.func76, Tryz.ntmps76
    go_wp2_with fail
    refine (HS.out _ hn hq0 hq).mono ?_
    rintro e w1 ⟨rfl, rfl⟩
    go_wp2
    go_ret
    exact ⟨rfl, (Below.refl _ _).alloc (Nat.le_refl _) _⟩

set_option maxRecDepth 100000 in
set_option maxHeartbeats 4000000 in
theorem toRecord_any (v : Value) (x : RecD) (w : World) (hl : x.near.length ≤ 1048576) (hv : RecAt w v x w.heap.size) :
    Calls Tryz.prog 84 #[v] w fun e w' => ∃ v1, e = .returned (.agg (recC x v1)) ∧ w'.ownsRow w.heap.size 225 2 v1 x.near.length (flat nrE x.near) ∧ Below w.heap.size w w' := by
  obtain ⟨u1, rfl, h1⟩ := hv
  obtain ⟨a1, c1, rfl⟩ := h1.shape
  have H1 := hide h1
  clear h1
  unfold recC
  go_enter Tryz.func84, Tryz.ntmps84
  go_wp2_with fail
  have hw0 := heap3_0 w (.cells #[.int .i64 x.area, .int .i64 x.kind, .int .i64 x.owner, .int .i64 x.key, .int .i64 x.seq, .slice a1 x.near.length c1, .int .i64 x.cost, .bool x.far] 119) (.cells #[.int .i64 0, .int .i64 0, .int .i64 0, .int .i64 0, .int .i64 0, .slice none 0 0, .int .i64 0, .bool false] 128) (.cells #[.int .i64 x.area, .int .i64 x.kind, .int .i64 x.owner, .int .i64 x.key, .int .i64 x.seq, .slice none 0 0, .int .i64 0, .bool false] 128)
  have hw1 := heap3_1 w (.cells #[.int .i64 x.area, .int .i64 x.kind, .int .i64 x.owner, .int .i64 x.key, .int .i64 x.seq, .slice a1 x.near.length c1, .int .i64 x.cost, .bool x.far] 119) (.cells #[.int .i64 0, .int .i64 0, .int .i64 0, .int .i64 0, .int .i64 0, .slice none 0 0, .int .i64 0, .bool false] 128) (.cells #[.int .i64 x.area, .int .i64 x.kind, .int .i64 x.owner, .int .i64 x.key, .int .i64 x.seq, .slice none 0 0, .int .i64 0, .bool false] 128)
  have hw2 := heap3_2 w (.cells #[.int .i64 x.area, .int .i64 x.kind, .int .i64 x.owner, .int .i64 x.key, .int .i64 x.seq, .slice a1 x.near.length c1, .int .i64 x.cost, .bool x.far] 119) (.cells #[.int .i64 0, .int .i64 0, .int .i64 0, .int .i64 0, .int .i64 0, .slice none 0 0, .int .i64 0, .bool false] 128) (.cells #[.int .i64 x.area, .int .i64 x.kind, .int .i64 x.owner, .int .i64 x.key, .int .i64 x.seq, .slice none 0 0, .int .i64 0, .bool false] 128)
  have bw := below_three (w := w) (.cells #[.int .i64 x.area, .int .i64 x.kind, .int .i64 x.owner, .int .i64 x.key, .int .i64 x.seq, .slice a1 x.near.length c1, .int .i64 x.cost, .bool x.far] 119) (.cells #[.int .i64 0, .int .i64 0, .int .i64 0, .int .i64 0, .int .i64 0, .slice none 0 0, .int .i64 0, .bool false] 128) (.cells #[.int .i64 x.area, .int .i64 x.kind, .int .i64 x.owner, .int .i64 x.key, .int .i64 x.seq, .slice none 0 0, .int .i64 0, .bool false] 128)
  generalize (((w.alloc (.cells #[.int .i64 x.area, .int .i64 x.kind, .int .i64 x.owner, .int .i64 x.key, .int .i64 x.seq, .slice a1 x.near.length c1, .int .i64 x.cost, .bool x.far] 119)).alloc (.cells #[.int .i64 0, .int .i64 0, .int .i64 0, .int .i64 0, .int .i64 0, .slice none 0 0, .int .i64 0, .bool false] 128)).alloc (.cells #[.int .i64 x.area, .int .i64 x.kind, .int .i64 x.owner, .int .i64 x.key, .int .i64 x.seq, .slice none 0 0, .int .i64 0, .bool false] 128)) = w1 at *
  refine (toNearS_any _ x.near w1 hl (H1.out.then bw)).mono ?_
  rintro e w2 ⟨v1, rfl, ho1, b2⟩
  obtain ⟨p1, q1, rfl⟩ := owns_lenS ho1
  have l2 := lt_of_heap hw2
  rw [← b2.block _ (lt_of_heap hw0)] at hw0
  rw [← b2.block _ (lt_of_heap hw1)] at hw1
  rw [← b2.block _ l2] at hw2
  have hb12 : w.heap.size ≤ w1.heap.size := bw.size
  have bw2 : Below w.heap.size w w2 := bw.trans (b2.mono hb12)
  have s6 := cells_at hw0 6
  have s7 := cells_at hw0 7
  have t0 := cells_at hw2 0
  have t1 := cells_at hw2 1
  have t2 := cells_at hw2 2
  have t3 := cells_at hw2 3
  have t4 := cells_at hw2 4
  have t5 := cells_at hw2 5
  have t6 := cells_at hw2 6
  have t7 := cells_at hw2 7
  have r0 := cells_at hw1 0
  have r1 := cells_at hw1 1
  have r2 := cells_at hw1 2
  have r3 := cells_at hw1 3
  have r4 := cells_at hw1 4
  have r5 := cells_at hw1 5
  have r6 := cells_at hw1 6
  have r7 := cells_at hw1 7
  simp at s6 s7 t0 t1 t2 t3 t4 t5 t6 t7 r0 r1 r2 r3 r4 r5 r6 r7
  have f2 := frozen_at hw2
  have f1 := frozen_at hw1
  have O1 := hide ho1
  have HW1 := hide hw1
  clear ho1 hw0 hw1 hw2 H1
  go_wp2
  have k0 : (((w2.setCell ⟨w.heap.size + 1 + 1, 5, none⟩ (.slice p1 x.near.length q1)).setCell ⟨w.heap.size + 1 + 1, 6, none⟩ (.int .i64 x.cost)).setCell ⟨w.heap.size + 1 + 1, 7, none⟩ (.bool x.far)).heap[w.heap.size + 1]? = some (.cells #[.int .i64 0, .int .i64 0, .int .i64 0, .int .i64 0, .int .i64 0, .slice none 0 0, .int .i64 0, .bool false] 128) := by
    rw [heap_setCell_other _ ⟨w.heap.size + 1 + 1, 7, none⟩ _ _ (by show w.heap.size + 1 ≠ w.heap.size + 1 + 1; omega), heap_setCell_other _ ⟨w.heap.size + 1 + 1, 6, none⟩ _ _ (by show w.heap.size + 1 ≠ w.heap.size + 1 + 1; omega), heap_setCell_other _ ⟨w.heap.size + 1 + 1, 5, none⟩ _ _ (by show w.heap.size + 1 ≠ w.heap.size + 1 + 1; omega)]
    exact HW1.out
  have k1 := heap_setCell_same _ _ 0 _ _ (.int .i64 x.area) k0
  have k2 := heap_setCell_same _ _ 1 _ _ (.int .i64 x.kind) k1
  have k3 := heap_setCell_same _ _ 2 _ _ (.int .i64 x.owner) k2
  have k4 := heap_setCell_same _ _ 3 _ _ (.int .i64 x.key) k3
  have k5 := heap_setCell_same _ _ 4 _ _ (.int .i64 x.seq) k4
  have k6 := heap_setCell_same _ _ 5 _ _ (.slice p1 x.near.length q1) k5
  have k7 := heap_setCell_same _ _ 6 _ _ (.int .i64 x.cost) k6
  have k8 := heap_setCell_same _ _ 7 _ _ (.bool x.far) k7
  have hfin := k8
  clear k0 k1 k2 k3 k4 k5 k6 k7 k8
  (try simp only [Exit.inBlock, Exit.then])
  refine bodyPost_ret (results_cell_row rfl _ _ (w.heap.size + 1) 128 #[.int .i64 x.area, .int .i64 x.kind, .int .i64 x.owner, .int .i64 x.key, .int .i64 x.seq, .slice p1 x.near.length q1, .int .i64 x.cost, .bool x.far] (0, 0) _ rfl hfin Tryz.underlying128 rfl (by kernel_rfl)) rfl ?_
  refine ⟨_, rfl, ?_, ?_⟩
  · refine owns_baseS (b1 := w1.heap.size) ?_ (by omega)
    repeat (refine owns_set ?_ (by omega))
    exact O1.out
  · repeat (refine Below.setCell ?_ (by first | (show w.heap.size ≤ w.heap.size + 1 + 1; omega) | (show w.heap.size ≤ w.heap.size + 1; omega)) _)
    exact bw2

set_option maxRecDepth 100000 in
set_option maxHeartbeats 4000000 in
theorem eqRecord_any (v1 v2 : Value) (x y : RecD) (w : World) (h1 : RecAt w v1 x w.heap.size) (h2 : RecAt w v2 y w.heap.size) (hl : x.near.length ≤ 1048576) :
    Calls Tryz.prog 96 #[v1, v2] w fun e w' => e = .returned (.bool (decide (x = y))) ∧ Below w.heap.size w w' := by
  obtain ⟨a0, a1, a2, a3, a4, ns, a6, a7⟩ := x
  obtain ⟨b0, b1, b2, b3, b4, ms, b6, b7⟩ := y
  obtain ⟨u1, rfl, k1⟩ := h1
  obtain ⟨u2, rfl, k2⟩ := h2
  simp only [] at k1 k2 hl
  have K1 := hide k1
  have K2 := hide k2
  clear k1 k2
  unfold recC
  simp only []
  by_cases h0 : a0 = b0
  case neg =>
    have hd : (a0 != b0) = true := by simpa using h0
    have hne : decide ((⟨a0, a1, a2, a3, a4, ns, a6, a7⟩ : RecD) = ⟨b0, b1, b2, b3, b4, ms, b6, b7⟩) = false := decide_eq_false (fun h => by cases h; exact h0 rfl)
    rw [hne]
    clear hne
    go_enter Tryz.func96, Tryz.ntmps96
    go_wp2
    go_ret
    exact ⟨rfl, below_two _ _⟩
  subst h0
  by_cases h1 : a1 = b1
  case neg =>
    have hd : (a1 != b1) = true := by simpa using h1
    have hne : decide ((⟨a0, a1, a2, a3, a4, ns, a6, a7⟩ : RecD) = ⟨a0, b1, b2, b3, b4, ms, b6, b7⟩) = false := decide_eq_false (fun h => by cases h; exact h1 rfl)
    rw [hne]
    clear hne
    go_enter Tryz.func96, Tryz.ntmps96
    go_wp2
    go_ret
    exact ⟨rfl, below_two _ _⟩
  subst h1
  by_cases h2 : a2 = b2
  case neg =>
    have hd : (a2 != b2) = true := by simpa using h2
    have hne : decide ((⟨a0, a1, a2, a3, a4, ns, a6, a7⟩ : RecD) = ⟨a0, a1, b2, b3, b4, ms, b6, b7⟩) = false := decide_eq_false (fun h => by cases h; exact h2 rfl)
    rw [hne]
    clear hne
    go_enter Tryz.func96, Tryz.ntmps96
    go_wp2
    go_ret
    exact ⟨rfl, below_two _ _⟩
  subst h2
  by_cases h3 : a3 = b3
  case neg =>
    have hd : (a3 != b3) = true := by simpa using h3
    have hne : decide ((⟨a0, a1, a2, a3, a4, ns, a6, a7⟩ : RecD) = ⟨a0, a1, a2, b3, b4, ms, b6, b7⟩) = false := decide_eq_false (fun h => by cases h; exact h3 rfl)
    rw [hne]
    clear hne
    go_enter Tryz.func96, Tryz.ntmps96
    go_wp2
    go_ret
    exact ⟨rfl, below_two _ _⟩
  subst h3
  by_cases h4 : a4 = b4
  case neg =>
    have hd : (a4 != b4) = true := by simpa using h4
    have hne : decide ((⟨a0, a1, a2, a3, a4, ns, a6, a7⟩ : RecD) = ⟨a0, a1, a2, a3, b4, ms, b6, b7⟩) = false := decide_eq_false (fun h => by cases h; exact h4 rfl)
    rw [hne]
    clear hne
    go_enter Tryz.func96, Tryz.ntmps96
    go_wp2
    go_ret
    exact ⟨rfl, below_two _ _⟩
  subst h4
  go_enter Tryz.func96, Tryz.ntmps96
  go_wp2_with fail
  refine (eqNearS_any u1 u2 ns ms _ (K1.out.then (below_two _ _)) (K2.out.then (below_two _ _)) hl).mono ?_
  rintro e w1 ⟨rfl, bb1⟩
  have bw1 : Below w.heap.size w w1 := (below_two _ _).trans (bb1.mono (by simp; omega))
  have hw0 : w1.heap[w.heap.size]? = some (.cells #[.int .i64 a0, .int .i64 a1, .int .i64 a2, .int .i64 a3, .int .i64 a4, u1, .int .i64 a6, .bool a7] 128) := by
    rw [bb1.block _ (by simp; omega), Below.heap_alloc _ _ _ (by simp), heap_alloc_new]
  have hw1 : w1.heap[w.heap.size + 1]? = some (.cells #[.int .i64 a0, .int .i64 a1, .int .i64 a2, .int .i64 a3, .int .i64 a4, u2, .int .i64 b6, .bool b7] 128) := by
    rw [bb1.block _ (by simp)]
    have := heap_alloc_new (w.alloc (.cells #[.int .i64 a0, .int .i64 a1, .int .i64 a2, .int .i64 a3, .int .i64 a4, u1, .int .i64 a6, .bool a7] 128)) (.cells #[.int .i64 a0, .int .i64 a1, .int .i64 a2, .int .i64 a3, .int .i64 a4, u2, .int .i64 b6, .bool b7] 128)
    simpa using this
  have s6 := cells_at hw0 6
  have s7 := cells_at hw0 7
  have t6 := cells_at hw1 6
  have t7 := cells_at hw1 7
  simp at s6 s7 t6 t7
  clear bb1 hw0 hw1
  by_cases hns : ns = ms
  case neg =>
    rw [decide_eq_false hns]
    have hne : decide ((⟨a0, a1, a2, a3, a4, ns, a6, a7⟩ : RecD) = ⟨a0, a1, a2, a3, a4, ms, b6, b7⟩) = false := decide_eq_false (fun h => by cases h; exact hns rfl)
    have HNE := hide hne
    clear hne
    go_wp2
    go_ret
    exact ⟨by rw [HNE.out]; rfl, bw1⟩
  subst hns
  rw [decide_eq_true (rfl : ns = ns)]
  by_cases h6 : a6 = b6
  case neg =>
    have hd : (a6 != b6) = true := by simpa using h6
    have hne : decide ((⟨a0, a1, a2, a3, a4, ns, a6, a7⟩ : RecD) = ⟨a0, a1, a2, a3, a4, ns, b6, b7⟩) = false := decide_eq_false (fun h => by cases h; exact h6 rfl)
    have HNE := hide hne
    clear hne
    go_wp2
    go_ret
    exact ⟨by rw [HNE.out]; rfl, bw1⟩
  subst h6
  cases a7 <;> cases b7
  all_goals
    go_wp2
    go_ret
    exact ⟨by simp, bw1⟩
end Go.Proofs.YtimbeeinognjbaaGreatDoor
namespace Go.Proofs.YtimbeeinognjbaaGreatDoor
open Go.RowKit

def mk (q : Int) (i : Nat) : Nr := ⟨q + 2 * (i : Int), q + 2 * (i : Int) + 1⟩

def marks (q : Int) (n : Nat) : List Nr := (List.range n).map (mk q)

theorem marks_len (q : Int) (n : Nat) : (marks q n).length = n := by simp [marks]

theorem marks_all {q : Int} {n : Nat} {ys : List Nr} (hl : ys.length = n) (h : ∀ j, j < n → ys[j]? = some (mk q j)) : ys = marks q n := by
  apply List.ext_getElem?
  intro i
  by_cases hi : i < n
  · rw [h i hi]
    simp [marks, hi]
  · rw [List.getElem?_eq_none (by omega), List.getElem?_eq_none (by rw [marks_len]; omega)]

theorem owns_shapeS {w : World} {base size : Nat} {e : TypeId} {v : Value} {n : Nat} {xs : List Value} (h : w.ownsRow base e size v n xs) (hn : 0 < n) :
    ∃ g cap, v = .slice (some ⟨g, 0, none⟩) n cap ∧ base ≤ g ∧ g < w.heap.size := by
  rcases h.2 with ⟨_, h0⟩ | ⟨g, cap, cur, hv, hb, hg, _⟩
  · omega
  · exact ⟨g, cap, hv, hb, lt_of_heap hg⟩

theorem own_cell {w : World} {base size g cap : Nat} {e : TypeId} {n : Nat} {xs : List Value} (h : w.ownsRow base e size (.slice (some ⟨g, 0, none⟩) n cap) n xs) (j : Nat) (hj : j < n * size) : ∃ u, w.cell? ⟨g, j, none⟩ = some u := by
  rw [h.cellAt j hj]
  have hl : j < xs.length := by rw [h.1]; exact hj
  exact ⟨_, List.getElem?_eq_getElem hl⟩

theorem grown_refl (w : World) (r : Option Nat) : w.grownBy w r := ⟨rfl, rfl, rfl, Nat.le_refl _, fun _ _ _ => rfl⟩

theorem ret_int1 {a b : Int} (h : a = b) : Ending.returned (.int .i64 a) = .returned (.int .i64 b) := by rw [h]

set_option maxRecDepth 100000 in
set_option maxHeartbeats 1000000 in
theorem markNearS_any (v : Value) (base n : Nat) (ns : List Nr) (q : Int) (w : World) (hn0 : ns.length = n) (h1 : w.ownsRow base 225 2 v n (flat nrE ns)) (hn : n ≤ 1048576) (hq : 0 ≤ q) (hq2 : q ≤ 1000000000) :
    Calls Tryz.prog 117 #[v, .int .i64 q] w fun e w' => e = .returned (.int .i64 (q + 2 * (n : Int))) ∧ w'.ownsRow base 225 2 v n (flat nrE (marks q n)) ∧ w.grownBy w' v.ownBlock := by
  by_cases h0 : n = 0
  · subst h0
    obtain ⟨a1, c1, rfl⟩ := owns_lenS h1
    have hnn : ns = [] := List.length_eq_zero_iff.1 hn0
    have H1 := hide h1
    rw [hnn] at H1
    clear h1 hn0 hnn
    go_enter Tryz.func117, Tryz.ntmps117
    go_wp2
    refine wp_loop_rounds 1 ?_
    rw [rounds_succ]
    go_wp2
    go_ret
    exact ⟨by simp, H1.out, grown_refl _ _⟩
  · obtain ⟨g1, c1, rfl, hg1, hl1⟩ := owns_shapeS h1 (by omega)
    have H1 := hide h1
    have HN0 := hide hn0
    clear h1 h0 hn0
    go_enter Tryz.func117, Tryz.ntmps117
    go_wp2
    go_loopw [5, 1] (fun i r wr => ∃ (k : Nat) (ys : List Nr), k ≤ n ∧ i = .int .i64 k ∧ r = .int .i64 (q + 2 * (k : Int)) ∧ ys.length = n ∧ (∀ j, j < k → ys[j]? = some (mk q j)) ∧ wr.ownsRow base 225 2 (.slice (some ⟨g1, 0, none⟩) n c1) n (flat nrE ys) ∧ w.grownBy wr (some g1)) (fun i _ _ => n - (intOf i).toNat)
    case atStart => exact ⟨0, ns, by omega, rfl, by simp, HN0.out, by omega, H1.out, grown_refl _ _⟩
    case round =>
      clear H1
      obtain ⟨k, ys, hk, rfl, rfl, hyl, hys, hown, hnx⟩ := hrel
      by_cases hlt : k < n
      · have hki : (0 : Int) ≤ (k : Int) := by omega
        have hkj : (k : Int) < (n : Int) := by omega
        obtain ⟨u0, d0⟩ := own_cell hown (k * 2) (by omega)
        obtain ⟨u1, d1⟩ := own_cell hown (k * 2 + 1) (by omega)
        have f0 := hown.frozenAt (k * 2)
        have f1 := hown.frozenAt (k * 2 + 1)
        have st := ((hown.stored (k * 2) (.int .i64 (q + 2 * (k : Int)))).1.stored (k * 2 + 1) (.int .i64 (q + 2 * (k : Int) + 1))).1
        have e1 : ((flat nrE ys).set (k * 2) (.int .i64 (q + 2 * (k : Int)))).set (k * 2 + 1) (.int .i64 (q + 2 * (k : Int) + 1)) = flat nrE (ys.set k (mk q k)) := flat_set nrE_len ys k (mk q k) (by omega)
        rw [e1] at st
        have ST := hide st
        have HYL := hide hyl
        have HYS := hide hys
        clear hown st e1 hyl hys
        go_wp2
        refine ⟨⟨k + 1, ys.set k (mk q k), by omega, by go_num, by go_num, by simp [HYL.out], ?_, ST.out, grown_trans (grown_trans hnx (grown_set _ _ _ _)) (grown_set _ _ _ _)⟩, by simp [intOf]; omega⟩
        intro j hj
        by_cases e : j = k
        · subst e
          rw [List.getElem?_set_self (by rw [HYL.out]; exact hlt)]
        · rw [List.getElem?_set_ne (by omega)]
          exact HYS.out j (by omega)
      · have hkn : k = n := by omega
        have hm : ys = marks q n := marks_all hyl (by rw [← hkn]; exact hys)
        have OW := hide hown
        have HM := hide hm
        have KN := hide hkn
        clear hkn hown hm hyl hys
        go_wp2
        go_ret
        exact ⟨ret_int1 (by rw [KN.out]), by rw [← HM.out]; exact OW.out, hnx⟩

end Go.Proofs.YtimbeeinognjbaaGreatDoor
namespace Go.Proofs.YtimbeeinognjbaaGreatDoor
open Go.RowKit

theorem flat_append {α : Type} {enc : α → List Value} (xs ys : List α) : flat enc (xs ++ ys) = flat enc xs ++ flat enc ys := by simp [flat]

theorem wpList_append_struct {α : Type} {enc : α → List Value} {sz bytes : Nat} (hlen : ∀ a, (enc a).length = sz) (hpos : 0 < sz) (hone : ∀ a, ∀ u ∈ enc a, u.oneCell' = true) (hbb : bytes ≤ 100) {P : Program} (w : World) {ops : Array Oper} {rest : List Oper} {o : Oper} {a : Act} {Q : Exit → Act → World → Prop} (hgd : o.guard = none) (s x : Operand) (t : TypeId)
    (ho : o.op = .call { callee := .builtin .append, args := #[s, x], argTypes := #[t, t] }) (base : Nat) (e : TypeId) (ht : P.underlying t = some (.slice e)) (zv : Value) (hzv : zv.cells.size = sz)
    (hinfo : (P.info? e).map (fun i => (i.zero, i.size, i.bytes)) = some (some zv, sz, bytes))
    (v : Value) (l : List α) (y : α) (hs : a.eval s = v) (hown : w.ownsRow base e sz v l.length (flat enc l))
    (ad : Addr) (c : Nat) (hx : a.eval x = .slice (some ad) 1 c) (hnews : ∀ j u, (enc y)[j]? = some u → w.cell? (ad.add j) = some u)
    (hl : l.length + 1 ≤ 1000000000) (hbase : base ≤ w.heap.size)
    (h : ∀ v' w' l', Hid (l' = l ++ [y]) → w'.ownsRow base e sz v' l'.length (flat enc l') → w.grownBy w' v.ownBlock → wpList P ops Q rest (a.put o.dst v') w') : wpList P ops Q (o :: rest) a w := by
  obtain ⟨i0, hi, hz0, hz1, hz2⟩ := info_parts hinfo
  refine wpList_append_own w hgd s x t ho base e i0 zv sz bytes ht hi hz0 hz1 hz2 hzv hpos v l.length (flat enc l) hs hown ad 1 c (enc y) hx (by rw [hlen]; omega) hnews (hone y) (by unfold maxLen; omega) ?_ hbase ?_
  · have : (l.length + 1) * bytes ≤ 1000000000 * 100 := Nat.mul_le_mul hl hbb
    omega
  · intro v' w' h1 h2 _
    have e1 : flat enc l ++ enc y = flat enc (l ++ [y]) := by rw [flat_append]; simp [flat]
    rw [e1] at h1
    exact h v' w' (l ++ [y]) rfl (by simpa using h1) h2

theorem news_struct {w : World} {cs : List Value} {t : TypeId} : ∀ (j : Nat) (u : Value), cs[j]? = some u → (w.alloc (.cells cs.toArray t)).cell? ((⟨w.heap.size, 0, none⟩ : Addr).add j) = some u := by
  intro j u hj
  have e : (⟨w.heap.size, 0, none⟩ : Addr).add j = ⟨w.heap.size, j, none⟩ := by
    simp only [Addr.add]
    split <;> simp_all
  rw [e, World.cell?_alloc_at _ _ _ _ rfl]
  simpa using hj
end Go.Proofs.YtimbeeinognjbaaGreatDoor
namespace Go.Proofs.YtimbeeinognjbaaGreatDoor
open Go.RowKit

/-- a record, and the value of its row -/
abbrev RP := RecD × Value

def encP (p : RP) : List Value := [.int .i64 p.1.area, .int .i64 p.1.kind, .int .i64 p.1.owner, .int .i64 p.1.key, .int .i64 p.1.seq, p.2, .int .i64 p.1.cost, .bool p.1.far]

theorem encP_len (p : RP) : (encP p).length = 8 := rfl

def zeroRD : RecD := ⟨0, 0, 0, 0, 0, [], 0, false⟩

def zP : RP := (zeroRD, .slice none 0 0)

/-- a list to read: its cells, and each record's row, below B -/
def RecsAt (W : World) (v : Value) (ps : List RP) (B : Nat) : Prop := StructsAt encP 8 W v ps B ∧ ∀ p ∈ ps, NearsAt W p.2 p.1.near B

theorem RecsAt.shape {W : World} {v : Value} {ps : List RP} {B : Nat} (h : RecsAt W v ps B) : ∃ a cap, v = .slice a ps.length cap := by
  obtain ⟨⟨a, cap, h, _⟩, _⟩ := h
  exact ⟨a, cap, h⟩

theorem RecsAt.later {W W' : World} {v : Value} {ps : List RP} {B C : Nat} (h : RecsAt W v ps B) (hb : Below C W W') (hBC : B ≤ C) : RecsAt W' v ps B :=
  ⟨RowAt.later h.1 hb hBC, fun p hp => RowAt.later (h.2 p hp) hb hBC⟩

theorem RecsAt.more {W : World} {v : Value} {ps : List RP} {B C : Nat} (h : RecsAt W v ps B) (hBC : B ≤ C) : RecsAt W v ps C :=
  ⟨RowAt.more h.1 hBC, fun p hp => RowAt.more (h.2 p hp) hBC⟩

theorem RecsAt.then {W W' : World} {v : Value} {ps : List RP} (h : RecsAt W v ps W.heap.size) (hb : Below W.heap.size W W') : RecsAt W' v ps W'.heap.size := (h.later hb (Nat.le_refl _)).more hb.size

theorem RecsAt.cells {W : World} {v : Value} {ps : List RP} {B : Nat} (h : RecsAt W v ps B) (i : Nat) (p : RP) (hp : ps[i]? = some p) :
    ∃ b off cap, v = .slice (some ⟨b, off, none⟩) ps.length cap ∧ b < B ∧ W.cell? ⟨b, off + i * 8, none⟩ = some (.int .i64 p.1.area) ∧ W.cell? ⟨b, off + i * 8 + 1, none⟩ = some (.int .i64 p.1.kind) ∧ W.cell? ⟨b, off + i * 8 + 2, none⟩ = some (.int .i64 p.1.owner) ∧ W.cell? ⟨b, off + i * 8 + 3, none⟩ = some (.int .i64 p.1.key) ∧ W.cell? ⟨b, off + i * 8 + 4, none⟩ = some (.int .i64 p.1.seq) ∧ W.cell? ⟨b, off + i * 8 + 5, none⟩ = some p.2 ∧ W.cell? ⟨b, off + i * 8 + 6, none⟩ = some (.int .i64 p.1.cost) ∧ W.cell? ⟨b, off + i * 8 + 7, none⟩ = some (.bool p.1.far) ∧ NearsAt W p.2 p.1.near B := by
  obtain ⟨b, off, cap, hv, hb, hc⟩ := StructsAt.cell h.1 encP_len i p hp
  exact ⟨b, off, cap, hv, hb, hc 0 _ rfl, hc 1 _ rfl, hc 2 _ rfl, hc 3 _ rfl, hc 4 _ rfl, hc 5 _ rfl, hc 6 _ rfl, hc 7 _ rfl, h.2 p (List.mem_of_getElem? hp)⟩

/-- its row is the caller's own, in blocks of lo .. hi -/
def NearOwn (W : World) (lo hi : Nat) (p : RP) : Prop := W.ownsRow lo 225 2 p.2 p.1.near.length (flat nrE p.1.near) ∧ ∀ k, p.2.ownBlock = some k → k < hi

def Apart (p q : RP) : Prop := ∀ k, p.2.ownBlock = some k → q.2.ownBlock ≠ some k

/-- a list of the caller's own: its row and those of its records, no two in one block, all in blocks of lo .. hi -/
structure RecsOwn (W : World) (lo hi : Nat) (v : Value) (ps : List RP) : Prop where
  row : W.ownsRow lo 128 8 v ps.length (flat encP ps)
  top : ∀ k, v.ownBlock = some k → k < hi
  nears : ∀ p ∈ ps, NearOwn W lo hi p
  apart : ps.Pairwise Apart

theorem owns_keepB {W W' : World} {base size : Nat} {e : TypeId} {v : Value} {n : Nat} {xs : List Value} (h : W.ownsRow base e size v n xs) (hk : ∀ k, v.ownBlock = some k → W'.heap[k]? = W.heap[k]?) : W'.ownsRow base e size v n xs := by
  refine ⟨h.1, ?_⟩
  rcases h.2 with h2 | ⟨g, cap, cur, hv, hg, hh, r⟩
  · exact .inl h2
  · exact .inr ⟨g, cap, cur, hv, hg, by rw [hk g (by rw [hv]; rfl)]; exact hh, r⟩

theorem owns_up {W : World} {base b2 size : Nat} {e : TypeId} {v : Value} {n : Nat} {xs : List Value} (h : W.ownsRow base e size v n xs) (hk : ∀ k, v.ownBlock = some k → b2 ≤ k) : W.ownsRow b2 e size v n xs := by
  refine ⟨h.1, ?_⟩
  rcases h.2 with h2 | ⟨g, cap, cur, hv, hg, r⟩
  · exact .inl h2
  · exact .inr ⟨g, cap, cur, hv, hk g (by rw [hv]; rfl), r⟩

theorem NearOwn.keep {W W' : World} {lo hi : Nat} {p : RP} (h : NearOwn W lo hi p) (hk : ∀ k, lo ≤ k → k < hi → k < W.heap.size → W'.heap[k]? = W.heap[k]?) : NearOwn W' lo hi p :=
  ⟨owns_keepB h.1 (fun k e => hk k (h.1.lt k e).1 (h.2 k e) (h.1.lt k e).2), h.2⟩

theorem NearOwn.wide {W : World} {lo hi lo' hi' : Nat} {p : RP} (h : NearOwn W lo hi p) (hl : lo' ≤ lo) (hh : hi ≤ hi') : NearOwn W lo' hi' p :=
  ⟨owns_baseS h.1 hl, fun k e => Nat.lt_of_lt_of_le (h.2 k e) hh⟩

theorem NearOwn.at {W : World} {lo hi : Nat} {p : RP} (h : NearOwn W lo hi p) : NearsAt W p.2 p.1.near hi := by
  have h1 := owns_rowAt h.1
  obtain ⟨a, cap, hv, h2⟩ := h1
  refine ⟨a, cap, hv, ?_⟩
  rcases h2 with h0 | ⟨b, off, ha, hb1, hx⟩
  · exact .inl h0
  · exact .inr ⟨b, off, ha, h.2 b (by rw [hv, ha]; rfl), hx⟩

theorem RecsOwn.keep {W W' : World} {lo hi : Nat} {v : Value} {ps : List RP} (h : RecsOwn W lo hi v ps) (hk : ∀ k, lo ≤ k → k < hi → k < W.heap.size → W'.heap[k]? = W.heap[k]?) : RecsOwn W' lo hi v ps where
  row := owns_keepB h.row (fun k e => hk k (h.row.lt k e).1 (h.top k e) (h.row.lt k e).2)
  top := h.top
  nears := fun p hp => (h.nears p hp).keep hk
  apart := h.apart

theorem RecsOwn.below {W W' : World} {lo hi B : Nat} {v : Value} {ps : List RP} (h : RecsOwn W lo hi v ps) (hb : Below B W W') (hB : hi ≤ B) : RecsOwn W' lo hi v ps := h.keep (fun k _ h2 _ => hb.block k (by omega))

theorem RecsOwn.wide {W : World} {lo hi lo' hi' : Nat} {v : Value} {ps : List RP} (h : RecsOwn W lo hi v ps) (hl : lo' ≤ lo) (hh : hi ≤ hi') : RecsOwn W lo' hi' v ps where
  row := owns_baseS h.row hl
  top := fun k e => Nat.lt_of_lt_of_le (h.top k e) hh
  nears := fun p hp => (h.nears p hp).wide hl hh
  apart := h.apart

theorem RecsOwn.at {W : World} {lo hi : Nat} {v : Value} {ps : List RP} (h : RecsOwn W lo hi v ps) : RecsAt W v ps hi := by
  refine ⟨?_, fun p hp => (h.nears p hp).at⟩
  have h1 := owns_rowAt h.row
  obtain ⟨a, cap, hv, h2⟩ := h1
  refine ⟨a, cap, hv, ?_⟩
  rcases h2 with h0 | ⟨b, off, ha, hb1, hx⟩
  · exact .inl h0
  · exact .inr ⟨b, off, ha, h.top b (by rw [hv, ha]; rfl), hx⟩

/-- what a marking leaves: only blocks of lo .. hi turn -/
structure Frame (lo hi : Nat) (w w' : World) : Prop where
  os : w'.os = w.os
  tape : w'.tape = w.tape
  output : w'.output = w.output
  size : w.heap.size ≤ w'.heap.size
  block : ∀ k, k < w.heap.size → (k < lo ∨ hi ≤ k) → w'.heap[k]? = w.heap[k]?

theorem Frame.refl (lo hi : Nat) (w : World) : Frame lo hi w w := ⟨rfl, rfl, rfl, Nat.le_refl _, fun _ _ _ => rfl⟩

theorem Frame.trans {lo hi : Nat} {a b c : World} (h : Frame lo hi a b) (k : Frame lo hi b c) : Frame lo hi a c :=
  ⟨k.os.trans h.os, k.tape.trans h.tape, k.output.trans h.output, Nat.le_trans h.size k.size, fun i hi hr => (k.block i (Nat.lt_of_lt_of_le hi h.size) hr).trans (h.block i hi hr)⟩

theorem Frame.grown {lo hi : Nat} {a b : World} {row : Option Nat} (g : a.grownBy b row) (hr : ∀ k, row = some k → lo ≤ k ∧ k < hi) : Frame lo hi a b :=
  ⟨g.os, g.tape, g.output, g.size, fun k hk hh => g.block k hk (fun e => by have := hr k e.symm; omega)⟩

theorem Frame.set {lo hi : Nat} (w : World) (p j : Nat) (u : Value) (h1 : lo ≤ p) (h2 : p < hi) : Frame lo hi w (w.setCell ⟨p, j, none⟩ u) := Frame.grown (grown_set w p j u) (fun k e => by simp at e; omega)

theorem Frame.below {lo hi : Nat} {w w' : World} (h : Frame lo hi w w') (hw : lo ≤ w.heap.size) : Below lo w w' := (Below.refl _ _).trans ⟨h.os, h.tape, h.output, h.size, fun k hk => h.block k (by omega) (.inl hk)⟩

theorem RecsOwn.frame {W W' : World} {lo hi l2 h2 : Nat} {v : Value} {ps : List RP} (h : RecsOwn W lo hi v ps) (hb : Frame l2 h2 W W') (hB : hi ≤ l2 ∨ h2 ≤ lo) : RecsOwn W' lo hi v ps := h.keep (fun k h1 h2 h3 => hb.block k h3 (by omega))

/-- eight cells laid at o of block g -/
abbrev putP (W : World) (g o : Nat) (p : RP) : World := (((((((W.setCell ⟨g, o, none⟩ (.int .i64 p.1.area)).setCell ⟨g, o + 1, none⟩ (.int .i64 p.1.kind)).setCell ⟨g, o + 2, none⟩ (.int .i64 p.1.owner)).setCell ⟨g, o + 3, none⟩ (.int .i64 p.1.key)).setCell ⟨g, o + 4, none⟩ (.int .i64 p.1.seq)).setCell ⟨g, o + 5, none⟩ p.2).setCell ⟨g, o + 6, none⟩ (.int .i64 p.1.cost)).setCell ⟨g, o + 7, none⟩ (.bool p.1.far)

theorem putP_grown (W : World) (g o : Nat) (p : RP) : W.grownBy (putP W g o p) (some g) :=
  grown_trans (grown_trans (grown_trans (grown_trans (grown_trans (grown_trans (grown_trans (grown_set W g _ _) (grown_set _ g _ _)) (grown_set _ g _ _)) (grown_set _ g _ _)) (grown_set _ g _ _)) (grown_set _ g _ _)) (grown_set _ g _ _)) (grown_set _ g _ _)

theorem putP_owns {W : World} {base g cap n j : Nat} {xs : List RP} {p : RP} (h : W.ownsRow base 128 8 (.slice (some ⟨g, 0, none⟩) n cap) n (flat encP xs)) (hj : j < xs.length) :
    (putP W g (j * 8) p).ownsRow base 128 8 (.slice (some ⟨g, 0, none⟩) n cap) n (flat encP (xs.set j p)) := by
  have e : (((((((((flat encP xs).set (j * 8) (.int .i64 p.1.area)).set (j * 8 + 1) (.int .i64 p.1.kind)).set (j * 8 + 2) (.int .i64 p.1.owner)).set (j * 8 + 3) (.int .i64 p.1.key)).set (j * 8 + 4) (.int .i64 p.1.seq)).set (j * 8 + 5) p.2).set (j * 8 + 6) (.int .i64 p.1.cost)).set (j * 8 + 7) (.bool p.1.far)) = flat encP (xs.set j p) := flat_set encP_len xs j p hj
  rw [← e]
  exact ((((((((h.stored (j * 8) _).1.stored (j * 8 + 1) _).1.stored (j * 8 + 2) _).1.stored (j * 8 + 3) _).1.stored (j * 8 + 4) _).1.stored (j * 8 + 5) _).1.stored (j * 8 + 6) _).1.stored (j * 8 + 7) _).1

/-- near rows of new records are behind all that was there -/
theorem apart_add {W : World} {lo hi : Nat} {ps : List RP} {p : RP} (h : ps.Pairwise Apart) (hn : ∀ q ∈ ps, NearOwn W lo hi q) (hp : ∀ k, p.2.ownBlock = some k → hi ≤ k) : (ps ++ [p]).Pairwise Apart := by
  rw [List.pairwise_append]
  refine ⟨h, by simp, ?_⟩
  intro a ha b hb
  have : b = p := by simpa using hb
  subst this
  intro k hk he
  have h1 := (hn a ha).2 k hk
  have h2 := hp k he
  omega

/-- how many numbers a list has -/
def tot (ps : List RP) : Nat := (ps.map (fun p => 1 + p.1.near.length)).sum

theorem tot_cons (p : RP) (ps : List RP) : tot (p :: ps) = 1 + p.1.near.length + tot ps := by simp [tot]

theorem tot_append (a b : List RP) : tot (a ++ b) = tot a + tot b := by simp [tot]

theorem tot_len (ps : List RP) : ps.length ≤ tot ps := by
  induction ps with
  | nil => simp [tot]
  | cons p ps ih => rw [tot_cons, List.length_cons]; omega

theorem tot_mem {ps : List RP} {p : RP} (h : p ∈ ps) : p.1.near.length ≤ tot ps := by
  induction ps with
  | nil => simp at h
  | cons q ps ih =>
    rw [tot_cons]
    rcases List.mem_cons.1 h with rfl | h1
    · omega
    · have := ih h1; omega

theorem tot_map {ps qs : List RP} (h : ps.map (·.1) = qs.map (·.1)) : tot ps = tot qs := by
  have e : ∀ l : List RP, tot l = ((l.map (·.1)).map (fun x => 1 + x.near.length)).sum := fun l => by simp [tot, List.map_map, Function.comp_def]
  rw [e, e, h]

theorem tot_take {ps : List RP} {k : Nat} {p : RP} (h : ps[k]? = some p) : tot (ps.take (k + 1)) = tot (ps.take k) + (1 + p.1.near.length) := by
  obtain ⟨hk, e⟩ := List.getElem?_eq_some_iff.1 h
  rw [List.take_succ_eq_append_getElem hk, tot_append, e]
  simp [tot]

theorem map_take {ps : List RP} {k : Nat} {p : RP} (h : ps[k]? = some p) : (ps.take (k + 1)).map (·.1) = (ps.take k).map (·.1) ++ [p.1] := by
  obtain ⟨hk, e⟩ := List.getElem?_eq_some_iff.1 h
  rw [List.take_succ_eq_append_getElem hk, List.map_append, e]
  rfl
end Go.Proofs.YtimbeeinognjbaaGreatDoor
namespace Go.Proofs.YtimbeeinognjbaaGreatDoor
open Go.RowKit

theorem szR_neg {q : Int} {n : Nat} : szR q n < 0 ∨ (0 ≤ szR q n ∧ szR q n = q - (n : Int)) := by
  unfold szR
  split <;> omega

set_option maxRecDepth 100000 in
set_option maxHeartbeats 1000000 in
theorem szRecordS_any (v : Value) (ps : List RP) (q : Int) (w : World) (hn : ps.length ≤ maxLen) (hns : ∀ p ∈ ps, p.1.near.length ≤ maxLen) (hq0 : 0 ≤ q) (hq : q ≤ 1048576) (hv : RecsAt w v ps w.heap.size) :
    Calls Tryz.prog 42 #[v, .int .i64 q] w fun e w' => ∃ r : Int, e = .returned (.int .i64 r) ∧ (r < 0 ∨ (0 ≤ r ∧ r = q - (tot ps : Int))) ∧ Below w.heap.size w w' := by
  obtain ⟨a, cap, rfl⟩ := hv.shape
  have hm : maxLen = 9223372036854775807 := rfl
  have HV := hide hv
  clear hv
  have HNS := hide (fun p hp => show ((p : RP).1.near.length : Int) ≤ 9223372036854775807 by have := hns p hp; omega)
  clear hns
  rw [hm] at hn
  clear hm
  by_cases hneg : q - (ps.length : Int) < 0
  · go_enter Tryz.func42, Tryz.ntmps42
    go_wp2
    go_ret
    exact ⟨_, rfl, .inl (by omega), Below.refl _ _⟩
  go_enter Tryz.func42, Tryz.ntmps42
  go_wp2
  go_loopw [5, 1] (fun i r wr => ∃ (k : Nat) (c : Int), k ≤ ps.length ∧ i = .int .i64 k ∧ r = .int .i64 c ∧ 0 ≤ c ∧ c = q - (ps.length : Int) - ((tot (ps.take k) : Int) - (k : Int)) ∧ Below w.heap.size w wr) (fun i _ _ => ps.length - (intOf i).toNat)
  case atStart => exact ⟨0, q - (ps.length : Int), by omega, rfl, rfl, by omega, by simp [tot], Below.refl _ _⟩
  case round =>
    obtain ⟨k, c, hk, rfl, rfl, hc0, hc, hnx⟩ := hrel
    by_cases hlt : k < ps.length
    · obtain ⟨p, hp⟩ : ∃ p, ps[k]? = some p := ⟨ps[k], List.getElem?_eq_getElem hlt⟩
      have htk := tot_take hp
      have htl := tot_len (ps.take k)
      rw [List.length_take, Nat.min_eq_left (by omega)] at htl
      obtain ⟨b, off, cap', hve, hbb, c0, c1, c2, c3, c4, c5, c6, c7, hnr⟩ := HV.out.cells k p hp
      cases hve
      rw [← hnx.cell (p := ⟨b, off + k * 8, none⟩) hbb] at c0
      rw [← hnx.cell (p := ⟨b, off + k * 8 + 1, none⟩) hbb] at c1
      rw [← hnx.cell (p := ⟨b, off + k * 8 + 2, none⟩) hbb] at c2
      rw [← hnx.cell (p := ⟨b, off + k * 8 + 3, none⟩) hbb] at c3
      rw [← hnx.cell (p := ⟨b, off + k * 8 + 4, none⟩) hbb] at c4
      rw [← hnx.cell (p := ⟨b, off + k * 8 + 5, none⟩) hbb] at c5
      rw [← hnx.cell (p := ⟨b, off + k * 8 + 6, none⟩) hbb] at c6
      rw [← hnx.cell (p := ⟨b, off + k * 8 + 7, none⟩) hbb] at c7
      obtain ⟨na, nc, hne⟩ := hnr.shape
      rw [hne] at c5
      have hki : (0 : Int) ≤ (k : Int) := by omega
      have hkj : (k : Int) < (ps.length : Int) := by omega
      have hcq : c ≤ 1048576 := by omega
      have HS := hide (fun W => szRecord_any p.1 na p.1.near.length nc c W (HNS.out p (List.mem_of_getElem? hp)) hc0 hcq)
      unfold recC at HS
      have hsn := szR_neg (q := c) (n := p.1.near.length)
      obtain ⟨z, hz⟩ : ∃ z, z = szR c p.1.near.length := ⟨_, rfl⟩
      rw [← hz] at HS hsn
      have HT := hide htk
      have HTL := hide htl
      have HC := hide hc
      clear hp hz htk htl hnr hne hc
      rcases hsn with hzn | ⟨hz0, hze⟩
      · go_wp2_with fail
        refine (HS.out _).mono ?_
        rintro e w1 ⟨rfl, b1⟩
        go_wp2
        go_ret
        exact ⟨_, rfl, .inl (by omega), hnx.trans (b1.mono hnx.size)⟩
      · have HZ := hide hze
        clear hze
        go_wp2_with fail
        refine (HS.out _).mono ?_
        rintro e w1 ⟨rfl, b1⟩
        go_wp2
        go_roundw
        case rel => exact ⟨k + 1, z, by omega, by go_num, rfl, hz0, by have := HZ.out; have := HC.out; have := HT.out; omega, hnx.trans (b1.mono hnx.size)⟩
        case measure => simp [intOf]; omega
    · have hkn : k = ps.length := by omega
      have KN := hide hkn
      have HC := hide hc
      clear hkn hc
      go_wp2
      go_ret
      refine ⟨c, rfl, .inr ⟨hc0, ?_⟩, hnx⟩
      have h1 := HC.out
      rw [KN.out, List.take_length] at h1
      omega

theorem Tryz.infoRec : (Tryz.prog.info? 128).map (fun i => (i.zero, i.size, i.bytes)) = some (some (.agg (recC zeroRD (.slice none 0 0))), 8, 80) := by kernel_rfl

set_option maxRecDepth 100000 in
set_option maxHeartbeats 2000000 in
theorem toRecordS_any (v : Value) (ps : List RP) (w : World) (hn : ps.length ≤ 1048576) (hns : ∀ p ∈ ps, p.1.near.length ≤ 1048576) (hv : RecsAt w v ps w.heap.size) :
    Calls Tryz.prog 48 #[v] w fun e w' => ∃ x qs, e = .returned x ∧ qs.map (·.1) = ps.map (·.1) ∧ RecsOwn w' w.heap.size w'.heap.size x qs ∧ Below w.heap.size w w' := by
  obtain ⟨a, cap, rfl⟩ := hv.shape
  have HV := hide hv
  have HNS := hide hns
  clear hv hns
  obtain ⟨i0, hi, hz0, hz1, hz2⟩ := info_parts Tryz.infoRec
  have HI := hide hi
  have HZ := hide hz0
  clear hi hz0
  go_enter Tryz.func48, Tryz.ntmps48
  go_wp2_with (first
    | (refine wpList_make_structs encP_len (by omega) _ rfl _ _ 39 rfl w.heap.size 128 i0 (.agg (recC zeroRD (.slice none 0 0))) zP rfl Tryz.underlying39 HI.out HZ.out hz1 ps.length rfl rfl (by rw [hz2]; omega) (by unfold maxLen; omega) (Nat.le_refl _) ?_))
  intro w1 hown hg
  have b1 : Below w.heap.size w w1 := (Below.refl _ _).grown hg (Nat.le_refl _) (fun k hk => by simp at hk)
  have hg1 : w.heap.size < w1.heap.size := by
    rcases hown.2 with ⟨h0, _⟩ | ⟨g, cp, cur, hv, _, hh, _⟩
    · cases h0
    · cases hv; exact lt_of_heap hh
  have OW := hide hown
  clear hown hg
  go_wp2
  go_loopw [4] (fun i wr => ∃ (k : Nat) (qs : List RP), k ≤ ps.length ∧ i = .int .i64 k ∧ qs.map (·.1) = (ps.take k).map (·.1) ∧ wr.ownsRow w.heap.size 128 8 (.slice (some ⟨w.heap.size, 0, none⟩) ps.length ps.length) ps.length (flat encP (qs ++ List.replicate (ps.length - k) zP)) ∧ (∀ p ∈ qs, NearOwn wr (w.heap.size + 1) wr.heap.size p) ∧ qs.Pairwise Apart ∧ Below w.heap.size w wr) (fun i _ => ps.length - (intOf i).toNat)
  case atStart => exact ⟨0, [], by omega, rfl, by simp, (by simpa using OW.out), by simp, by simp, b1⟩
  case round =>
    obtain ⟨k, qs, hk, rfl, hmap, hown, hnear, hap, hnx⟩ := hrel
    have hql : qs.length = k := by have := congrArg List.length hmap; simpa [List.length_take, Nat.min_eq_left hk] using this
    by_cases hlt : k < ps.length
    · obtain ⟨p, hp⟩ : ∃ p, ps[k]? = some p := ⟨ps[k], List.getElem?_eq_getElem hlt⟩
      obtain ⟨b, off, cap', hve, hbb, c0, c1, c2, c3, c4, c5, c6, c7, hnr⟩ := HV.out.cells k p hp
      cases hve
      rw [← hnx.cell (p := ⟨b, off + k * 8, none⟩) hbb] at c0
      rw [← hnx.cell (p := ⟨b, off + k * 8 + 1, none⟩) hbb] at c1
      rw [← hnx.cell (p := ⟨b, off + k * 8 + 2, none⟩) hbb] at c2
      rw [← hnx.cell (p := ⟨b, off + k * 8 + 3, none⟩) hbb] at c3
      rw [← hnx.cell (p := ⟨b, off + k * 8 + 4, none⟩) hbb] at c4
      rw [← hnx.cell (p := ⟨b, off + k * 8 + 5, none⟩) hbb] at c5
      rw [← hnx.cell (p := ⟨b, off + k * 8 + 6, none⟩) hbb] at c6
      rw [← hnx.cell (p := ⟨b, off + k * 8 + 7, none⟩) hbb] at c7
      have hnr2 := (RowAt.later hnr hnx (Nat.le_refl _)).more hnx.size
      have HTO := hide (toRecord_any (.agg (recC p.1 p.2)) p.1 wr (HNS.out p (List.mem_of_getElem? hp)) ⟨_, rfl, hnr2⟩)
      unfold recC at HTO
      have HP := hide hp
      have OW2 := hide hown
      have HM := hide hmap
      have HN := hide hnear
      have HQ := hide hql
      have HA := hide hap
      clear hp hown hmap hnear hql hap hnr hnr2
      have hki : (0 : Int) ≤ (k : Int) := by omega
      have hkj : (k : Int) < (ps.length : Int) := by omega
      go_wp2_with fail
      refine HTO.out.mono ?_
      rintro e w2 ⟨v1, rfl, hn2, b2⟩
      obtain ⟨n1a, n1c, rfl⟩ := owns_lenS hn2
      have hown2 := owns_below OW2.out b2 (Nat.le_refl _)
      have hln : (qs ++ List.replicate (ps.length - k) zP).length = ps.length := by rw [List.length_append, HQ.out]; simp; omega
      have hex : ∀ r, r < 8 → ∃ u, w2.cell? ⟨w.heap.size, k * 8 + r, none⟩ = some u := fun r hr => own_cell hown2 _ (by omega)
      obtain ⟨u0, d0⟩ := hex 0 (by omega)
      obtain ⟨u1, d1⟩ := hex 1 (by omega)
      obtain ⟨u2, d2⟩ := hex 2 (by omega)
      obtain ⟨u3, d3⟩ := hex 3 (by omega)
      obtain ⟨u4, d4⟩ := hex 4 (by omega)
      obtain ⟨u5, d5⟩ := hex 5 (by omega)
      obtain ⟨u6, d6⟩ := hex 6 (by omega)
      obtain ⟨u7, d7⟩ := hex 7 (by omega)
      rw [Nat.add_zero] at d0
      have f0 := hown2.frozenAt (k * 8)
      have f1 := hown2.frozenAt (k * 8 + 1)
      have f2 := hown2.frozenAt (k * 8 + 2)
      have f3 := hown2.frozenAt (k * 8 + 3)
      have f4 := hown2.frozenAt (k * 8 + 4)
      have f5 := hown2.frozenAt (k * 8 + 5)
      have f6 := hown2.frozenAt (k * 8 + 6)
      have f7 := hown2.frozenAt (k * 8 + 7)
      have hst := putP_owns (j := k) (p := (p.1, .slice n1a p.1.near.length n1c)) hown2 (by omega)
      have hsz := hnx.size
      have hgr := putP_grown w2 w.heap.size (k * 8) (p.1, .slice n1a p.1.near.length n1c)
      have hkeep : ∀ j, w.heap.size + 1 ≤ j → j < w2.heap.size → (putP w2 w.heap.size (k * 8) (p.1, .slice n1a p.1.near.length n1c)).heap[j]? = w2.heap[j]? := fun j h1 h2 => hgr.block j h2 (by simp; omega)
      have hgs := hgr.size
      have hrz : w.heap.size < wr.heap.size := by
        obtain ⟨u, hu⟩ := own_cell OW2.out (k * 8) (by omega)
        exact World.block_lt_of_cell? wr _ hu
      have b2s := b2.size
      have hnew : NearOwn (putP w2 w.heap.size (k * 8) (p.1, .slice n1a p.1.near.length n1c)) (w.heap.size + 1) (putP w2 w.heap.size (k * 8) (p.1, .slice n1a p.1.near.length n1c)).heap.size (p.1, .slice n1a p.1.near.length n1c) := by
        have h0 : NearOwn w2 (w.heap.size + 1) w2.heap.size (p.1, .slice n1a p.1.near.length n1c) := ⟨owns_baseS hn2 hrz, fun k hk => (hn2.lt k hk).2⟩
        exact (h0.keep (fun j h1 _ h3 => hkeep j h1 h3)).wide (Nat.le_refl _) hgs
      have hold : ∀ q ∈ qs, NearOwn (putP w2 w.heap.size (k * 8) (p.1, .slice n1a p.1.near.length n1c)) (w.heap.size + 1) (putP w2 w.heap.size (k * 8) (p.1, .slice n1a p.1.near.length n1c)).heap.size q := fun q hq => by
        have h0 := (HN.out q hq).keep (W' := w2) (fun j _ h2 _ => b2.block j h2)
        exact ((h0.wide (Nat.le_refl _) b2s).keep (fun j h1 _ h3 => hkeep j h1 h3)).wide (Nat.le_refl _) hgs
      have hap2 := apart_add (p := (p.1, .slice n1a p.1.near.length n1c)) HA.out HN.out (fun j hj => (hn2.lt j hj).1)
      have hbw : Below w.heap.size w (putP w2 w.heap.size (k * 8) (p.1, .slice n1a p.1.near.length n1c)) := (hnx.trans (b2.mono hsz)).grown hgr (by omega) (fun j hj => by simp at hj; omega)
      have ST := hide hst
      have HNEW := hide hnew
      have HOLD := hide hold
      have HAP2 := hide hap2
      have HBW := hide hbw
      clear hown2 hex hst hnew hold hap2 hbw hkeep hgr hgs hn2
      go_wp2
      refine ⟨⟨k + 1, qs ++ [(p.1, .slice n1a p.1.near.length n1c)], by omega, by go_num, ?_, ?_, ?_, HAP2.out, HBW.out⟩, by simp [intOf]; omega⟩
      · rw [map_take HP.out, ← HM.out]
        simp
      · have h4 := ST.out
        have e4 : (qs ++ List.replicate (ps.length - k) zP).set k (p.1, .slice n1a p.1.near.length n1c) = (qs ++ [(p.1, .slice n1a p.1.near.length n1c)]) ++ List.replicate (ps.length - (k + 1)) zP := by
          rw [List.set_append_right _ _ (by rw [HQ.out]; exact Nat.le_refl _), HQ.out, Nat.sub_self]
          have e2 : ps.length - k = (ps.length - (k + 1)) + 1 := by omega
          rw [e2, List.replicate_succ, List.set_cons_zero]
          simp
        rw [e4] at h4
        exact h4
      · intro q hq
        rcases List.mem_append.1 hq with h | h
        · exact HOLD.out q h
        · have : q = (p.1, .slice n1a p.1.near.length n1c) := by simpa using h
          rw [this]
          exact HNEW.out
    · have hkn : k = ps.length := by omega
      have KN := hide hkn
      have OW2 := hide hown
      have HM := hide hmap
      have HN := hide hnear
      have HA := hide hap
      have HQ := hide hql
      clear hkn hown hmap hnear hap hql
      go_wp2
      go_ret
      have h1 := HM.out
      have h2 := OW2.out
      have h3 := HQ.out
      rw [KN.out, List.take_length] at h1
      rw [KN.out, Nat.sub_self, List.replicate_zero, List.append_nil] at h2
      rw [KN.out] at h3
      refine ⟨_, rfl, qs, h1, ⟨?_, ?_, fun q hq => (HN.out q hq).wide (by omega) (Nat.le_refl _), HA.out⟩, hnx⟩
      · rw [h3]; exact h2
      · exact fun j hj => (h2.lt j hj).2

def fsts (ps : List RP) : List RecD := ps.map (·.1)

theorem fsts_at {ps : List RP} {i : Nat} {p : RP} (h : ps[i]? = some p) : (fsts ps)[i]? = some p.1 := by simp [fsts, h]

set_option maxRecDepth 100000 in
set_option maxHeartbeats 2000000 in
theorem eqRecordS_any (v1 v2 : Value) (ps qs : List RP) (w : World) (h1 : RecsAt w v1 ps w.heap.size) (h2 : RecsAt w v2 qs w.heap.size) (hn : ps.length ≤ 1048576) (hns : ∀ p ∈ ps, p.1.near.length ≤ 1048576) :
    Calls Tryz.prog 59 #[v1, v2] w fun e w' => e = .returned (.bool (decide (fsts ps = fsts qs))) ∧ Below w.heap.size w w' := by
  obtain ⟨a1, c1, rfl⟩ := h1.shape
  obtain ⟨a2, c2, rfl⟩ := h2.shape
  by_cases hl : ps.length = qs.length
  · have K1 := hide h1
    have K2 := hide h2
    have HLN := hide hl
    have HNS := hide hns
    rw [← hl]
    clear h1 h2 hl hns
    go_enter Tryz.func59, Tryz.ntmps59
    go_wp2
    go_loopw [5] (fun i wr => ∃ k : Nat, k ≤ ps.length ∧ i = .int .i64 k ∧ (∀ j, j < k → (fsts ps)[j]? = (fsts qs)[j]?) ∧ Below w.heap.size w wr) (fun i _ => ps.length - (intOf i).toNat)
    case atStart => exact ⟨0, by omega, rfl, by omega, Below.refl _ _⟩
    case round =>
      obtain ⟨k, hk, rfl, hall, hnx⟩ := hrel
      have HALL := hide hall
      clear hall
      by_cases hlt : k < ps.length
      · obtain ⟨p, hp⟩ : ∃ l, ps[k]? = some l := ⟨ps[k], List.getElem?_eq_getElem hlt⟩
        obtain ⟨r, hr⟩ : ∃ l, qs[k]? = some l := ⟨qs[k], List.getElem?_eq_getElem (by have := HLN.out; omega)⟩
        obtain ⟨b1, o1, cp1, hv1, hb1, c0, c1', c2', c3, c4, c5, c6, c7, n1⟩ := K1.out.cells k p hp
        obtain ⟨b2, o2, cp2, hv2, hb2, d0, d1, d2, d3, d4, d5, d6, d7, n2⟩ := K2.out.cells k r hr
        cases hv1
        cases hv2
        rw [← hnx.cell (p := ⟨b1, o1 + k * 8, none⟩) hb1] at c0
        rw [← hnx.cell (p := ⟨b1, o1 + k * 8 + 1, none⟩) hb1] at c1'
        rw [← hnx.cell (p := ⟨b1, o1 + k * 8 + 2, none⟩) hb1] at c2'
        rw [← hnx.cell (p := ⟨b1, o1 + k * 8 + 3, none⟩) hb1] at c3
        rw [← hnx.cell (p := ⟨b1, o1 + k * 8 + 4, none⟩) hb1] at c4
        rw [← hnx.cell (p := ⟨b1, o1 + k * 8 + 5, none⟩) hb1] at c5
        rw [← hnx.cell (p := ⟨b1, o1 + k * 8 + 6, none⟩) hb1] at c6
        rw [← hnx.cell (p := ⟨b1, o1 + k * 8 + 7, none⟩) hb1] at c7
        rw [← hnx.cell (p := ⟨b2, o2 + k * 8, none⟩) hb2] at d0
        rw [← hnx.cell (p := ⟨b2, o2 + k * 8 + 1, none⟩) hb2] at d1
        rw [← hnx.cell (p := ⟨b2, o2 + k * 8 + 2, none⟩) hb2] at d2
        rw [← hnx.cell (p := ⟨b2, o2 + k * 8 + 3, none⟩) hb2] at d3
        rw [← hnx.cell (p := ⟨b2, o2 + k * 8 + 4, none⟩) hb2] at d4
        rw [← hnx.cell (p := ⟨b2, o2 + k * 8 + 5, none⟩) hb2] at d5
        rw [← hnx.cell (p := ⟨b2, o2 + k * 8 + 6, none⟩) hb2] at d6
        rw [← hnx.cell (p := ⟨b2, o2 + k * 8 + 7, none⟩) hb2] at d7
        have hzr := hnx.size
        have hb1' : b1 < wr.heap.size := by omega
        have hb2' : b2 < wr.heap.size := by omega
        have hki : (0 : Int) ≤ (k : Int) := by omega
        have hkj : (k : Int) < (ps.length : Int) := by omega
        have hkd : Below w.heap.size w wr.drew := hnx.drew
        have m1 := (RowAt.later n1 hkd (Nat.le_refl _)).more hkd.size
        have m2 := (RowAt.later n2 hkd (Nat.le_refl _)).more hkd.size
        have hq := eqRecord_any (.agg (recC p.1 p.2)) (.agg (recC r.1 r.2)) p.1 r.1 wr.drew ⟨_, rfl, m1⟩ ⟨_, rfl, m2⟩ (HNS.out p (List.mem_of_getElem? hp))
        unfold recC at hq
        obtain ⟨q, hqq⟩ : ∃ q, q = decide (p.1 = r.1) := ⟨_, rfl⟩
        rw [← hqq] at hq
        have HQ := hide hq
        have HQQ := hide hqq
        have HX := hide (fsts_at hp)
        have HY := hide (fsts_at hr)
        clear hq hqq hp hr n1 n2 m1 m2
        cases q
        · go_wp2
          go_region_held3 (fun W => W.cell? ⟨b1, o1 + k * 8, none⟩ = some (.int .i64 p.1.area) ∧ W.cell? ⟨b1, o1 + k * 8 + 1, none⟩ = some (.int .i64 p.1.kind) ∧ W.cell? ⟨b1, o1 + k * 8 + 2, none⟩ = some (.int .i64 p.1.owner) ∧ W.cell? ⟨b1, o1 + k * 8 + 3, none⟩ = some (.int .i64 p.1.key) ∧ W.cell? ⟨b1, o1 + k * 8 + 4, none⟩ = some (.int .i64 p.1.seq) ∧ W.cell? ⟨b1, o1 + k * 8 + 5, none⟩ = some (p.2) ∧ W.cell? ⟨b1, o1 + k * 8 + 6, none⟩ = some (.int .i64 p.1.cost) ∧ W.cell? ⟨b1, o1 + k * 8 + 7, none⟩ = some (.bool p.1.far) ∧ W.cell? ⟨b2, o2 + k * 8, none⟩ = some (.int .i64 r.1.area) ∧ W.cell? ⟨b2, o2 + k * 8 + 1, none⟩ = some (.int .i64 r.1.kind) ∧ W.cell? ⟨b2, o2 + k * 8 + 2, none⟩ = some (.int .i64 r.1.owner) ∧ W.cell? ⟨b2, o2 + k * 8 + 3, none⟩ = some (.int .i64 r.1.key) ∧ W.cell? ⟨b2, o2 + k * 8 + 4, none⟩ = some (.int .i64 r.1.seq) ∧ W.cell? ⟨b2, o2 + k * 8 + 5, none⟩ = some (r.2) ∧ W.cell? ⟨b2, o2 + k * 8 + 6, none⟩ = some (.int .i64 r.1.cost) ∧ W.cell? ⟨b2, o2 + k * 8 + 7, none⟩ = some (.bool r.1.far)) (first | go_keep | (refine ⟨?_, ?_, ?_, ?_, ?_, ?_, ?_, ?_, ?_, ?_, ?_, ?_, ?_, ?_, ?_, ?_⟩ <;> (rw [hbc.cell (by assumption)]; assumption))) (first | (go_at_call 96; refine HQ.out.mono ?_; rintro e w1 ⟨rfl, hbc⟩))
          go_wp2
          go_ret
          exact ⟨ret_bool_no (ne_at HX.out HY.out (of_decide_eq_false HQQ.out.symm)), hnx.trans ((Below.refl _ _).drew.trans (hbc.mono hzr))⟩
        · go_wp2
          go_region_held3 (fun W => W.cell? ⟨b1, o1 + k * 8, none⟩ = some (.int .i64 p.1.area) ∧ W.cell? ⟨b1, o1 + k * 8 + 1, none⟩ = some (.int .i64 p.1.kind) ∧ W.cell? ⟨b1, o1 + k * 8 + 2, none⟩ = some (.int .i64 p.1.owner) ∧ W.cell? ⟨b1, o1 + k * 8 + 3, none⟩ = some (.int .i64 p.1.key) ∧ W.cell? ⟨b1, o1 + k * 8 + 4, none⟩ = some (.int .i64 p.1.seq) ∧ W.cell? ⟨b1, o1 + k * 8 + 5, none⟩ = some (p.2) ∧ W.cell? ⟨b1, o1 + k * 8 + 6, none⟩ = some (.int .i64 p.1.cost) ∧ W.cell? ⟨b1, o1 + k * 8 + 7, none⟩ = some (.bool p.1.far) ∧ W.cell? ⟨b2, o2 + k * 8, none⟩ = some (.int .i64 r.1.area) ∧ W.cell? ⟨b2, o2 + k * 8 + 1, none⟩ = some (.int .i64 r.1.kind) ∧ W.cell? ⟨b2, o2 + k * 8 + 2, none⟩ = some (.int .i64 r.1.owner) ∧ W.cell? ⟨b2, o2 + k * 8 + 3, none⟩ = some (.int .i64 r.1.key) ∧ W.cell? ⟨b2, o2 + k * 8 + 4, none⟩ = some (.int .i64 r.1.seq) ∧ W.cell? ⟨b2, o2 + k * 8 + 5, none⟩ = some (r.2) ∧ W.cell? ⟨b2, o2 + k * 8 + 6, none⟩ = some (.int .i64 r.1.cost) ∧ W.cell? ⟨b2, o2 + k * 8 + 7, none⟩ = some (.bool r.1.far)) (first | go_keep | (refine ⟨?_, ?_, ?_, ?_, ?_, ?_, ?_, ?_, ?_, ?_, ?_, ?_, ?_, ?_, ?_, ?_⟩ <;> (rw [hbc.cell (by assumption)]; assumption))) (first | (go_at_call 96; refine HQ.out.mono ?_; rintro e w1 ⟨rfl, hbc⟩))
          go_wp2
          go_roundw
          case rel => exact ⟨k + 1, by omega, by go_num, (fun j hj => by
            by_cases e : j = k
            · subst e; rw [HX.out, HY.out, of_decide_eq_true HQQ.out.symm]
            · exact HALL.out j (by omega)), hnx.trans ((Below.refl _ _).drew.trans (hbc.mono hzr))⟩
          case measure => simp [intOf]; omega
      · have hkn : k = ps.length := by omega
        have KN := hide hkn
        clear hkn
        go_wp2
        go_ret
        exact ⟨ret_bool_yes (eq_all (by simp [fsts, HLN.out]) (by have := HALL.out; rw [KN.out] at this; simpa [fsts] using this)), hnx⟩
  · clear h1 h2
    have hd : ((ps.length : Int) != (qs.length : Int)) = true := by simp; omega
    go_enter Tryz.func59, Tryz.ntmps59
    go_wp2
    go_ret
    exact ⟨ret_bool_no (fun h => hl (by have := congrArg List.length h; simpa [fsts] using this)), Below.refl _ _⟩
end Go.Proofs.YtimbeeinognjbaaGreatDoor
namespace Go.Proofs.YtimbeeinognjbaaGreatDoor
open Go.RowKit

/-- the numbers of a record that is marked from c on -/
def mkR (c : Int) (p : RP) : RP := (⟨c, c + 1, c + 1 + 1, c + 1 + 1 + 1, c + 1 + 1 + 1 + 1, marks (c + 1 + 1 + 1 + 1 + 1) p.1.near.length, c + 1 + 1 + 1 + 1 + 1 + 2 * (p.1.near.length : Int), (c + 1 + 1 + 1 + 1 + 1 + 2 * (p.1.near.length : Int) + 1) % 3 == 0⟩, p.2)

def nxR (c : Int) (p : RP) : Int := c + 1 + 1 + 1 + 1 + 1 + 2 * (p.1.near.length : Int) + 1 + 1

def mkL : Int → List RP → List RP
  | _, [] => []
  | c, p :: ps => mkR c p :: mkL (nxR c p) ps

def mkE : Int → List RP → Int
  | c, [] => c
  | c, p :: ps => mkE (nxR c p) ps

theorem mkL_len (c : Int) (ps : List RP) : (mkL c ps).length = ps.length := by
  induction ps generalizing c with
  | nil => rfl
  | cons p ps ih => simp [mkL, ih]

theorem mkE_append (c : Int) (a b : List RP) : mkE c (a ++ b) = mkE (mkE c a) b := by
  induction a generalizing c with
  | nil => rfl
  | cons p a ih => exact ih _

theorem mkL_append (c : Int) (a b : List RP) : mkL c (a ++ b) = mkL c a ++ mkL (mkE c a) b := by
  induction a generalizing c with
  | nil => rfl
  | cons p a ih => simp only [List.cons_append, mkL, mkE, ih]

theorem mkE_step {ps : List RP} {k : Nat} {p : RP} (c : Int) (h : ps[k]? = some p) : mkE c (ps.take (k + 1)) = nxR (mkE c (ps.take k)) p := by
  obtain ⟨hk, e⟩ := List.getElem?_eq_some_iff.1 h
  rw [List.take_succ_eq_append_getElem hk, mkE_append, e]
  rfl

theorem mkL_step {ps : List RP} {k : Nat} {p : RP} (c : Int) (h : ps[k]? = some p) : mkL c (ps.take (k + 1)) = mkL c (ps.take k) ++ [mkR (mkE c (ps.take k)) p] := by
  obtain ⟨hk, e⟩ := List.getElem?_eq_some_iff.1 h
  rw [List.take_succ_eq_append_getElem hk, mkL_append, e]
  rfl

theorem mkE_tot (c : Int) (ps : List RP) : c + 2 * (tot ps : Int) ≤ mkE c ps ∧ mkE c ps ≤ c + 7 * (tot ps : Int) := by
  induction ps generalizing c with
  | nil => simp [mkE, tot]
  | cons p ps ih =>
    have h := ih (nxR c p)
    rw [tot_cons]
    simp only [mkE]
    unfold nxR at h ⊢
    omega

theorem tot_takeLe (ps : List RP) (k : Nat) : tot (ps.take k) ≤ tot ps := by
  have h := tot_append (ps.take k) (ps.drop k)
  rw [List.take_append_drop] at h
  omega

theorem mkL_at {ps : List RP} {k : Nat} {p : RP} (c : Int) (h : ps[k]? = some p) : (mkL c ps)[k]? = some (mkR (mkE c (ps.take k)) p) := by
  obtain ⟨hk, e⟩ := List.getElem?_eq_some_iff.1 h
  have e2 : ps = ps.take k ++ (p :: ps.drop (k + 1)) := by
    rw [← e]
    simp
  have e3 : mkL c ps = mkL c (ps.take k) ++ (mkR (mkE c (ps.take k)) p :: mkL (nxR (mkE c (ps.take k)) p) (ps.drop (k + 1))) := by
    conv => lhs; rw [e2]
    rw [mkL_append]
    rfl
  rw [e3, List.getElem?_append_right (by rw [mkL_len, List.length_take]; omega), mkL_len, List.length_take, Nat.min_eq_left (by omega), Nat.sub_self]
  rfl

theorem apart_snd (ps : List RP) : ps.Pairwise Apart ↔ (ps.map (·.2)).Pairwise (fun a b : Value => ∀ k, a.ownBlock = some k → b.ownBlock ≠ some k) := by
  rw [List.pairwise_map]
  exact Iff.rfl

theorem apart_at {ps : List RP} (h : ps.Pairwise Apart) {i k : Nat} {p q : RP} (hi : ps[i]? = some p) (hk : ps[k]? = some q) (hne : i ≠ k) : Apart p q := by
  obtain ⟨h1, e1⟩ := List.getElem?_eq_some_iff.1 hi
  obtain ⟨h2, e2⟩ := List.getElem?_eq_some_iff.1 hk
  rw [List.pairwise_iff_getElem] at h
  rcases Nat.lt_or_ge i k with hl | hl
  · have := h i k h1 h2 hl
    rw [e1, e2] at this
    exact this
  · have := h k i h2 h1 (by omega)
    rw [e1, e2] at this
    exact fun j hj he => this j he hj

theorem set_snd {ps : List RP} {k : Nat} {p q : RP} (hk : ps[k]? = some p) (h : q.2 = p.2) : (ps.set k q).map (·.2) = ps.map (·.2) := by
  apply List.ext_getElem?
  intro i
  by_cases e : i = k
  · subst e
    obtain ⟨h1, e1⟩ := List.getElem?_eq_some_iff.1 hk
    rw [List.getElem?_map, List.getElem?_set_self h1, List.getElem?_map, hk]
    simp [h]
  · simp [List.getElem?_set_ne (Ne.symm e)]

/-- one record turned within its list -/
theorem RecsOwn.turn {W W8 : World} {lo hi g n cap k : Nat} {xs : List RP} {p q : RP} (h : RecsOwn W lo hi (.slice (some ⟨g, 0, none⟩) n cap) xs) (hn : xs.length = n) (hk : xs[k]? = some p) (hq : q.2 = p.2)
    (row : W8.ownsRow lo 128 8 (.slice (some ⟨g, 0, none⟩) n cap) n (flat encP (xs.set k q))) (near : W8.ownsRow lo 225 2 q.2 q.1.near.length (flat nrE q.1.near))
    (hkeep : ∀ j, j < W.heap.size → j ≠ g → some j ≠ p.2.ownBlock → W8.heap[j]? = W.heap[j]?) : RecsOwn W8 lo hi (.slice (some ⟨g, 0, none⟩) n cap) (xs.set k q) where
  row := by rw [List.length_set, hn]; exact row
  top := h.top
  apart := by rw [apart_snd, set_snd hk hq, ← apart_snd]; exact h.apart
  nears := by
    intro r hr
    obtain ⟨i, hi, e⟩ := List.getElem_of_mem hr
    have hr2 : (xs.set k q)[i]? = some r := by rw [← e]; exact List.getElem?_eq_getElem hi
    by_cases ek : i = k
    · subst ek
      rw [List.getElem?_set_self (by simpa using hi)] at hr2
      cases hr2
      refine ⟨near, ?_⟩
      rw [hq]
      exact (h.nears p (List.mem_of_getElem? hk)).2
    · rw [List.getElem?_set_ne (Ne.symm ek)] at hr2
      have ho := h.nears r (List.mem_of_getElem? hr2)
      refine ⟨owns_keepB ho.1 (fun j hj => ?_), ho.2⟩
      refine hkeep j (ho.1.lt j hj).2 ?_ ?_
      · rintro rfl
        obtain ⟨cur, hh⟩ : ∃ cur, W.heap[j]? = some (.cells cur 128 (0, 0)) := by
          rcases h.row.2 with ⟨h0, _⟩ | ⟨g', cap', cur', hv', _, hh', _⟩
          · cases h0
          · cases hv'; exact ⟨cur', hh'⟩
        rcases ho.1.2 with ⟨h0, _⟩ | ⟨g', cap', cur', hv', _, hh', _⟩
        · rw [h0] at hj; simp [Value.ownBlock] at hj
        · rw [hv'] at hj
          simp [Value.ownBlock] at hj
          subst hj
          rw [hh] at hh'
          simp at hh'
      · intro he
        exact apart_at h.apart hr2 hk ek j hj he.symm

theorem set7 {xs : List RP} {k : Nat} {p q : RP} (hk : xs[k]? = some p) (hq : q.2 = p.2) :
    ((((((((flat encP xs).set (k * 8) (.int .i64 q.1.area)).set (k * 8 + 1) (.int .i64 q.1.kind)).set (k * 8 + 2) (.int .i64 q.1.owner)).set (k * 8 + 3) (.int .i64 q.1.key)).set (k * 8 + 4) (.int .i64 q.1.seq)).set (k * 8 + 6) (.int .i64 q.1.cost)).set (k * 8 + 7) (.bool q.1.far)) = flat encP (xs.set k q) := by
  obtain ⟨hlt, _⟩ := List.getElem?_eq_some_iff.1 hk
  have e : (((((((((flat encP xs).set (k * 8) (.int .i64 q.1.area)).set (k * 8 + 1) (.int .i64 q.1.kind)).set (k * 8 + 2) (.int .i64 q.1.owner)).set (k * 8 + 3) (.int .i64 q.1.key)).set (k * 8 + 4) (.int .i64 q.1.seq)).set (k * 8 + 5) q.2).set (k * 8 + 6) (.int .i64 q.1.cost)).set (k * 8 + 7) (.bool q.1.far)) = flat encP (xs.set k q) := flat_set encP_len xs k q hlt
  rw [← e]
  congr 2
  have h5 : ((((((flat encP xs).set (k * 8) (.int .i64 q.1.area)).set (k * 8 + 1) (.int .i64 q.1.kind)).set (k * 8 + 2) (.int .i64 q.1.owner)).set (k * 8 + 3) (.int .i64 q.1.key)).set (k * 8 + 4) (.int .i64 q.1.seq))[k * 8 + 5]? = some q.2 := by
    rw [List.getElem?_set_ne (by omega), List.getElem?_set_ne (by omega), List.getElem?_set_ne (by omega), List.getElem?_set_ne (by omega), List.getElem?_set_ne (by omega), flat_get encP_len xs k 5 p hk (by omega), hq]
    rfl
  obtain ⟨h6, e6⟩ := List.getElem?_eq_some_iff.1 h5
  rw [← e6]
  exact (List.set_getElem_self h6).symm

theorem own_type_ne2 {W : World} {base size n z : Nat} {e t : TypeId} {v : Value} {xs : List Value} {C : Array Value} {fr : Nat × Nat} (ho : W.ownsRow base e size v n xs) (h : W.heap[z]? = some (.cells C t fr)) (hne : e ≠ t) : some z ≠ v.ownBlock := by
  intro eq
  rcases ho.2 with ⟨h1, _⟩ | ⟨g', cap', cur', hv', _, hh', _⟩
  · rw [h1] at eq; simp [Value.ownBlock] at eq
  · rw [hv'] at eq
    simp [Value.ownBlock] at eq
    subst eq
    rw [h] at hh'
    simp at hh'
    exact hne hh'.2.1.symm

abbrev set5 (W : World) (g o : Nat) (z : Int) : World := ((((W.setCell ⟨g, o, none⟩ (.int .i64 z)).setCell ⟨g, o + 1, none⟩ (.int .i64 (z + 1))).setCell ⟨g, o + 2, none⟩ (.int .i64 (z + 1 + 1))).setCell ⟨g, o + 3, none⟩ (.int .i64 (z + 1 + 1 + 1))).setCell ⟨g, o + 4, none⟩ (.int .i64 (z + 1 + 1 + 1 + 1))

theorem set5_grown (W : World) (g o : Nat) (z : Int) : W.grownBy (set5 W g o z) (some g) :=
  grown_trans (grown_trans (grown_trans (grown_trans (grown_set W g _ _) (grown_set _ g _ _)) (grown_set _ g _ _)) (grown_set _ g _ _)) (grown_set _ g _ _)

set_option maxRecDepth 100000 in
set_option maxHeartbeats 2000000 in
theorem markRecordS_any (v : Value) (lo hi : Nat) (ps : List RP) (c : Int) (w : World) (h : RecsOwn w lo hi v ps) (hn : tot ps ≤ 1048576) (hc : 0 ≤ c) (hc2 : c ≤ 10000000) :
    Calls Tryz.prog 73 #[v, .int .i64 c] w fun e w' => e = .returned (.int .i64 (mkE c ps)) ∧ RecsOwn w' lo hi v (mkL c ps) ∧ Frame lo hi w w' := by
  have hnl := tot_len ps
  by_cases h0 : ps.length = 0
  · have hps : ps = [] := List.length_eq_zero_iff.1 h0
    subst hps
    obtain ⟨a1, c1, rfl⟩ := owns_lenS h.row
    have H1 := hide h
    clear h
    go_enter Tryz.func73, Tryz.ntmps73
    go_wp2
    refine wp_loop_rounds 1 ?_
    rw [rounds_succ]
    go_wp2
    go_ret
    exact ⟨rfl, H1.out, Frame.refl _ _ _⟩
  · obtain ⟨g, cap, rfl, hg1, hl1⟩ := owns_shapeS h.row (by omega)
    have H1 := hide h
    have HG := hide (h.top g rfl)
    clear h h0
    go_enter Tryz.func73, Tryz.ntmps73
    go_wp2
    go_loopw [5, 1] (fun i r wr => ∃ (k : Nat), k ≤ ps.length ∧ i = .int .i64 k ∧ r = .int .i64 (mkE c (ps.take k)) ∧ RecsOwn wr lo hi (.slice (some ⟨g, 0, none⟩) ps.length cap) (mkL c (ps.take k) ++ ps.drop k) ∧ Frame lo hi w wr) (fun i _ _ => ps.length - (intOf i).toNat)
    case atStart => exact ⟨0, by omega, rfl, rfl, H1.out, Frame.refl _ _ _⟩
    case round =>
      clear H1
      obtain ⟨k, hk, rfl, rfl, hown, hnx⟩ := hrel
      by_cases hlt : k < ps.length
      · obtain ⟨p, hp⟩ : ∃ p, ps[k]? = some p := ⟨ps[k], List.getElem?_eq_getElem hlt⟩
        have hki : (0 : Int) ≤ (k : Int) := by omega
        have hkj : (k : Int) < (ps.length : Int) := by omega
        have ht1 := tot_takeLe ps k
        have ht2 := mkE_tot c (ps.take k)
        have hpl := tot_mem (List.mem_of_getElem? hp)
        obtain ⟨z, hz⟩ : ∃ z, z = mkE c (ps.take k) := ⟨_, rfl⟩
        rw [← hz] at ht2 ⊢
        have hz0 : 0 ≤ z := by omega
        have hz2 : z ≤ 100000000 := by omega
        obtain ⟨xs, hxs⟩ : ∃ xs, xs = mkL c (ps.take k) ++ ps.drop k := ⟨_, rfl⟩
        rw [← hxs] at hown
        have hxl : xs.length = ps.length := by rw [hxs]; simp [mkL_len]; omega
        have hxk : xs[k]? = some p := by
          rw [hxs, List.getElem?_append_right (by rw [mkL_len, List.length_take]; omega), mkL_len, List.length_take, Nat.min_eq_left (by omega), Nat.sub_self, List.getElem?_drop, Nat.add_zero]
          exact hp
        have hstep : xs.set k (mkR z p) = mkL c (ps.take (k + 1)) ++ ps.drop (k + 1) := by
          have ed : ps.drop k = p :: ps.drop (k + 1) := by
            obtain ⟨h1, e1⟩ := List.getElem?_eq_some_iff.1 hp
            rw [List.drop_eq_getElem_cons h1, e1]
          rw [hxs, mkL_step c hp, ← hz, List.set_append_right _ _ (by rw [mkL_len, List.length_take]; omega), mkL_len, List.length_take, Nat.min_eq_left (by omega), Nat.sub_self, ed, List.set_cons_zero]
          simp
        have hnext : mkE c (ps.take (k + 1)) = nxR z p := by rw [mkE_step c hp, hz]
        have hrow := hown.row
        rw [hxl] at hrow
        have hex : ∀ r, r < 8 → ∃ u, wr.cell? ⟨g, k * 8 + r, none⟩ = some u := fun r hr => own_cell hrow _ (by omega)
        obtain ⟨u0, d0⟩ := hex 0 (by omega)
        obtain ⟨u1, d1⟩ := hex 1 (by omega)
        obtain ⟨u2, d2⟩ := hex 2 (by omega)
        obtain ⟨u3, d3⟩ := hex 3 (by omega)
        obtain ⟨u4, d4⟩ := hex 4 (by omega)
        obtain ⟨u6, d6⟩ := hex 6 (by omega)
        obtain ⟨u7, d7⟩ := hex 7 (by omega)
        rw [Nat.add_zero] at d0
        have d5 : wr.cell? ⟨g, k * 8 + 5, none⟩ = some p.2 := by
          rw [hrow.cellAt _ (by omega), flat_get encP_len xs k 5 p hxk (by omega)]
          rfl
        have f0 := hrow.frozenAt (k * 8)
        have f1 := hrow.frozenAt (k * 8 + 1)
        have f2 := hrow.frozenAt (k * 8 + 2)
        have f3 := hrow.frozenAt (k * 8 + 3)
        have f4 := hrow.frozenAt (k * 8 + 4)
        have f5 := hrow.frozenAt (k * 8 + 5)
        have f6 := hrow.frozenAt (k * 8 + 6)
        have f7 := hrow.frozenAt (k * 8 + 7)
        have hnear := (hown.nears p (List.mem_of_getElem? hxk)).1
        obtain ⟨na, nc, hpn⟩ := owns_lenS hnear
        rw [hpn] at d5
        have hzr : w.heap.size ≤ wr.heap.size := hnx.size
        obtain ⟨curg, hcurg⟩ : ∃ cur, wr.heap[g]? = some (.cells cur 128 (0, 0)) := by
          rcases hrow.2 with ⟨h0, _⟩ | ⟨g', cap', cur', hv', _, hh', _⟩
          · cases h0
          · cases hv'; exact ⟨cur', hh'⟩
        have hgne : some g ≠ p.2.ownBlock := own_type_ne2 hnear hcurg (by decide)
        rw [hpn] at hnear hgne
        have row5 := ((((hrow.stored (k * 8) (.int .i64 z)).1.stored (k * 8 + 1) (.int .i64 (z + 1))).1.stored (k * 8 + 2) (.int .i64 (z + 1 + 1))).1.stored (k * 8 + 3) (.int .i64 (z + 1 + 1 + 1))).1.stored (k * 8 + 4) (.int .i64 (z + 1 + 1 + 1 + 1)) |>.1
        have gr5 := set5_grown wr g (k * 8) z
        have near5 : (set5 wr g (k * 8) z).ownsRow lo 225 2 (.slice na p.1.near.length nc) p.1.near.length (flat nrE p.1.near) := owns_keepB hnear (fun j hj => gr5.block j (hnear.lt j hj).2 (fun e => hgne (by rw [hj, e])))
        have HMN := hide (markNearS_any (.slice na p.1.near.length nc) lo p.1.near.length p.1.near (z + 1 + 1 + 1 + 1 + 1) (set5 wr g (k * 8) z) rfl near5 (by omega) (by omega) (by omega))
        have HOWN := hide hown
        have HROW5 := hide row5
        have HGR5 := hide gr5
        have HXL := hide hxl
        have HXK := hide hxk
        have HSTEP := hide hstep
        have HNEXT := hide hnext
        have HPN := hide hpn
        have HGNE := hide hgne
        have HZ := hide hz
        have HTK := hide ht2
        clear hown hrow hxl hxk hstep hnext hpn hnear hex hcurg hxs hz hp row5 gr5 near5 hgne ht2 ht1
        go_wp2_with fail
        refine HMN.out.mono ?_
        rintro e w6 ⟨rfl, near6, gr6⟩
        have row6 : w6.ownsRow lo 128 8 (.slice (some ⟨g, 0, none⟩) ps.length cap) ps.length _ := owns_keepB HROW5.out (fun j hj => gr6.block j (HROW5.out.lt j hj).2 (fun e => HGNE.out (by cases hj; exact e)))
        obtain ⟨x6, e6⟩ := own_cell row6 (k * 8 + 6) (by omega)
        obtain ⟨x7, e7⟩ := own_cell row6 (k * 8 + 7) (by omega)
        have t6 := row6.frozenAt (k * 8 + 6)
        have t7 := row6.frozenAt (k * 8 + 7)
        have row8 := (row6.stored (k * 8 + 6) (.int .i64 (mkR z p).1.cost)).1.stored (k * 8 + 7) (.bool (mkR z p).1.far) |>.1
        have e8 := set7 (q := mkR z p) HXK.out rfl
        have row8' : ((w6.setCell ⟨g, k * 8 + 6, none⟩ (.int .i64 (mkR z p).1.cost)).setCell ⟨g, k * 8 + 7, none⟩ (.bool (mkR z p).1.far)).ownsRow lo 128 8 (.slice (some ⟨g, 0, none⟩) ps.length cap) ps.length (flat encP (xs.set k (mkR z p))) := by
          rw [← e8]
          exact row8
        have gr8 : w6.grownBy ((w6.setCell ⟨g, k * 8 + 6, none⟩ (.int .i64 (mkR z p).1.cost)).setCell ⟨g, k * 8 + 7, none⟩ (.bool (mkR z p).1.far)) (some g) := grown_trans (grown_set _ _ _ _) (grown_set _ _ _ _)
        have near8 := owns_keepB near6 (W' := (w6.setCell ⟨g, k * 8 + 6, none⟩ (.int .i64 (mkR z p).1.cost)).setCell ⟨g, k * 8 + 7, none⟩ (.bool (mkR z p).1.far)) (fun j hj => gr8.block j (near6.lt j hj).2 (fun e => HGNE.out (by rw [hj, e])))
        have fr : Frame lo hi wr ((w6.setCell ⟨g, k * 8 + 6, none⟩ (.int .i64 (mkR z p).1.cost)).setCell ⟨g, k * 8 + 7, none⟩ (.bool (mkR z p).1.far)) :=
          ((Frame.grown HGR5.out (fun j hj => by simp at hj; have := HG.out; omega)).trans (Frame.grown gr6 (fun j hj => ⟨(near6.lt j hj).1, by have := (HOWN.out.nears p (List.mem_of_getElem? HXK.out)).2 j (by rw [HPN.out]; exact hj); exact this⟩))).trans (Frame.grown gr8 (fun j hj => by simp at hj; have := HG.out; omega))
        have fin := HOWN.out.turn (W8 := (w6.setCell ⟨g, k * 8 + 6, none⟩ (.int .i64 (mkR z p).1.cost)).setCell ⟨g, k * 8 + 7, none⟩ (.bool (mkR z p).1.far)) (q := mkR z p) HXL.out HXK.out rfl row8' (by
            have h9 := near8
            show World.ownsRow _ lo 225 2 p.2 (marks _ _).length (flat nrE (marks _ _))
            rw [HPN.out, marks_len]
            exact h9) (fun j h1 h2 h3 => by
            have g5 := HGR5.out.size
            have g6 := gr6.size
            rw [gr8.block j (by omega) (by simp; omega), gr6.block j (by omega) (by rw [← HPN.out]; exact h3), HGR5.out.block j h1 (by simp; omega)])
        rw [HSTEP.out] at fin
        have FIN := hide fin
        have FR := hide fr
        clear row6 row8 e8 row8' gr8 near8 fr fin near6 gr6 HOWN HROW5 HMN HGR5
        go_wp2
        refine ⟨⟨k + 1, by omega, by go_num, ?_, FIN.out, hnx.trans FR.out⟩, by simp [intOf]; omega⟩
        rw [HNEXT.out]
        rfl
      · have hkn : k = ps.length := by omega
        have KN := hide hkn
        have OW := hide hown
        clear hkn hown
        go_wp2
        go_ret
        have h1 := OW.out
        rw [KN.out, List.take_length, List.drop_length, List.append_nil] at h1
        exact ⟨ret_int1 (by rw [KN.out, List.take_length]), h1, hnx⟩

end Go.Proofs.YtimbeeinognjbaaGreatDoor
namespace Go.Proofs.YtimbeeinognjbaaGreatDoor
open Go.RowKit

def intsOf (l : List Int) : List Value := l.map fun z => Value.int .i64 z

theorem intsOf_length (l : List Int) : (intsOf l).length = l.length := by simp [intsOf]

theorem intsOf_append (a b : List Int) : intsOf (a ++ b) = intsOf a ++ intsOf b := by simp [intsOf]

theorem Tryz.info3 : (Tryz.prog.info? 3).map (fun i => (i.zero, i.size, i.bytes)) = some (some (.int .i64 0), 1, 8) := by kernel_rfl

/-- 'append(out, z)' of an int, out a row that the call itself made. -/
theorem wpList_append_int {P : Program} (w : World) {ops : Array Oper} {rest : List Oper} {o : Oper} {a : Act} {Q : Exit → Act → World → Prop} (hgd : o.guard = none) (s x : Operand) (t : TypeId)
    (ho : o.op = .call { callee := .builtin .append, args := #[s, x], argTypes := #[t, t] }) (base : Nat) (e : TypeId) (ht : P.underlying t = some (.slice e))
    (hinfo : (P.info? e).map (fun i => (i.zero, i.size, i.bytes)) = some (some (.int .i64 0), 1, 8))
    (v : Value) (l : List Int) (z : Int) (hs : a.eval s = v) (hown : w.ownsRow base e 1 v l.length (intsOf l))
    (ad : Addr) (c : Nat) (hx : a.eval x = .slice (some ad) 1 c) (hnews : w.cell? (ad.add 0) = some (.int .i64 z))
    (hlen : l.length + 1 ≤ 1000000000) (hbase : base ≤ w.heap.size)
    (h : ∀ v' w' l', Hid (l' = l ++ [z]) → w'.ownsRow base e 1 v' l'.length (intsOf l') → w.grownBy w' v.ownBlock → wpList P ops Q rest (a.put o.dst v') w') : wpList P ops Q (o :: rest) a w := by
  obtain ⟨i0, hi, hz0, hz1, hz2⟩ := info_parts hinfo
  refine wpList_append_own w hgd s x t ho base e i0 (.int .i64 0) 1 8 ht hi hz0 hz1 hz2 rfl (by decide) v l.length (intsOf l) hs hown ad 1 c (intsOf [z]) hx (by simp [intsOf]) ?_ ?_ (by unfold maxLen; omega) (by omega) hbase ?_
  · intro j u hj
    have hj' : j = 0 := by have := (List.getElem?_eq_some_iff.1 hj).1; simp [intsOf] at this; omega
    subst hj'
    rw [hnews]
    simpa [intsOf] using hj
  · intro u hu
    simp only [intsOf, List.mem_map] at hu
    obtain ⟨b, _, rfl⟩ := hu
    rfl
  · intro v' w' h1 h2 _
    rw [← intsOf_append] at h1
    exact h v' w' (l ++ [z]) rfl (by simpa using h1) h2
end Go.Proofs.YtimbeeinognjbaaGreatDoor
namespace Go.Proofs.YtimbeeinognjbaaGreatDoor
open Go.RowKit

def intC (zs : List Int) (j : Nat) : Value := .int .i64 (zs.getD j 0)

def IntsAt (W : World) (v : Value) (zs : List Int) (B : Nat) : Prop := RowAt W v zs.length 1 (intC zs) B

theorem ints_of_owns {W : World} {base : Nat} {v : Value} {zs : List Int} (h : W.ownsRow base 3 1 v zs.length (intsOf zs)) : IntsAt W v zs W.heap.size := by
  by_cases h0 : zs.length = 0
  · obtain ⟨a, cap, rfl⟩ := owns_len h
    exact ⟨a, cap, rfl, .inl h0⟩
  · obtain ⟨g, cap, rfl, hg, hl⟩ := owns_shape h (by omega)
    refine ⟨_, cap, rfl, .inr ⟨g, 0, rfl, hl, fun j hj => ?_⟩⟩
    rw [Nat.zero_add, h.cellAt j (by omega)]
    have hj' : j < zs.length := by omega
    simp [intsOf, intC, List.getElem?_eq_getElem hj']

theorem below_drewN {B : Nat} {w wr : World} (h : Below B w wr) (n : Nat) : Below B w (wr.drewN n) := ⟨h.os, h.tape, h.output, h.size, h.block⟩

theorem list_ne_at {xs ys : List Int} {k : Nat} (h : xs.getD k 0 ≠ ys.getD k 0) : ¬ xs = ys := by
  rintro rfl
  exact h rfl

theorem list_eq_all {xs ys : List Int} (hl : xs.length = ys.length) (h : ∀ j, j < xs.length → xs.getD j 0 = ys.getD j 0) : xs = ys := by
  apply List.ext_getElem hl
  intro i h1 h2
  have := h i h1
  simpa [List.getD, List.getElem?_eq_getElem h1, List.getElem?_eq_getElem h2] using this

set_option maxRecDepth 100000 in
set_option maxHeartbeats 1000000 in
theorem eqI_any (v1 v2 : Value) (xs ys : List Int) (w : World) (h1 : IntsAt w v1 xs w.heap.size) (h2 : IntsAt w v2 ys w.heap.size) (hn : xs.length ≤ 1048576) :
    Calls Tryz.prog 58 #[v1, v2] w fun e w' => e = .returned (.bool (decide (xs = ys))) ∧ Below w.heap.size w w' := by
  obtain ⟨a1, c1, rfl, k1⟩ := h1
  obtain ⟨a2, c2, rfl, k2⟩ := h2
  by_cases hl : xs.length = ys.length
  · have K1 := hide k1
    have K2 := hide k2
    clear k1 k2
    go_enter Tryz.func58, Tryz.ntmps58
    go_wp2
    go_loopw [5] (fun i wr => ∃ k : Nat, k ≤ xs.length ∧ i = .int .i64 k ∧ (∀ j, j < k → xs.getD j 0 = ys.getD j 0) ∧ Below w.heap.size w wr) (fun i _ => xs.length - (intOf i).toNat)
    case atStart => exact ⟨0, by omega, rfl, by omega, Below.refl _ _⟩
    case round =>
      obtain ⟨k, hk, rfl, hall, hnx⟩ := hrel
      have HALL := hide hall
      clear hall
      by_cases hlt : k < xs.length
      · obtain ⟨b1, o1, ha1, hb1, d1⟩ : ∃ b1 o1, a1 = some ⟨b1, o1, none⟩ ∧ b1 < w.heap.size ∧ wr.cell? ⟨b1, o1 + k, none⟩ = some (.int .i64 (xs.getD k 0)) := by
          rcases K1.out with h0 | ⟨b, off, ha, hb, hx⟩
          · omega
          · exact ⟨b, off, ha, hb, by rw [hnx.cell (p := ⟨b, off + k, none⟩) hb, hx k (by omega)]; rfl⟩
        obtain ⟨b2, o2, ha2, hb2, d2⟩ : ∃ b2 o2, a2 = some ⟨b2, o2, none⟩ ∧ b2 < w.heap.size ∧ wr.cell? ⟨b2, o2 + k, none⟩ = some (.int .i64 (ys.getD k 0)) := by
          rcases K2.out with h0 | ⟨b, off, ha, hb, hx⟩
          · omega
          · exact ⟨b, off, ha, hb, by rw [hnx.cell (p := ⟨b, off + k, none⟩) hb, hx k (by omega)]; rfl⟩
        subst ha1 ha2
        have hki : (0 : Int) ≤ (k : Int) := by omega
        have hkj : (k : Int) < (xs.length : Int) := by omega
        have hkl : (k : Int) < (ys.length : Int) := by omega
        obtain ⟨x, hx⟩ : ∃ x, x = xs.getD k 0 := ⟨_, rfl⟩
        obtain ⟨y, hy⟩ : ∃ y, y = ys.getD k 0 := ⟨_, rfl⟩
        rw [← hx] at d1
        rw [← hy] at d2
        have HX := hide hx
        have HY := hide hy
        clear hx hy
        by_cases hxy : x = y
        · subst hxy
          go_wp2
          go_quiet (fail)
          go_wp2
          go_roundw
          case rel => exact ⟨k + 1, by omega, by go_num, (fun j hj => by
            by_cases e : j = k
            · subst e; rw [← HX.out, ← HY.out]
            · exact HALL.out j (by omega)), below_drewN hnx _⟩
          case measure => simp [intOf]; omega
        · have hd : (x != y) = true := by simpa using hxy
          go_wp2
          go_quiet (fail)
          go_wp2
          go_ret
          exact ⟨ret_bool_no (list_ne_at (k := k) (by rw [← HX.out, ← HY.out]; exact hxy)), below_drewN hnx _⟩
      · have hkn : k = xs.length := by omega
        have KN := hide hkn
        clear hkn
        go_wp2
        go_ret
        exact ⟨ret_bool_yes (list_eq_all hl (by rw [← KN.out]; exact HALL.out)), hnx⟩
  · clear k1 k2
    have hd : ((xs.length : Int) != (ys.length : Int)) = true := by simp; omega
    go_enter Tryz.func58, Tryz.ntmps58
    go_wp2
    go_ret
    exact ⟨ret_bool_no (fun h => hl (by rw [h])), Below.refl _ _⟩

def marksI (q : Int) : Nat → List Int
  | 0 => []
  | n + 1 => marksI q n ++ [q + (n : Int)]

theorem marksI_length (q : Int) : ∀ n, (marksI q n).length = n
  | 0 => rfl
  | n + 1 => by simp [marksI, marksI_length q n]

def markedI (q : Int) (i : Nat) (xs : List Int) : List Int := marksI q i ++ xs.drop i

theorem markedI_length (q : Int) (i : Nat) (xs : List Int) (h : i ≤ xs.length) : (markedI q i xs).length = xs.length := by simp [markedI, marksI_length]; omega

theorem markedI_step (q : Int) (i : Nat) (xs : List Int) (h : i < xs.length) : (markedI q i xs).set i (q + (i : Int)) = markedI q (i + 1) xs := by
  unfold markedI
  rw [marksI, List.set_append_right _ _ (by rw [marksI_length]; omega), marksI_length, Nat.sub_self, List.drop_eq_getElem_cons h]
  simp only [List.set_cons_zero, List.append_assoc, List.cons_append, List.nil_append]

theorem intsOf_set (xs : List Int) (i : Nat) (t : Int) : (intsOf xs).set i (.int .i64 t) = intsOf (xs.set i t) := by simp [intsOf]

set_option maxRecDepth 100000 in
set_option maxHeartbeats 1000000 in
theorem markI_any (v : Value) (base : Nat) (xs : List Int) (q : Int) (w : World) (h1 : w.ownsRow base 3 1 v xs.length (intsOf xs)) (hn : xs.length ≤ 1000000) (hq : -1000000 ≤ q) (hq2 : q ≤ 1000000000) :
    Calls Tryz.prog 38 #[v, .int .i64 q] w fun e w' => e = .returned (.int .i64 (q + (xs.length : Int))) ∧ w'.ownsRow base 3 1 v xs.length (intsOf (marksI q xs.length)) ∧ Below base w w' := by
  by_cases h0 : xs.length = 0
  · have hx : xs = [] := List.length_eq_zero_iff.1 h0
    subst hx
    obtain ⟨a1, c1, rfl⟩ := owns_len h1
    have H1 := hide h1
    clear h1 h0
    go_enter Tryz.func38, Tryz.ntmps38
    go_wp2
    refine wp_loop_rounds 1 ?_
    rw [rounds_succ]
    go_wp2
    go_ret
    exact ⟨by simp, H1.out, Below.refl _ _⟩
  · obtain ⟨g1, c1, rfl, hg1, hl1⟩ := owns_shape h1 (by omega)
    obtain ⟨n, hnn⟩ : ∃ n, n = xs.length := ⟨_, rfl⟩
    have NN := hide hnn
    rw [← hnn] at hn h1 ⊢
    clear hnn h0
    go_enter Tryz.func38, Tryz.ntmps38
    go_wp2
    go_loopw [5, 1] (fun i r wr => ∃ k : Nat, k ≤ n ∧ i = .int .i64 k ∧ r = .int .i64 (q + (k : Int)) ∧ wr.ownsRow base 3 1 (.slice (some ⟨g1, 0, none⟩) n c1) n (intsOf (markedI q k xs)) ∧ Below base w wr) (fun i _ _ => n - (intOf i).toNat)
    case atStart => exact ⟨0, by omega, rfl, by simp, h1, Below.refl _ _⟩
    case round =>
      clear h1
      obtain ⟨k, hk, rfl, rfl, hown, hnx⟩ := hrel
      have hsz := hnx.size
      by_cases hlt : k < n
      · have hki : (0 : Int) ≤ (k : Int) := by omega
        have hkj : (k : Int) < (n : Int) := by omega
        have hfr1 := hown.frozenAt k
        have hcl1 : ∃ t, wr.cell? ⟨g1, k, none⟩ = some (.int .i64 t) := by
          rw [hown.cellAt k (by omega)]
          have hl : k < (markedI q k xs).length := by rw [markedI_length]; have := NN.out; omega; have := NN.out; omega
          exact ⟨(markedI q k xs)[k], by simp [intsOf, List.getElem?_eq_getElem hl]⟩
        obtain ⟨t, hcl⟩ := hcl1
        have hst := hown.stored k (.int .i64 (q + (k : Int)))
        rw [intsOf_set, markedI_step q k xs (by have := NN.out; omega)] at hst
        have ST := hide hst.1
        clear hst hown
        go_wp2
        go_roundw
        case rel => exact ⟨k + 1, by omega, by go_num, by go_num, ST.out, hnx.setCell hg1 _⟩
        case measure => simp [intOf]; omega
      · have hkn : k = n := by omega
        have KN := hide hkn
        have OW := hide hown
        clear hkn hown
        go_wp2
        go_ret
        refine ⟨ret_int (by rw [KN.out]), ?_, hnx⟩
        have h := OW.out
        rw [KN.out] at h
        unfold markedI at h
        rw [List.drop_eq_nil_of_le (by have := NN.out; omega), List.append_nil] at h
        exact h

theorem marksI_get (q : Int) : ∀ (n k : Nat), k < n → (marksI q n).getD k 0 = q + (k : Int)
  | 0, k, h => by omega
  | n + 1, k, h => by
    by_cases e : k = n
    · subst e
      simp [marksI, List.getD, marksI_length]
    · have := marksI_get q n k (by omega)
      have hk : k < (marksI q n).length := by rw [marksI_length]; omega
      simp only [marksI, List.getD, List.getElem?_append_left hk] at this ⊢
      exact this

set_option maxRecDepth 100000 in
set_option maxHeartbeats 1000000 in
theorem heldI_any (v : Value) (n : Nat) (q : Int) (w : World) (h1 : IntsAt w v (marksI q n) w.heap.size) (hn : n ≤ 1000000) (hq : -1000000 ≤ q) (hq2 : q ≤ 1000000000) :
    Calls Tryz.prog 39 #[v, .int .i64 q] w fun e w' => e = .returned (.int .i64 (q + (n : Int))) ∧ Below w.heap.size w w' := by
  obtain ⟨a1, c1, rfl, k1⟩ := h1
  rw [marksI_length] at k1 ⊢
  have K1 := hide k1
  clear k1
  go_enter Tryz.func39, Tryz.ntmps39
  go_wp2
  go_loopw [5, 1] (fun i r wr => ∃ k : Nat, k ≤ n ∧ i = .int .i64 k ∧ r = .int .i64 (q + (k : Int)) ∧ Below w.heap.size w wr) (fun i _ _ => n - (intOf i).toNat)
  case atStart => exact ⟨0, by omega, rfl, by simp, Below.refl _ _⟩
  case round =>
    obtain ⟨k, hk, rfl, rfl, hnx⟩ := hrel
    by_cases hlt : k < n
    · obtain ⟨b1, o1, ha1, hb1, d1⟩ : ∃ b1 o1, a1 = some ⟨b1, o1, none⟩ ∧ b1 < w.heap.size ∧ wr.cell? ⟨b1, o1 + k, none⟩ = some (.int .i64 (q + (k : Int))) := by
        rcases K1.out with h0 | ⟨b, off, ha, hb, hx⟩
        · omega
        · exact ⟨b, off, ha, hb, by rw [hnx.cell (p := ⟨b, off + k, none⟩) hb, hx k (by omega)]; simp only [intC, marksI_get q n k hlt]⟩
      subst ha1
      have hki : (0 : Int) ≤ (k : Int) := by omega
      have hkj : (k : Int) < (n : Int) := by omega
      go_wp2
      go_roundw
      case rel => exact ⟨k + 1, by omega, by go_num, by go_num, hnx⟩
      case measure => simp [intOf]; omega
    · have hkn : k = n := by omega
      have KN := hide hkn
      clear hkn
      go_wp2
      go_ret
      exact ⟨ret_int (by rw [KN.out]), hnx⟩

/-- cells of numbers, as rows of structs of one cell -/
def intE (z : Int) : List Value := [.int .i64 z]

theorem intE_len (z : Int) : (intE z).length = 1 := rfl

theorem flat_int (l : List Int) : flat intE l = intsOf l := by
  induction l with
  | nil => rfl
  | cons x l ih => rw [flat_cons, ih]; rfl

def HopsAt (W : World) (v : Value) (l : List Int) (B : Nat) : Prop := StructsAt intE 1 W v l B

theorem HopsAt.then {W W' : World} {v : Value} {l : List Int} (h : HopsAt W v l W.heap.size) (hb : Below W.heap.size W W') : HopsAt W' v l W'.heap.size := RowAt.then h hb

theorem HopsAt.shape {W : World} {v : Value} {l : List Int} {B : Nat} (h : HopsAt W v l B) : ∃ a cap, v = .slice a l.length cap := by obtain ⟨a, cap, h, _⟩ := h; exact ⟨a, cap, h⟩

theorem HopsAt.ints {W : World} {v : Value} {l : List Int} {B : Nat} (h : HopsAt W v l B) : IntsAt W v l B := by
  obtain ⟨a, cap, hv, h2⟩ := h
  refine ⟨a, cap, hv, ?_⟩
  rcases h2 with h0 | ⟨b, off, ha, hb, hx⟩
  · exact .inl h0
  · refine .inr ⟨b, off, ha, hb, fun j hj => ?_⟩
    rw [hx j hj, flat_int]
    have hj' : j < l.length := by omega
    simp [intsOf, intC, List.getD, List.getElem?_eq_getElem hj']

theorem HopsAt.cell {W : World} {v : Value} {l : List Int} {B : Nat} (h : HopsAt W v l B) (i : Nat) (z : Int) (hz : l[i]? = some z) : ∃ b off cap, v = .slice (some ⟨b, off, none⟩) l.length cap ∧ b < B ∧ W.cell? ⟨b, off + i, none⟩ = some (.int .i64 z) := by
  obtain ⟨b, off, cap, hv, hb, hc⟩ := StructsAt.cell h intE_len i z hz
  exact ⟨b, off, cap, hv, hb, by have := hc 0 _ rfl; simpa using this⟩

theorem hops_of {W : World} {base : Nat} {v : Value} {l : List Int} (h : W.ownsRow base 3 1 v l.length (flat intE l)) : HopsAt W v l W.heap.size := owns_rowAt h

set_option maxRecDepth 100000 in
set_option maxHeartbeats 1000000 in
theorem toIntS_any (v : Value) (ls : List Int) (w : World) (hls : ls.length ≤ 1048576) (hv : HopsAt w v ls w.heap.size) :
    Calls Tryz.prog 47 #[v] w fun e w' => ∃ x, e = .returned x ∧ w'.ownsRow w.heap.size 3 1 x ls.length (flat intE ls) ∧ Below w.heap.size w w' := by
  obtain ⟨a, cap, rfl⟩ := hv.shape
  have HV := hide hv
  clear hv
  obtain ⟨i0, hi, hz0, hz1, hz2⟩ := info_parts Tryz.info3
  have HI := hide hi
  have HZ := hide hz0
  clear hi hz0
  go_enter Tryz.func47, Tryz.ntmps47
  go_wp2_with (first
    | (refine wpList_make_structs intE_len (by omega) _ rfl _ _ 26 rfl w.heap.size 3 i0 (.int .i64 0) 0 rfl Tryz.underlying26 HI.out HZ.out hz1 ls.length rfl rfl (by rw [hz2]; omega) (by unfold maxLen; omega) (Nat.le_refl _) ?_))
  intro w1 hown hg
  have b1 : Below w.heap.size w w1 := (Below.refl _ _).grown hg (Nat.le_refl _) (fun k hk => by simp at hk)
  have OW := hide hown
  clear hown hg
  go_wp2
  go_loopw [4] (fun i wr => ∃ k : Nat, k ≤ ls.length ∧ i = .int .i64 k ∧ wr.ownsRow w.heap.size 3 1 (.slice (some ⟨w.heap.size, 0, none⟩) ls.length ls.length) ls.length (flat intE (part ls 0 k)) ∧ Below w.heap.size w wr) (fun i _ => ls.length - (intOf i).toNat)
  case atStart => exact ⟨0, by omega, rfl, (by simpa [part] using OW.out), b1⟩
  case round =>
    obtain ⟨k, hk, rfl, hown, hnx⟩ := hrel
    by_cases hlt : k < ls.length
    · obtain ⟨l, hl⟩ : ∃ l, ls[k]? = some l := ⟨ls[k], List.getElem?_eq_getElem hlt⟩
      obtain ⟨b, off, cap', hve, hbb, c0⟩ := HV.out.cell k l hl
      cases hve
      rw [← hnx.cell (p := ⟨b, off + k, none⟩) hbb] at c0
      have HL := hide hl
      have hki : (0 : Int) ≤ (k : Int) := by omega
      have hkj : (k : Int) < (ls.length : Int) := by omega
      have hex : ∃ u, wr.cell? ⟨w.heap.size, k, none⟩ = some u := by
        rw [hown.cellAt _ (by omega)]
        have hln : k < (flat intE (part ls 0 k)).length := by rw [hown.1]; omega
        exact ⟨_, List.getElem?_eq_getElem hln⟩
      obtain ⟨u0, d0⟩ := hex
      have f0 := hown.frozenAt k
      have OW3 := hide hown
      clear hown hl
      go_wp2
      refine ⟨⟨k + 1, by omega, by go_num, ?_, hnx.setCell (Nat.le_refl _) _⟩, by simp [intOf]; omega⟩
      have h4 := (OW3.out.stored k (.int .i64 l)).1
      have e4 : (flat intE (part ls 0 k)).set k (.int .i64 l) = flat intE (part ls 0 (k + 1)) := by
        rw [← part_step ls 0 l k HL.out]
        have e5 := flat_set intE_len (part ls 0 k) k l (by rw [part_len _ _ _ hk]; exact hlt)
        rw [Nat.mul_one] at e5
        rw [← e5]
        rfl
      rw [e4] at h4
      exact h4
    · have hkn : k = ls.length := by omega
      have KN := hide hkn
      have OW2 := hide hown
      clear hkn hown
      go_wp2
      go_ret
      refine ⟨_, rfl, ?_, hnx⟩
      have h := OW2.out
      rw [KN.out, part_all] at h
      exact h

set_option maxRecDepth 100000 in
set_option maxHeartbeats 1000000 in
theorem szIntS_any (a : Option Addr) (n c : Nat) (q : Int) (w : World) (hn : (n : Int) ≤ 9223372036854775807) (hq0 : 0 ≤ q) (hq : q ≤ 1048576) :
    Calls Tryz.prog 41 #[.slice a n c, .int .i64 q] w fun e w' => e = .returned (.int .i64 (if q - (n : Int) < 0 then -1 else q - (n : Int))) ∧ w = w' := by
  by_cases h : q - (n : Int) < 0
  · rw [if_pos h]
    go_enter Tryz.func41, Tryz.ntmps41
    go_wp2
    go_ret
    exact ⟨rfl, rfl⟩
  · rw [if_neg h]
    go_enter Tryz.func41, Tryz.ntmps41
    go_wp2
    go_ret
    exact ⟨rfl, rfl⟩
end Go.Proofs.YtimbeeinognjbaaGreatDoor
namespace Go.Proofs.YtimbeeinognjbaaGreatDoor
open Go.RowKit

structure WayD where
  to : Int
  cost : Int
  hops : List Int
  deriving DecidableEq

def wayC (x : WayD) (v : Value) : Array Value := #[.int .i64 x.to, .int .i64 x.cost, v]

/-- the value v is the way x, whose row lies below B -/
def WayAt (W : World) (v : Value) (x : WayD) (B : Nat) : Prop := ∃ v1, v = .agg (wayC x v1) ∧ HopsAt W v1 x.hops B

theorem WayAt.then {W W' : World} {v : Value} {x : WayD} (h : WayAt W v x W.heap.size) (hb : Below W.heap.size W W') : WayAt W' v x W'.heap.size := by
  obtain ⟨v1, hv, h1⟩ := h
  exact ⟨v1, hv, h1.then hb⟩

theorem wayAt_of {W : World} {lo : Nat} {x : WayD} {u : Value} (h : W.ownsRow lo 3 1 u x.hops.length (flat intE x.hops)) : WayAt W (.agg (wayC x u)) x W.heap.size := ⟨u, rfl, hops_of h⟩

def szW (q : Int) (n : Nat) : Int := if q - (n : Int) < 0 then -1 else q - (n : Int)

theorem szW_neg {q : Int} {n : Nat} : szW q n < 0 ∨ (0 ≤ szW q n ∧ szW q n = q - (n : Int)) := by
  unfold szW
  split <;> omega

end Go.Proofs.YtimbeeinognjbaaGreatDoor
