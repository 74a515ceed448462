/-
  Records as values; laws.toRecord, eqRecord, szRecord.
  laws.markNearS, heldNearS, markRecord, heldRecord: only the row's own memory turns; what was marked is held.
  'append(out, x)' of a struct of four cells, out a row that the call itself made.
  Lists of records, each with a row of its own.
-/
import Derived.Test.YtcimbiinljcifaaGreatLe2
import Derived.Test.YtcimbiinljcifaaGreatLe1
namespace Go.Proofs.YtcimbiinljcifaaGreat
open Go.RowKit

structure RecD where
  area : Int
  kind : Int
  owner : Int
  key : Int
  seq : Int
  near : List Nr
  cost : Int
  far : Bool
  deriving DecidableEq

def recC (x : RecD) (v : Value) : Array Value := #[.int .i64 x.area, .int .i64 x.kind, .int .i64 x.owner, .int .i64 x.key, .int .i64 x.seq, v, .int .i64 x.cost, .bool x.far]

/-- the value v is the record x, whose row lies below B -/
def RecAt (W : World) (v : Value) (x : RecD) (B : Nat) : Prop := ∃ v1, v = .agg (recC x v1) ∧ NearsAt W v1 x.near B

theorem RecAt.then {W W' : World} {v : Value} {x : RecD} (h : RecAt W v x W.heap.size) (hb : Below W.heap.size W W') : RecAt W' v x W'.heap.size := by
  obtain ⟨v1, hv, h1⟩ := h
  exact ⟨v1, hv, h1.then hb⟩

def szR (q : Int) (n : Nat) : Int := if q - (n : Int) < 0 then -1 else q - (n : Int)

set_option maxRecDepth 100000 in
set_option maxHeartbeats 1000000 in
theorem szRecord_any (x : RecD) (a : Option Addr) (n c : Nat) (q : Int) (w : World) (hn : (n : Int) ≤ 9223372036854775807) (hq0 : 0 ≤ q) (hq : q ≤ 1048576) :
    Calls Tryz.prog 44 #[.agg (recC x (.slice a n c)), .int .i64 q] w fun e w' => e = .returned (.int .i64 (szR q n)) ∧ Below w.heap.size w w' := by
  unfold szR recC
  have HS := hide (szNearS_any a n c q)
  by_cases h : q - (n : Int) < 0
  · rw [if_pos h] at HS ⊢
    go_enter Tryz.func44, Tryz.ntmps44
    go_wp2_with fail
    refine (HS.out _ hn hq0 hq).mono ?_
    rintro e w1 ⟨rfl, rfl⟩
    go_wp2
    go_ret
    exact ⟨rfl, (Below.refl _ _).alloc (Nat.le_refl _) _⟩
  · rw [if_neg h] at HS ⊢
    go_enter Tryz.func44, Tryz.ntmps44
    go_wp2_with fail
    refine (HS.out _ hn hq0 hq).mono ?_
    rintro e w1 ⟨rfl, rfl⟩
    go_wp2
    go_ret
    exact ⟨rfl, (Below.refl _ _).alloc (Nat.le_refl _) _⟩

set_option maxRecDepth 100000 in
set_option maxHeartbeats 4000000 in
theorem toRecord_any (v : Value) (x : RecD) (w : World) (hl : x.near.length ≤ 1048576) (hv : RecAt w v x w.heap.size) :
    Calls Tryz.prog 47 #[v] w fun e w' => ∃ v1, e = .returned (.agg (recC x v1)) ∧ w'.ownsRow w.heap.size 98 2 v1 x.near.length (flat nrE x.near) ∧ Below w.heap.size w w' := by
  obtain ⟨u1, rfl, h1⟩ := hv
  obtain ⟨a1, c1, rfl⟩ := h1.shape
  have H1 := hide h1
  clear h1
  unfold recC
  go_enter Tryz.func47, Tryz.ntmps47
  go_wp2_with fail
  have hw0 := heap3_0 w (.cells #[.int .i64 x.area, .int .i64 x.kind, .int .i64 x.owner, .int .i64 x.key, .int .i64 x.seq, .slice a1 x.near.length c1, .int .i64 x.cost, .bool x.far] 80) (.cells #[.int .i64 0, .int .i64 0, .int .i64 0, .int .i64 0, .int .i64 0, .slice none 0 0, .int .i64 0, .bool false] 40) (.cells #[.int .i64 x.area, .int .i64 x.kind, .int .i64 x.owner, .int .i64 x.key, .int .i64 x.seq, .slice none 0 0, .int .i64 0, .bool false] 40)
  have hw1 := heap3_1 w (.cells #[.int .i64 x.area, .int .i64 x.kind, .int .i64 x.owner, .int .i64 x.key, .int .i64 x.seq, .slice a1 x.near.length c1, .int .i64 x.cost, .bool x.far] 80) (.cells #[.int .i64 0, .int .i64 0, .int .i64 0, .int .i64 0, .int .i64 0, .slice none 0 0, .int .i64 0, .bool false] 40) (.cells #[.int .i64 x.area, .int .i64 x.kind, .int .i64 x.owner, .int .i64 x.key, .int .i64 x.seq, .slice none 0 0, .int .i64 0, .bool false] 40)
  have hw2 := heap3_2 w (.cells #[.int .i64 x.area, .int .i64 x.kind, .int .i64 x.owner, .int .i64 x.key, .int .i64 x.seq, .slice a1 x.near.length c1, .int .i64 x.cost, .bool x.far] 80) (.cells #[.int .i64 0, .int .i64 0, .int .i64 0, .int .i64 0, .int .i64 0, .slice none 0 0, .int .i64 0, .bool false] 40) (.cells #[.int .i64 x.area, .int .i64 x.kind, .int .i64 x.owner, .int .i64 x.key, .int .i64 x.seq, .slice none 0 0, .int .i64 0, .bool false] 40)
  have bw := below_three (w := w) (.cells #[.int .i64 x.area, .int .i64 x.kind, .int .i64 x.owner, .int .i64 x.key, .int .i64 x.seq, .slice a1 x.near.length c1, .int .i64 x.cost, .bool x.far] 80) (.cells #[.int .i64 0, .int .i64 0, .int .i64 0, .int .i64 0, .int .i64 0, .slice none 0 0, .int .i64 0, .bool false] 40) (.cells #[.int .i64 x.area, .int .i64 x.kind, .int .i64 x.owner, .int .i64 x.key, .int .i64 x.seq, .slice none 0 0, .int .i64 0, .bool false] 40)
  generalize (((w.alloc (.cells #[.int .i64 x.area, .int .i64 x.kind, .int .i64 x.owner, .int .i64 x.key, .int .i64 x.seq, .slice a1 x.near.length c1, .int .i64 x.cost, .bool x.far] 80)).alloc (.cells #[.int .i64 0, .int .i64 0, .int .i64 0, .int .i64 0, .int .i64 0, .slice none 0 0, .int .i64 0, .bool false] 40)).alloc (.cells #[.int .i64 x.area, .int .i64 x.kind, .int .i64 x.owner, .int .i64 x.key, .int .i64 x.seq, .slice none 0 0, .int .i64 0, .bool false] 40)) = w1 at *
  refine (toNearS_any _ x.near w1 hl (H1.out.then bw)).mono ?_
  rintro e w2 ⟨v1, rfl, ho1, b2⟩
  obtain ⟨p1, q1, rfl⟩ := owns_lenS ho1
  have l2 := lt_of_heap hw2
  rw [← b2.block _ (lt_of_heap hw0)] at hw0
  rw [← b2.block _ (lt_of_heap hw1)] at hw1
  rw [← b2.block _ l2] at hw2
  have hb12 : w.heap.size ≤ w1.heap.size := bw.size
  have bw2 : Below w.heap.size w w2 := bw.trans (b2.mono hb12)
  have s6 := cells_at hw0 6
  have s7 := cells_at hw0 7
  have t0 := cells_at hw2 0
  have t1 := cells_at hw2 1
  have t2 := cells_at hw2 2
  have t3 := cells_at hw2 3
  have t4 := cells_at hw2 4
  have t5 := cells_at hw2 5
  have t6 := cells_at hw2 6
  have t7 := cells_at hw2 7
  have r0 := cells_at hw1 0
  have r1 := cells_at hw1 1
  have r2 := cells_at hw1 2
  have r3 := cells_at hw1 3
  have r4 := cells_at hw1 4
  have r5 := cells_at hw1 5
  have r6 := cells_at hw1 6
  have r7 := cells_at hw1 7
  simp at s6 s7 t0 t1 t2 t3 t4 t5 t6 t7 r0 r1 r2 r3 r4 r5 r6 r7
  have f2 := frozen_at hw2
  have f1 := frozen_at hw1
  have O1 := hide ho1
  have HW1 := hide hw1
  clear ho1 hw0 hw1 hw2 H1
  go_wp2
  have k0 : (((w2.setCell ⟨w.heap.size + 1 + 1, 5, none⟩ (.slice p1 x.near.length q1)).setCell ⟨w.heap.size + 1 + 1, 6, none⟩ (.int .i64 x.cost)).setCell ⟨w.heap.size + 1 + 1, 7, none⟩ (.bool x.far)).heap[w.heap.size + 1]? = some (.cells #[.int .i64 0, .int .i64 0, .int .i64 0, .int .i64 0, .int .i64 0, .slice none 0 0, .int .i64 0, .bool false] 40) := by
    rw [heap_setCell_other _ ⟨w.heap.size + 1 + 1, 7, none⟩ _ _ (by show w.heap.size + 1 ≠ w.heap.size + 1 + 1; omega), heap_setCell_other _ ⟨w.heap.size + 1 + 1, 6, none⟩ _ _ (by show w.heap.size + 1 ≠ w.heap.size + 1 + 1; omega), heap_setCell_other _ ⟨w.heap.size + 1 + 1, 5, none⟩ _ _ (by show w.heap.size + 1 ≠ w.heap.size + 1 + 1; omega)]
    exact HW1.out
  have k1 := heap_setCell_same _ _ 0 _ _ (.int .i64 x.area) k0
  have k2 := heap_setCell_same _ _ 1 _ _ (.int .i64 x.kind) k1
  have k3 := heap_setCell_same _ _ 2 _ _ (.int .i64 x.owner) k2
  have k4 := heap_setCell_same _ _ 3 _ _ (.int .i64 x.key) k3
  have k5 := heap_setCell_same _ _ 4 _ _ (.int .i64 x.seq) k4
  have k6 := heap_setCell_same _ _ 5 _ _ (.slice p1 x.near.length q1) k5
  have k7 := heap_setCell_same _ _ 6 _ _ (.int .i64 x.cost) k6
  have k8 := heap_setCell_same _ _ 7 _ _ (.bool x.far) k7
  have hfin := k8
  clear k0 k1 k2 k3 k4 k5 k6 k7 k8
  (try simp only [Exit.inBlock, Exit.then])
  refine bodyPost_ret (results_cell_row rfl _ _ (w.heap.size + 1) 40 #[.int .i64 x.area, .int .i64 x.kind, .int .i64 x.owner, .int .i64 x.key, .int .i64 x.seq, .slice p1 x.near.length q1, .int .i64 x.cost, .bool x.far] (0, 0) _ rfl hfin Tryz.underlying40 rfl (by kernel_rfl)) rfl ?_
  refine ⟨_, rfl, ?_, ?_⟩
  · refine owns_baseS (b1 := w1.heap.size) ?_ (by omega)
    repeat (refine owns_set ?_ (by omega))
    exact O1.out
  · repeat (refine Below.setCell ?_ (by first | (show w.heap.size ≤ w.heap.size + 1 + 1; omega) | (show w.heap.size ≤ w.heap.size + 1; omega)) _)
    exact bw2

set_option maxRecDepth 100000 in
set_option maxHeartbeats 4000000 in
theorem eqRecord_any (v1 v2 : Value) (x y : RecD) (w : World) (h1 : RecAt w v1 x w.heap.size) (h2 : RecAt w v2 y w.heap.size) (hl : x.near.length ≤ 1048576) :
    Calls Tryz.prog 50 #[v1, v2] w fun e w' => e = .returned (.bool (decide (x = y))) ∧ Below w.heap.size w w' := by
  obtain ⟨a0, a1, a2, a3, a4, ns, a6, a7⟩ := x
  obtain ⟨b0, b1, b2, b3, b4, ms, b6, b7⟩ := y
  obtain ⟨u1, rfl, k1⟩ := h1
  obtain ⟨u2, rfl, k2⟩ := h2
  simp only [] at k1 k2 hl
  have K1 := hide k1
  have K2 := hide k2
  clear k1 k2
  unfold recC
  simp only []
  by_cases h0 : a0 = b0
  case neg =>
    have hd : (a0 != b0) = true := by simpa using h0
    have hne : decide ((⟨a0, a1, a2, a3, a4, ns, a6, a7⟩ : RecD) = ⟨b0, b1, b2, b3, b4, ms, b6, b7⟩) = false := decide_eq_false (fun h => by cases h; exact h0 rfl)
    rw [hne]
    clear hne
    go_enter Tryz.func50, Tryz.ntmps50
    go_wp2
    go_ret
    exact ⟨rfl, below_two _ _⟩
  subst h0
  by_cases h1 : a1 = b1
  case neg =>
    have hd : (a1 != b1) = true := by simpa using h1
    have hne : decide ((⟨a0, a1, a2, a3, a4, ns, a6, a7⟩ : RecD) = ⟨a0, b1, b2, b3, b4, ms, b6, b7⟩) = false := decide_eq_false (fun h => by cases h; exact h1 rfl)
    rw [hne]
    clear hne
    go_enter Tryz.func50, Tryz.ntmps50
    go_wp2
    go_ret
    exact ⟨rfl, below_two _ _⟩
  subst h1
  by_cases h2 : a2 = b2
  case neg =>
    have hd : (a2 != b2) = true := by simpa using h2
    have hne : decide ((⟨a0, a1, a2, a3, a4, ns, a6, a7⟩ : RecD) = ⟨a0, a1, b2, b3, b4, ms, b6, b7⟩) = false := decide_eq_false (fun h => by cases h; exact h2 rfl)
    rw [hne]
    clear hne
    go_enter Tryz.func50, Tryz.ntmps50
    go_wp2
    go_ret
    exact ⟨rfl, below_two _ _⟩
  subst h2
  by_cases h3 : a3 = b3
  case neg =>
    have hd : (a3 != b3) = true := by simpa using h3
    have hne : decide ((⟨a0, a1, a2, a3, a4, ns, a6, a7⟩ : RecD) = ⟨a0, a1, a2, b3, b4, ms, b6, b7⟩) = false := decide_eq_false (fun h => by cases h; exact h3 rfl)
    rw [hne]
    clear hne
    go_enter Tryz.func50, Tryz.ntmps50
    go_wp2
    go_ret
    exact ⟨rfl, below_two _ _⟩
  subst h3
  by_cases h4 : a4 = b4
  case neg =>
    have hd : (a4 != b4) = true := by simpa using h4
    have hne : decide ((⟨a0, a1, a2, a3, a4, ns, a6, a7⟩ : RecD) = ⟨a0, a1, a2, a3, b4, ms, b6, b7⟩) = false := decide_eq_false (fun h => by cases h; exact h4 rfl)
    rw [hne]
    clear hne
    go_enter Tryz.func50, Tryz.ntmps50
    go_wp2
    go_ret
    exact ⟨rfl, below_two _ _⟩
  subst h4
  go_enter Tryz.func50, Tryz.ntmps50
  go_wp2_with fail
  refine (eqNearS_any u1 u2 ns ms _ (K1.out.then (below_two _ _)) (K2.out.then (below_two _ _)) hl).mono ?_
  rintro e w1 ⟨rfl, bb1⟩
  have bw1 : Below w.heap.size w w1 := (below_two _ _).trans (bb1.mono (by simp; omega))
  have hw0 : w1.heap[w.heap.size]? = some (.cells #[.int .i64 a0, .int .i64 a1, .int .i64 a2, .int .i64 a3, .int .i64 a4, u1, .int .i64 a6, .bool a7] 40) := by
    rw [bb1.block _ (by simp; omega), Below.heap_alloc _ _ _ (by simp), heap_alloc_new]
  have hw1 : w1.heap[w.heap.size + 1]? = some (.cells #[.int .i64 a0, .int .i64 a1, .int .i64 a2, .int .i64 a3, .int .i64 a4, u2, .int .i64 b6, .bool b7] 40) := by
    rw [bb1.block _ (by simp)]
    have := heap_alloc_new (w.alloc (.cells #[.int .i64 a0, .int .i64 a1, .int .i64 a2, .int .i64 a3, .int .i64 a4, u1, .int .i64 a6, .bool a7] 40)) (.cells #[.int .i64 a0, .int .i64 a1, .int .i64 a2, .int .i64 a3, .int .i64 a4, u2, .int .i64 b6, .bool b7] 40)
    simpa using this
  have s6 := cells_at hw0 6
  have s7 := cells_at hw0 7
  have t6 := cells_at hw1 6
  have t7 := cells_at hw1 7
  simp at s6 s7 t6 t7
  clear bb1 hw0 hw1
  by_cases hns : ns = ms
  case neg =>
    rw [decide_eq_false hns]
    have hne : decide ((⟨a0, a1, a2, a3, a4, ns, a6, a7⟩ : RecD) = ⟨a0, a1, a2, a3, a4, ms, b6, b7⟩) = false := decide_eq_false (fun h => by cases h; exact hns rfl)
    have HNE := hide hne
    clear hne
    go_wp2
    go_ret
    exact ⟨by rw [HNE.out]; rfl, bw1⟩
  subst hns
  rw [decide_eq_true (rfl : ns = ns)]
  by_cases h6 : a6 = b6
  case neg =>
    have hd : (a6 != b6) = true := by simpa using h6
    have hne : decide ((⟨a0, a1, a2, a3, a4, ns, a6, a7⟩ : RecD) = ⟨a0, a1, a2, a3, a4, ns, b6, b7⟩) = false := decide_eq_false (fun h => by cases h; exact h6 rfl)
    have HNE := hide hne
    clear hne
    go_wp2
    go_ret
    exact ⟨by rw [HNE.out]; rfl, bw1⟩
  subst h6
  cases a7 <;> cases b7
  all_goals
    go_wp2
    go_ret
    exact ⟨by simp, bw1⟩
end Go.Proofs.YtcimbiinljcifaaGreat
namespace Go.Proofs.YtcimbiinljcifaaGreat
open Go.RowKit

def mk (q : Int) (i : Nat) : Nr := ⟨q + 2 * (i : Int), q + 2 * (i : Int) + 1⟩

def marks (q : Int) (n : Nat) : List Nr := (List.range n).map (mk q)

theorem marks_len (q : Int) (n : Nat) : (marks q n).length = n := by simp [marks]

theorem marks_all {q : Int} {n : Nat} {ys : List Nr} (hl : ys.length = n) (h : ∀ j, j < n → ys[j]? = some (mk q j)) : ys = marks q n := by
  apply List.ext_getElem?
  intro i
  by_cases hi : i < n
  · rw [h i hi]
    simp [marks, hi]
  · rw [List.getElem?_eq_none (by omega), List.getElem?_eq_none (by rw [marks_len]; omega)]

theorem owns_shapeS {w : World} {base size : Nat} {e : TypeId} {v : Value} {n : Nat} {xs : List Value} (h : w.ownsRow base e size v n xs) (hn : 0 < n) :
    ∃ g cap, v = .slice (some ⟨g, 0, none⟩) n cap ∧ base ≤ g ∧ g < w.heap.size := by
  rcases h.2 with ⟨_, h0⟩ | ⟨g, cap, cur, hv, hb, hg, _⟩
  · omega
  · exact ⟨g, cap, hv, hb, lt_of_heap hg⟩

theorem own_cell {w : World} {base size g cap : Nat} {e : TypeId} {n : Nat} {xs : List Value} (h : w.ownsRow base e size (.slice (some ⟨g, 0, none⟩) n cap) n xs) (j : Nat) (hj : j < n * size) : ∃ u, w.cell? ⟨g, j, none⟩ = some u := by
  rw [h.cellAt j hj]
  have hl : j < xs.length := by rw [h.1]; exact hj
  exact ⟨_, List.getElem?_eq_getElem hl⟩

theorem grown_refl (w : World) (r : Option Nat) : w.grownBy w r := ⟨rfl, rfl, rfl, Nat.le_refl _, fun _ _ _ => rfl⟩

theorem ret_int1 {a b : Int} (h : a = b) : Ending.returned (.int .i64 a) = .returned (.int .i64 b) := by rw [h]

set_option maxRecDepth 100000 in
set_option maxHeartbeats 1000000 in
theorem markNearS_any (v : Value) (base n : Nat) (ns : List Nr) (q : Int) (w : World) (hn0 : ns.length = n) (h1 : w.ownsRow base 98 2 v n (flat nrE ns)) (hn : n ≤ 1048576) (hq : 0 ≤ q) (hq2 : q ≤ 1000000000) :
    Calls Tryz.prog 53 #[v, .int .i64 q] w fun e w' => e = .returned (.int .i64 (q + 2 * (n : Int))) ∧ w'.ownsRow base 98 2 v n (flat nrE (marks q n)) ∧ w.grownBy w' v.ownBlock := by
  by_cases h0 : n = 0
  · subst h0
    obtain ⟨a1, c1, rfl⟩ := owns_lenS h1
    have hnn : ns = [] := List.length_eq_zero_iff.1 hn0
    have H1 := hide h1
    rw [hnn] at H1
    clear h1 hn0 hnn
    go_enter Tryz.func53, Tryz.ntmps53
    go_wp2
    refine wp_loop_rounds 1 ?_
    rw [rounds_succ]
    go_wp2
    go_ret
    exact ⟨by simp, H1.out, grown_refl _ _⟩
  · obtain ⟨g1, c1, rfl, hg1, hl1⟩ := owns_shapeS h1 (by omega)
    have H1 := hide h1
    have HN0 := hide hn0
    clear h1 h0 hn0
    go_enter Tryz.func53, Tryz.ntmps53
    go_wp2
    go_loopw [5, 1] (fun i r wr => ∃ (k : Nat) (ys : List Nr), k ≤ n ∧ i = .int .i64 k ∧ r = .int .i64 (q + 2 * (k : Int)) ∧ ys.length = n ∧ (∀ j, j < k → ys[j]? = some (mk q j)) ∧ wr.ownsRow base 98 2 (.slice (some ⟨g1, 0, none⟩) n c1) n (flat nrE ys) ∧ w.grownBy wr (some g1)) (fun i _ _ => n - (intOf i).toNat)
    case atStart => exact ⟨0, ns, by omega, rfl, by simp, HN0.out, by omega, H1.out, grown_refl _ _⟩
    case round =>
      clear H1
      obtain ⟨k, ys, hk, rfl, rfl, hyl, hys, hown, hnx⟩ := hrel
      by_cases hlt : k < n
      · have hki : (0 : Int) ≤ (k : Int) := by omega
        have hkj : (k : Int) < (n : Int) := by omega
        obtain ⟨u0, d0⟩ := own_cell hown (k * 2) (by omega)
        obtain ⟨u1, d1⟩ := own_cell hown (k * 2 + 1) (by omega)
        have f0 := hown.frozenAt (k * 2)
        have f1 := hown.frozenAt (k * 2 + 1)
        have st := ((hown.stored (k * 2) (.int .i64 (q + 2 * (k : Int)))).1.stored (k * 2 + 1) (.int .i64 (q + 2 * (k : Int) + 1))).1
        have e1 : ((flat nrE ys).set (k * 2) (.int .i64 (q + 2 * (k : Int)))).set (k * 2 + 1) (.int .i64 (q + 2 * (k : Int) + 1)) = flat nrE (ys.set k (mk q k)) := flat_set nrE_len ys k (mk q k) (by omega)
        rw [e1] at st
        have ST := hide st
        have HYL := hide hyl
        have HYS := hide hys
        clear hown st e1 hyl hys
        go_wp2
        refine ⟨⟨k + 1, ys.set k (mk q k), by omega, by go_num, by go_num, by simp [HYL.out], ?_, ST.out, grown_trans (grown_trans hnx (grown_set _ _ _ _)) (grown_set _ _ _ _)⟩, by simp [intOf]; omega⟩
        intro j hj
        by_cases e : j = k
        · subst e
          rw [List.getElem?_set_self (by rw [HYL.out]; exact hlt)]
        · rw [List.getElem?_set_ne (by omega)]
          exact HYS.out j (by omega)
      · have hkn : k = n := by omega
        have hm : ys = marks q n := marks_all hyl (by rw [← hkn]; exact hys)
        have OW := hide hown
        have HM := hide hm
        have KN := hide hkn
        clear hkn hown hm hyl hys
        go_wp2
        go_ret
        exact ⟨ret_int1 (by rw [KN.out]), by rw [← HM.out]; exact OW.out, hnx⟩

set_option maxRecDepth 100000 in
set_option maxHeartbeats 1000000 in
theorem heldNearS_any (v : Value) (n : Nat) (q : Int) (w : World) (h1 : NearsAt w v (marks q n) w.heap.size) (hn : n ≤ 1048576) (hq : 0 ≤ q) (hq2 : q ≤ 1000000000) :
    Calls Tryz.prog 56 #[v, .int .i64 q] w fun e w' => e = .returned (.int .i64 (q + 2 * (n : Int))) ∧ w = w' := by
  obtain ⟨a, cap, rfl⟩ := h1.shape
  rw [marks_len] at *
  have H1 := hide h1
  clear h1
  go_enter Tryz.func56, Tryz.ntmps56
  go_wp2
  go_loop [5, 1] (fun i r => ∃ k : Nat, k ≤ n ∧ i = .int .i64 k ∧ r = .int .i64 (q + 2 * (k : Int))) (fun i _ => n - (intOf i).toNat)
  case atStart => exact ⟨0, by omega, rfl, by simp⟩
  case round =>
    obtain ⟨k, hk, rfl, rfl⟩ := hrel
    by_cases hlt : k < n
    · have hki : (0 : Int) ≤ (k : Int) := by omega
      have hkj : (k : Int) < (n : Int) := by omega
      obtain ⟨b, off, cap', hve, hbb, s0, s1⟩ := H1.out.cells k (mk q k) (by simp [marks, hlt])
      rw [marks_len] at hve
      cases hve
      simp only [mk] at s0 s1
      go_wp2
      go_round
      case rel => exact ⟨k + 1, by omega, by go_num, by go_num⟩
      case measure => simp [intOf]; omega
    · have hkn : k = n := by omega
      have KN := hide hkn
      clear hkn
      go_wp2
      go_ret
      exact ⟨ret_int1 (by rw [KN.out]), rfl⟩
end Go.Proofs.YtcimbiinljcifaaGreat
namespace Go.Proofs.YtcimbiinljcifaaGreat
open Go.RowKit

theorem flat_append {α : Type} {enc : α → List Value} (xs ys : List α) : flat enc (xs ++ ys) = flat enc xs ++ flat enc ys := by simp [flat]

theorem news_struct {w : World} {cs : List Value} {t : TypeId} : ∀ (j : Nat) (u : Value), cs[j]? = some u → (w.alloc (.cells cs.toArray t)).cell? ((⟨w.heap.size, 0, none⟩ : Addr).add j) = some u := by
  intro j u hj
  have e : (⟨w.heap.size, 0, none⟩ : Addr).add j = ⟨w.heap.size, j, none⟩ := by
    simp only [Addr.add]
    split <;> simp_all
  rw [e, World.cell?_alloc_at _ _ _ _ rfl]
  simpa using hj
end Go.Proofs.YtcimbiinljcifaaGreat
namespace Go.Proofs.YtcimbiinljcifaaGreat
open Go.RowKit

/-- a record, and the value of its row -/
abbrev RP := RecD × Value

def encP (p : RP) : List Value := [.int .i64 p.1.area, .int .i64 p.1.kind, .int .i64 p.1.owner, .int .i64 p.1.key, .int .i64 p.1.seq, p.2, .int .i64 p.1.cost, .bool p.1.far]

theorem encP_len (p : RP) : (encP p).length = 8 := rfl

def zeroRD : RecD := ⟨0, 0, 0, 0, 0, [], 0, false⟩

def zP : RP := (zeroRD, .slice none 0 0)

/-- a list to read: its cells, and each record's row, below B -/
def RecsAt (W : World) (v : Value) (ps : List RP) (B : Nat) : Prop := StructsAt encP 8 W v ps B ∧ ∀ p ∈ ps, NearsAt W p.2 p.1.near B

theorem RecsAt.shape {W : World} {v : Value} {ps : List RP} {B : Nat} (h : RecsAt W v ps B) : ∃ a cap, v = .slice a ps.length cap := by
  obtain ⟨⟨a, cap, h, _⟩, _⟩ := h
  exact ⟨a, cap, h⟩

theorem RecsAt.later {W W' : World} {v : Value} {ps : List RP} {B C : Nat} (h : RecsAt W v ps B) (hb : Below C W W') (hBC : B ≤ C) : RecsAt W' v ps B :=
  ⟨RowAt.later h.1 hb hBC, fun p hp => RowAt.later (h.2 p hp) hb hBC⟩

theorem RecsAt.more {W : World} {v : Value} {ps : List RP} {B C : Nat} (h : RecsAt W v ps B) (hBC : B ≤ C) : RecsAt W v ps C :=
  ⟨RowAt.more h.1 hBC, fun p hp => RowAt.more (h.2 p hp) hBC⟩

theorem RecsAt.then {W W' : World} {v : Value} {ps : List RP} (h : RecsAt W v ps W.heap.size) (hb : Below W.heap.size W W') : RecsAt W' v ps W'.heap.size := (h.later hb (Nat.le_refl _)).more hb.size

theorem RecsAt.cells {W : World} {v : Value} {ps : List RP} {B : Nat} (h : RecsAt W v ps B) (i : Nat) (p : RP) (hp : ps[i]? = some p) :
    ∃ b off cap, v = .slice (some ⟨b, off, none⟩) ps.length cap ∧ b < B ∧ W.cell? ⟨b, off + i * 8, none⟩ = some (.int .i64 p.1.area) ∧ W.cell? ⟨b, off + i * 8 + 1, none⟩ = some (.int .i64 p.1.kind) ∧ W.cell? ⟨b, off + i * 8 + 2, none⟩ = some (.int .i64 p.1.owner) ∧ W.cell? ⟨b, off + i * 8 + 3, none⟩ = some (.int .i64 p.1.key) ∧ W.cell? ⟨b, off + i * 8 + 4, none⟩ = some (.int .i64 p.1.seq) ∧ W.cell? ⟨b, off + i * 8 + 5, none⟩ = some p.2 ∧ W.cell? ⟨b, off + i * 8 + 6, none⟩ = some (.int .i64 p.1.cost) ∧ W.cell? ⟨b, off + i * 8 + 7, none⟩ = some (.bool p.1.far) ∧ NearsAt W p.2 p.1.near B := by
  obtain ⟨b, off, cap, hv, hb, hc⟩ := StructsAt.cell h.1 encP_len i p hp
  exact ⟨b, off, cap, hv, hb, hc 0 _ rfl, hc 1 _ rfl, hc 2 _ rfl, hc 3 _ rfl, hc 4 _ rfl, hc 5 _ rfl, hc 6 _ rfl, hc 7 _ rfl, h.2 p (List.mem_of_getElem? hp)⟩

/-- its row is the caller's own, in blocks of lo .. hi -/
def NearOwn (W : World) (lo hi : Nat) (p : RP) : Prop := W.ownsRow lo 98 2 p.2 p.1.near.length (flat nrE p.1.near) ∧ ∀ k, p.2.ownBlock = some k → k < hi

def Apart (p q : RP) : Prop := ∀ k, p.2.ownBlock = some k → q.2.ownBlock ≠ some k

/-- a list of the caller's own: its row and those of its records, no two in one block, all in blocks of lo .. hi -/
structure RecsOwn (W : World) (lo hi : Nat) (v : Value) (ps : List RP) : Prop where
  row : W.ownsRow lo 40 8 v ps.length (flat encP ps)
  top : ∀ k, v.ownBlock = some k → k < hi
  nears : ∀ p ∈ ps, NearOwn W lo hi p
  apart : ps.Pairwise Apart

theorem owns_keepB {W W' : World} {base size : Nat} {e : TypeId} {v : Value} {n : Nat} {xs : List Value} (h : W.ownsRow base e size v n xs) (hk : ∀ k, v.ownBlock = some k → W'.heap[k]? = W.heap[k]?) : W'.ownsRow base e size v n xs := by
  refine ⟨h.1, ?_⟩
  rcases h.2 with h2 | ⟨g, cap, cur, hv, hg, hh, r⟩
  · exact .inl h2
  · exact .inr ⟨g, cap, cur, hv, hg, by rw [hk g (by rw [hv]; rfl)]; exact hh, r⟩

theorem NearOwn.keep {W W' : World} {lo hi : Nat} {p : RP} (h : NearOwn W lo hi p) (hk : ∀ k, lo ≤ k → k < hi → k < W.heap.size → W'.heap[k]? = W.heap[k]?) : NearOwn W' lo hi p :=
  ⟨owns_keepB h.1 (fun k e => hk k (h.1.lt k e).1 (h.2 k e) (h.1.lt k e).2), h.2⟩

theorem NearOwn.wide {W : World} {lo hi lo' hi' : Nat} {p : RP} (h : NearOwn W lo hi p) (hl : lo' ≤ lo) (hh : hi ≤ hi') : NearOwn W lo' hi' p :=
  ⟨owns_baseS h.1 hl, fun k e => Nat.lt_of_lt_of_le (h.2 k e) hh⟩

theorem NearOwn.at {W : World} {lo hi : Nat} {p : RP} (h : NearOwn W lo hi p) : NearsAt W p.2 p.1.near hi := by
  have h1 := owns_rowAt h.1
  obtain ⟨a, cap, hv, h2⟩ := h1
  refine ⟨a, cap, hv, ?_⟩
  rcases h2 with h0 | ⟨b, off, ha, hb1, hx⟩
  · exact .inl h0
  · exact .inr ⟨b, off, ha, h.2 b (by rw [hv, ha]; rfl), hx⟩

theorem RecsOwn.keep {W W' : World} {lo hi : Nat} {v : Value} {ps : List RP} (h : RecsOwn W lo hi v ps) (hk : ∀ k, lo ≤ k → k < hi → k < W.heap.size → W'.heap[k]? = W.heap[k]?) : RecsOwn W' lo hi v ps where
  row := owns_keepB h.row (fun k e => hk k (h.row.lt k e).1 (h.top k e) (h.row.lt k e).2)
  top := h.top
  nears := fun p hp => (h.nears p hp).keep hk
  apart := h.apart

theorem RecsOwn.below {W W' : World} {lo hi B : Nat} {v : Value} {ps : List RP} (h : RecsOwn W lo hi v ps) (hb : Below B W W') (hB : hi ≤ B) : RecsOwn W' lo hi v ps := h.keep (fun k _ h2 _ => hb.block k (by omega))

theorem RecsOwn.wide {W : World} {lo hi lo' hi' : Nat} {v : Value} {ps : List RP} (h : RecsOwn W lo hi v ps) (hl : lo' ≤ lo) (hh : hi ≤ hi') : RecsOwn W lo' hi' v ps where
  row := owns_baseS h.row hl
  top := fun k e => Nat.lt_of_lt_of_le (h.top k e) hh
  nears := fun p hp => (h.nears p hp).wide hl hh
  apart := h.apart

theorem RecsOwn.at {W : World} {lo hi : Nat} {v : Value} {ps : List RP} (h : RecsOwn W lo hi v ps) : RecsAt W v ps hi := by
  refine ⟨?_, fun p hp => (h.nears p hp).at⟩
  have h1 := owns_rowAt h.row
  obtain ⟨a, cap, hv, h2⟩ := h1
  refine ⟨a, cap, hv, ?_⟩
  rcases h2 with h0 | ⟨b, off, ha, hb1, hx⟩
  · exact .inl h0
  · exact .inr ⟨b, off, ha, h.top b (by rw [hv, ha]; rfl), hx⟩

/-- what a marking leaves: only blocks of lo .. hi turn -/
structure Frame (lo hi : Nat) (w w' : World) : Prop where
  os : w'.os = w.os
  tape : w'.tape = w.tape
  output : w'.output = w.output
  size : w.heap.size ≤ w'.heap.size
  block : ∀ k, k < w.heap.size → (k < lo ∨ hi ≤ k) → w'.heap[k]? = w.heap[k]?

theorem Frame.refl (lo hi : Nat) (w : World) : Frame lo hi w w := ⟨rfl, rfl, rfl, Nat.le_refl _, fun _ _ _ => rfl⟩

theorem Frame.trans {lo hi : Nat} {a b c : World} (h : Frame lo hi a b) (k : Frame lo hi b c) : Frame lo hi a c :=
  ⟨k.os.trans h.os, k.tape.trans h.tape, k.output.trans h.output, Nat.le_trans h.size k.size, fun i hi hr => (k.block i (Nat.lt_of_lt_of_le hi h.size) hr).trans (h.block i hi hr)⟩

theorem Frame.grown {lo hi : Nat} {a b : World} {row : Option Nat} (g : a.grownBy b row) (hr : ∀ k, row = some k → lo ≤ k ∧ k < hi) : Frame lo hi a b :=
  ⟨g.os, g.tape, g.output, g.size, fun k hk hh => g.block k hk (fun e => by have := hr k e.symm; omega)⟩

theorem Frame.set {lo hi : Nat} (w : World) (p j : Nat) (u : Value) (h1 : lo ≤ p) (h2 : p < hi) : Frame lo hi w (w.setCell ⟨p, j, none⟩ u) := Frame.grown (grown_set w p j u) (fun k e => by simp at e; omega)

theorem Frame.below {lo hi : Nat} {w w' : World} (h : Frame lo hi w w') (hw : lo ≤ w.heap.size) : Below lo w w' := (Below.refl _ _).trans ⟨h.os, h.tape, h.output, h.size, fun k hk => h.block k (by omega) (.inl hk)⟩

theorem RecsOwn.frame {W W' : World} {lo hi l2 h2 : Nat} {v : Value} {ps : List RP} (h : RecsOwn W lo hi v ps) (hb : Frame l2 h2 W W') (hB : hi ≤ l2 ∨ h2 ≤ lo) : RecsOwn W' lo hi v ps := h.keep (fun k h1 h2 h3 => hb.block k h3 (by omega))

/-- eight cells laid at o of block g -/
abbrev putP (W : World) (g o : Nat) (p : RP) : World := (((((((W.setCell ⟨g, o, none⟩ (.int .i64 p.1.area)).setCell ⟨g, o + 1, none⟩ (.int .i64 p.1.kind)).setCell ⟨g, o + 2, none⟩ (.int .i64 p.1.owner)).setCell ⟨g, o + 3, none⟩ (.int .i64 p.1.key)).setCell ⟨g, o + 4, none⟩ (.int .i64 p.1.seq)).setCell ⟨g, o + 5, none⟩ p.2).setCell ⟨g, o + 6, none⟩ (.int .i64 p.1.cost)).setCell ⟨g, o + 7, none⟩ (.bool p.1.far)

theorem putP_grown (W : World) (g o : Nat) (p : RP) : W.grownBy (putP W g o p) (some g) :=
  grown_trans (grown_trans (grown_trans (grown_trans (grown_trans (grown_trans (grown_trans (grown_set W g _ _) (grown_set _ g _ _)) (grown_set _ g _ _)) (grown_set _ g _ _)) (grown_set _ g _ _)) (grown_set _ g _ _)) (grown_set _ g _ _)) (grown_set _ g _ _)

theorem putP_owns {W : World} {base g cap n j : Nat} {xs : List RP} {p : RP} (h : W.ownsRow base 40 8 (.slice (some ⟨g, 0, none⟩) n cap) n (flat encP xs)) (hj : j < xs.length) :
    (putP W g (j * 8) p).ownsRow base 40 8 (.slice (some ⟨g, 0, none⟩) n cap) n (flat encP (xs.set j p)) := by
  have e : (((((((((flat encP xs).set (j * 8) (.int .i64 p.1.area)).set (j * 8 + 1) (.int .i64 p.1.kind)).set (j * 8 + 2) (.int .i64 p.1.owner)).set (j * 8 + 3) (.int .i64 p.1.key)).set (j * 8 + 4) (.int .i64 p.1.seq)).set (j * 8 + 5) p.2).set (j * 8 + 6) (.int .i64 p.1.cost)).set (j * 8 + 7) (.bool p.1.far)) = flat encP (xs.set j p) := flat_set encP_len xs j p hj
  rw [← e]
  exact ((((((((h.stored (j * 8) _).1.stored (j * 8 + 1) _).1.stored (j * 8 + 2) _).1.stored (j * 8 + 3) _).1.stored (j * 8 + 4) _).1.stored (j * 8 + 5) _).1.stored (j * 8 + 6) _).1.stored (j * 8 + 7) _).1

/-- near rows of new records are behind all that was there -/
theorem apart_add {W : World} {lo hi : Nat} {ps : List RP} {p : RP} (h : ps.Pairwise Apart) (hn : ∀ q ∈ ps, NearOwn W lo hi q) (hp : ∀ k, p.2.ownBlock = some k → hi ≤ k) : (ps ++ [p]).Pairwise Apart := by
  rw [List.pairwise_append]
  refine ⟨h, by simp, ?_⟩
  intro a ha b hb
  have : b = p := by simpa using hb
  subst this
  intro k hk he
  have h1 := (hn a ha).2 k hk
  have h2 := hp k he
  omega

/-- how many numbers a list has -/
def tot (ps : List RP) : Nat := (ps.map (fun p => 1 + p.1.near.length)).sum

theorem tot_cons (p : RP) (ps : List RP) : tot (p :: ps) = 1 + p.1.near.length + tot ps := by simp [tot]

theorem tot_append (a b : List RP) : tot (a ++ b) = tot a + tot b := by simp [tot]

theorem tot_len (ps : List RP) : ps.length ≤ tot ps := by
  induction ps with
  | nil => simp [tot]
  | cons p ps ih => rw [tot_cons, List.length_cons]; omega

theorem tot_mem {ps : List RP} {p : RP} (h : p ∈ ps) : p.1.near.length ≤ tot ps := by
  induction ps with
  | nil => simp at h
  | cons q ps ih =>
    rw [tot_cons]
    rcases List.mem_cons.1 h with rfl | h1
    · omega
    · have := ih h1; omega

theorem tot_map {ps qs : List RP} (h : ps.map (·.1) = qs.map (·.1)) : tot ps = tot qs := by
  have e : ∀ l : List RP, tot l = ((l.map (·.1)).map (fun x => 1 + x.near.length)).sum := fun l => by simp [tot, List.map_map, Function.comp_def]
  rw [e, e, h]

theorem tot_take {ps : List RP} {k : Nat} {p : RP} (h : ps[k]? = some p) : tot (ps.take (k + 1)) = tot (ps.take k) + (1 + p.1.near.length) := by
  obtain ⟨hk, e⟩ := List.getElem?_eq_some_iff.1 h
  rw [List.take_succ_eq_append_getElem hk, tot_append, e]
  simp [tot]

theorem map_take {ps : List RP} {k : Nat} {p : RP} (h : ps[k]? = some p) : (ps.take (k + 1)).map (·.1) = (ps.take k).map (·.1) ++ [p.1] := by
  obtain ⟨hk, e⟩ := List.getElem?_eq_some_iff.1 h
  rw [List.take_succ_eq_append_getElem hk, List.map_append, e]
  rfl
end Go.Proofs.YtcimbiinljcifaaGreat
