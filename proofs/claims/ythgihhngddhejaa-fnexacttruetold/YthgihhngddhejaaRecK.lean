/-
  Records as values; laws.toRecord, eqRecord, szRecord.
-/
import Derived.Test.YthgihhngddhejaaNearK
namespace Go.Proofs.Ythgihhngddhejaa
open Go.RowKit

structure RecD where
  area : Int
  kind : Int
  owner : Int
  key : Int
  seq : Int
  near : List Nr
  cost : Int
  far : Bool
  deriving DecidableEq

def recC (x : RecD) (v : Value) : Array Value := #[.int .i64 x.area, .int .i64 x.kind, .int .i64 x.owner, .int .i64 x.key, .int .i64 x.seq, v, .int .i64 x.cost, .bool x.far]

/-- the value v is the record x, whose row lies below B -/
def RecAt (W : World) (v : Value) (x : RecD) (B : Nat) : Prop := ∃ v1, v = .agg (recC x v1) ∧ NearsAt W v1 x.near B

theorem RecAt.then {W W' : World} {v : Value} {x : RecD} (h : RecAt W v x W.heap.size) (hb : Below W.heap.size W W') : RecAt W' v x W'.heap.size := by
  obtain ⟨v1, hv, h1⟩ := h
  exact ⟨v1, hv, h1.then hb⟩

def szR (q : Int) (n : Nat) : Int := if q - (n : Int) < 0 then -1 else q - (n : Int)

set_option maxRecDepth 100000 in
set_option maxHeartbeats 1000000 in
theorem szRecord_any (x : RecD) (a : Option Addr) (n c : Nat) (q : Int) (w : World) (hn : (n : Int) ≤ 9223372036854775807) (hq0 : 0 ≤ q) (hq : q ≤ 1048576) :
    Calls Try.prog 9 #[.agg (recC x (.slice a n c)), .int .i64 q] w fun e w' => e = .returned (.int .i64 (szR q n)) ∧ Below w.heap.size w w' := by
  unfold szR recC
  have HS := hide (szNearS_any a n c q)
  by_cases h : q - (n : Int) < 0
  · rw [if_pos h] at HS ⊢
    go_enter Try.func9, Try.ntmps9
    go_wp2_with fail
    refine (HS.out _ hn hq0 hq).mono ?_
    rintro e w1 ⟨rfl, rfl⟩
    go_wp2
    go_ret
    exact ⟨rfl, (Below.refl _ _).alloc (Nat.le_refl _) _⟩
  · rw [if_neg h] at HS ⊢
    go_enter Try.func9, Try.ntmps9
    go_wp2_with fail
    refine (HS.out _ hn hq0 hq).mono ?_
    rintro e w1 ⟨rfl, rfl⟩
    go_wp2
    go_ret
    exact ⟨rfl, (Below.refl _ _).alloc (Nat.le_refl _) _⟩

set_option maxRecDepth 100000 in
set_option maxHeartbeats 4000000 in
theorem toRecord_any (v : Value) (x : RecD) (w : World) (hl : x.near.length ≤ 1048576) (hv : RecAt w v x w.heap.size) :
    Calls Try.prog 11 #[v] w fun e w' => ∃ v1, e = .returned (.agg (recC x v1)) ∧ w'.ownsRow w.heap.size 41 2 v1 x.near.length (flat nrE x.near) ∧ Below w.heap.size w w' := by
  obtain ⟨u1, rfl, h1⟩ := hv
  obtain ⟨a1, c1, rfl⟩ := h1.shape
  have H1 := hide h1
  clear h1
  unfold recC
  go_enter Try.func11, Try.ntmps11
  go_wp2_with fail
  have hw0 := heap3_0 w (.cells #[.int .i64 x.area, .int .i64 x.kind, .int .i64 x.owner, .int .i64 x.key, .int .i64 x.seq, .slice a1 x.near.length c1, .int .i64 x.cost, .bool x.far] 31) (.cells #[.int .i64 0, .int .i64 0, .int .i64 0, .int .i64 0, .int .i64 0, .slice none 0 0, .int .i64 0, .bool false] 35) (.cells #[.int .i64 x.area, .int .i64 x.kind, .int .i64 x.owner, .int .i64 x.key, .int .i64 x.seq, .slice none 0 0, .int .i64 0, .bool false] 35)
  have hw1 := heap3_1 w (.cells #[.int .i64 x.area, .int .i64 x.kind, .int .i64 x.owner, .int .i64 x.key, .int .i64 x.seq, .slice a1 x.near.length c1, .int .i64 x.cost, .bool x.far] 31) (.cells #[.int .i64 0, .int .i64 0, .int .i64 0, .int .i64 0, .int .i64 0, .slice none 0 0, .int .i64 0, .bool false] 35) (.cells #[.int .i64 x.area, .int .i64 x.kind, .int .i64 x.owner, .int .i64 x.key, .int .i64 x.seq, .slice none 0 0, .int .i64 0, .bool false] 35)
  have hw2 := heap3_2 w (.cells #[.int .i64 x.area, .int .i64 x.kind, .int .i64 x.owner, .int .i64 x.key, .int .i64 x.seq, .slice a1 x.near.length c1, .int .i64 x.cost, .bool x.far] 31) (.cells #[.int .i64 0, .int .i64 0, .int .i64 0, .int .i64 0, .int .i64 0, .slice none 0 0, .int .i64 0, .bool false] 35) (.cells #[.int .i64 x.area, .int .i64 x.kind, .int .i64 x.owner, .int .i64 x.key, .int .i64 x.seq, .slice none 0 0, .int .i64 0, .bool false] 35)
  have bw := below_three (w := w) (.cells #[.int .i64 x.area, .int .i64 x.kind, .int .i64 x.owner, .int .i64 x.key, .int .i64 x.seq, .slice a1 x.near.length c1, .int .i64 x.cost, .bool x.far] 31) (.cells #[.int .i64 0, .int .i64 0, .int .i64 0, .int .i64 0, .int .i64 0, .slice none 0 0, .int .i64 0, .bool false] 35) (.cells #[.int .i64 x.area, .int .i64 x.kind, .int .i64 x.owner, .int .i64 x.key, .int .i64 x.seq, .slice none 0 0, .int .i64 0, .bool false] 35)
  generalize (((w.alloc (.cells #[.int .i64 x.area, .int .i64 x.kind, .int .i64 x.owner, .int .i64 x.key, .int .i64 x.seq, .slice a1 x.near.length c1, .int .i64 x.cost, .bool x.far] 31)).alloc (.cells #[.int .i64 0, .int .i64 0, .int .i64 0, .int .i64 0, .int .i64 0, .slice none 0 0, .int .i64 0, .bool false] 35)).alloc (.cells #[.int .i64 x.area, .int .i64 x.kind, .int .i64 x.owner, .int .i64 x.key, .int .i64 x.seq, .slice none 0 0, .int .i64 0, .bool false] 35)) = w1 at *
  refine (toNearS_any _ x.near w1 hl (H1.out.then bw)).mono ?_
  rintro e w2 ⟨v1, rfl, ho1, b2⟩
  obtain ⟨p1, q1, rfl⟩ := owns_lenS ho1
  have l2 := lt_of_heap hw2
  rw [← b2.block _ (lt_of_heap hw0)] at hw0
  rw [← b2.block _ (lt_of_heap hw1)] at hw1
  rw [← b2.block _ l2] at hw2
  have hb12 : w.heap.size ≤ w1.heap.size := bw.size
  have bw2 : Below w.heap.size w w2 := bw.trans (b2.mono hb12)
  have s6 := cells_at hw0 6
  have s7 := cells_at hw0 7
  have t0 := cells_at hw2 0
  have t1 := cells_at hw2 1
  have t2 := cells_at hw2 2
  have t3 := cells_at hw2 3
  have t4 := cells_at hw2 4
  have t5 := cells_at hw2 5
  have t6 := cells_at hw2 6
  have t7 := cells_at hw2 7
  have r0 := cells_at hw1 0
  have r1 := cells_at hw1 1
  have r2 := cells_at hw1 2
  have r3 := cells_at hw1 3
  have r4 := cells_at hw1 4
  have r5 := cells_at hw1 5
  have r6 := cells_at hw1 6
  have r7 := cells_at hw1 7
  simp at s6 s7 t0 t1 t2 t3 t4 t5 t6 t7 r0 r1 r2 r3 r4 r5 r6 r7
  have f2 := frozen_at hw2
  have f1 := frozen_at hw1
  have O1 := hide ho1
  have HW1 := hide hw1
  clear ho1 hw0 hw1 hw2 H1
  go_wp2
  have k0 : (((w2.setCell ⟨w.heap.size + 1 + 1, 5, none⟩ (.slice p1 x.near.length q1)).setCell ⟨w.heap.size + 1 + 1, 6, none⟩ (.int .i64 x.cost)).setCell ⟨w.heap.size + 1 + 1, 7, none⟩ (.bool x.far)).heap[w.heap.size + 1]? = some (.cells #[.int .i64 0, .int .i64 0, .int .i64 0, .int .i64 0, .int .i64 0, .slice none 0 0, .int .i64 0, .bool false] 35) := by
    rw [heap_setCell_other _ ⟨w.heap.size + 1 + 1, 7, none⟩ _ _ (by show w.heap.size + 1 ≠ w.heap.size + 1 + 1; omega), heap_setCell_other _ ⟨w.heap.size + 1 + 1, 6, none⟩ _ _ (by show w.heap.size + 1 ≠ w.heap.size + 1 + 1; omega), heap_setCell_other _ ⟨w.heap.size + 1 + 1, 5, none⟩ _ _ (by show w.heap.size + 1 ≠ w.heap.size + 1 + 1; omega)]
    exact HW1.out
  have k1 := heap_setCell_same _ _ 0 _ _ (.int .i64 x.area) k0
  have k2 := heap_setCell_same _ _ 1 _ _ (.int .i64 x.kind) k1
  have k3 := heap_setCell_same _ _ 2 _ _ (.int .i64 x.owner) k2
  have k4 := heap_setCell_same _ _ 3 _ _ (.int .i64 x.key) k3
  have k5 := heap_setCell_same _ _ 4 _ _ (.int .i64 x.seq) k4
  have k6 := heap_setCell_same _ _ 5 _ _ (.slice p1 x.near.length q1) k5
  have k7 := heap_setCell_same _ _ 6 _ _ (.int .i64 x.cost) k6
  have k8 := heap_setCell_same _ _ 7 _ _ (.bool x.far) k7
  have hfin := k8
  clear k0 k1 k2 k3 k4 k5 k6 k7 k8
  (try simp only [Exit.inBlock, Exit.then])
  refine bodyPost_ret (results_cell_row rfl _ _ (w.heap.size + 1) 35 #[.int .i64 x.area, .int .i64 x.kind, .int .i64 x.owner, .int .i64 x.key, .int .i64 x.seq, .slice p1 x.near.length q1, .int .i64 x.cost, .bool x.far] (0, 0) _ rfl hfin Try.underlying35 rfl (by kernel_rfl)) rfl ?_
  refine ⟨_, rfl, ?_, ?_⟩
  · refine owns_baseS (b1 := w1.heap.size) ?_ (by omega)
    repeat (refine owns_set ?_ (by omega))
    exact O1.out
  · repeat (refine Below.setCell ?_ (by first | (show w.heap.size ≤ w.heap.size + 1 + 1; omega) | (show w.heap.size ≤ w.heap.size + 1; omega)) _)
    exact bw2

set_option maxRecDepth 100000 in
set_option maxHeartbeats 4000000 in
theorem eqRecord_any (v1 v2 : Value) (x y : RecD) (w : World) (h1 : RecAt w v1 x w.heap.size) (h2 : RecAt w v2 y w.heap.size) (hl : x.near.length ≤ 1048576) :
    Calls Try.prog 15 #[v1, v2] w fun e w' => e = .returned (.bool (decide (x = y))) ∧ Below w.heap.size w w' := by
  obtain ⟨a0, a1, a2, a3, a4, ns, a6, a7⟩ := x
  obtain ⟨b0, b1, b2, b3, b4, ms, b6, b7⟩ := y
  obtain ⟨u1, rfl, k1⟩ := h1
  obtain ⟨u2, rfl, k2⟩ := h2
  simp only [] at k1 k2 hl
  have K1 := hide k1
  have K2 := hide k2
  clear k1 k2
  unfold recC
  simp only []
  by_cases h0 : a0 = b0
  case neg =>
    have hd : (a0 != b0) = true := by simpa using h0
    have hne : decide ((⟨a0, a1, a2, a3, a4, ns, a6, a7⟩ : RecD) = ⟨b0, b1, b2, b3, b4, ms, b6, b7⟩) = false := decide_eq_false (fun h => by cases h; exact h0 rfl)
    rw [hne]
    clear hne
    go_enter Try.func15, Try.ntmps15
    go_wp2
    go_ret
    exact ⟨rfl, below_two _ _⟩
  subst h0
  by_cases h1 : a1 = b1
  case neg =>
    have hd : (a1 != b1) = true := by simpa using h1
    have hne : decide ((⟨a0, a1, a2, a3, a4, ns, a6, a7⟩ : RecD) = ⟨a0, b1, b2, b3, b4, ms, b6, b7⟩) = false := decide_eq_false (fun h => by cases h; exact h1 rfl)
    rw [hne]
    clear hne
    go_enter Try.func15, Try.ntmps15
    go_wp2
    go_ret
    exact ⟨rfl, below_two _ _⟩
  subst h1
  by_cases h2 : a2 = b2
  case neg =>
    have hd : (a2 != b2) = true := by simpa using h2
    have hne : decide ((⟨a0, a1, a2, a3, a4, ns, a6, a7⟩ : RecD) = ⟨a0, a1, b2, b3, b4, ms, b6, b7⟩) = false := decide_eq_false (fun h => by cases h; exact h2 rfl)
    rw [hne]
    clear hne
    go_enter Try.func15, Try.ntmps15
    go_wp2
    go_ret
    exact ⟨rfl, below_two _ _⟩
  subst h2
  by_cases h3 : a3 = b3
  case neg =>
    have hd : (a3 != b3) = true := by simpa using h3
    have hne : decide ((⟨a0, a1, a2, a3, a4, ns, a6, a7⟩ : RecD) = ⟨a0, a1, a2, b3, b4, ms, b6, b7⟩) = false := decide_eq_false (fun h => by cases h; exact h3 rfl)
    rw [hne]
    clear hne
    go_enter Try.func15, Try.ntmps15
    go_wp2
    go_ret
    exact ⟨rfl, below_two _ _⟩
  subst h3
  by_cases h4 : a4 = b4
  case neg =>
    have hd : (a4 != b4) = true := by simpa using h4
    have hne : decide ((⟨a0, a1, a2, a3, a4, ns, a6, a7⟩ : RecD) = ⟨a0, a1, a2, a3, b4, ms, b6, b7⟩) = false := decide_eq_false (fun h => by cases h; exact h4 rfl)
    rw [hne]
    clear hne
    go_enter Try.func15, Try.ntmps15
    go_wp2
    go_ret
    exact ⟨rfl, below_two _ _⟩
  subst h4
  go_enter Try.func15, Try.ntmps15
  go_wp2_with fail
  refine (eqNearS_any u1 u2 ns ms _ (K1.out.then (below_two _ _)) (K2.out.then (below_two _ _)) hl).mono ?_
  rintro e w1 ⟨rfl, bb1⟩
  have bw1 : Below w.heap.size w w1 := (below_two _ _).trans (bb1.mono (by simp; omega))
  have hw0 : w1.heap[w.heap.size]? = some (.cells #[.int .i64 a0, .int .i64 a1, .int .i64 a2, .int .i64 a3, .int .i64 a4, u1, .int .i64 a6, .bool a7] 35) := by
    rw [bb1.block _ (by simp; omega), Below.heap_alloc _ _ _ (by simp), heap_alloc_new]
  have hw1 : w1.heap[w.heap.size + 1]? = some (.cells #[.int .i64 a0, .int .i64 a1, .int .i64 a2, .int .i64 a3, .int .i64 a4, u2, .int .i64 b6, .bool b7] 35) := by
    rw [bb1.block _ (by simp)]
    have := heap_alloc_new (w.alloc (.cells #[.int .i64 a0, .int .i64 a1, .int .i64 a2, .int .i64 a3, .int .i64 a4, u1, .int .i64 a6, .bool a7] 35)) (.cells #[.int .i64 a0, .int .i64 a1, .int .i64 a2, .int .i64 a3, .int .i64 a4, u2, .int .i64 b6, .bool b7] 35)
    simpa using this
  have s6 := cells_at hw0 6
  have s7 := cells_at hw0 7
  have t6 := cells_at hw1 6
  have t7 := cells_at hw1 7
  simp at s6 s7 t6 t7
  clear bb1 hw0 hw1
  by_cases hns : ns = ms
  case neg =>
    rw [decide_eq_false hns]
    have hne : decide ((⟨a0, a1, a2, a3, a4, ns, a6, a7⟩ : RecD) = ⟨a0, a1, a2, a3, a4, ms, b6, b7⟩) = false := decide_eq_false (fun h => by cases h; exact hns rfl)
    have HNE := hide hne
    clear hne
    go_wp2
    go_ret
    exact ⟨by rw [HNE.out]; rfl, bw1⟩
  subst hns
  rw [decide_eq_true (rfl : ns = ns)]
  by_cases h6 : a6 = b6
  case neg =>
    have hd : (a6 != b6) = true := by simpa using h6
    have hne : decide ((⟨a0, a1, a2, a3, a4, ns, a6, a7⟩ : RecD) = ⟨a0, a1, a2, a3, a4, ns, b6, b7⟩) = false := decide_eq_false (fun h => by cases h; exact h6 rfl)
    have HNE := hide hne
    clear hne
    go_wp2
    go_ret
    exact ⟨by rw [HNE.out]; rfl, bw1⟩
  subst h6
  cases a7 <;> cases b7
  all_goals
    go_wp2
    go_ret
    exact ⟨by simp, bw1⟩
end Go.Proofs.Ythgihhngddhejaa
