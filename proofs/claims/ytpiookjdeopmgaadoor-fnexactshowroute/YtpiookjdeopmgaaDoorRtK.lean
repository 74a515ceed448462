/-
  Routes as values; laws.szRoute, toRoute, eqRoute.
-/
import Derived.Test.YtpiookjdeopmgaaDoorWayK
import Derived.Handy
namespace Go.Proofs.YtpiookjdeopmgaaDoor
open Go.RowKit

structure RtD where
  thing : Bool
  to : Int
  kind : Int
  cost : Int
  far : Int
  hops : List Int
  deriving DecidableEq

def rtC (x : RtD) (v : Value) : Array Value := #[.bool x.thing, .int .i64 x.to, .int .i64 x.kind, .int .i64 x.cost, .int .i64 x.far, v]

/-- the value v is the way x, whose row lies below B -/
def RtAt (W : World) (v : Value) (x : RtD) (B : Nat) : Prop := ∃ v1, v = .agg (rtC x v1) ∧ HopsAt W v1 x.hops B

theorem RtAt.then {W W' : World} {v : Value} {x : RtD} (h : RtAt W v x W.heap.size) (hb : Below W.heap.size W W') : RtAt W' v x W'.heap.size := by
  obtain ⟨v1, hv, h1⟩ := h
  exact ⟨v1, hv, h1.then hb⟩

theorem rtAt_of {W : World} {lo : Nat} {x : RtD} {u : Value} (h : W.ownsRow lo 3 1 u x.hops.length (flat intE x.hops)) : RtAt W (.agg (rtC x u)) x W.heap.size := ⟨u, rfl, hops_of h⟩

set_option maxRecDepth 100000 in
set_option maxHeartbeats 1000000 in
theorem szRoute_any (x : RtD) (a : Option Addr) (n c : Nat) (q : Int) (w : World) (hn : (n : Int) ≤ 9223372036854775807) (hq0 : 0 ≤ q) (hq : q ≤ 1048576) :
    Calls Tryd.prog 13 #[.agg (rtC x (.slice a n c)), .int .i64 q] w fun e w' => e = .returned (.int .i64 (szW q n)) ∧ Below w.heap.size w w' := by
  unfold szW rtC
  have HS := hide (szIntS_any a n c q)
  by_cases h : q - (n : Int) < 0
  · rw [if_pos h] at HS ⊢
    go_enter Tryd.func13, Tryd.ntmps13
    go_wp2_with fail
    refine (HS.out _ hn hq0 hq).mono ?_
    rintro e w1 ⟨rfl, rfl⟩
    go_wp2
    go_ret
    exact ⟨rfl, (Below.refl _ _).alloc (Nat.le_refl _) _⟩
  · rw [if_neg h] at HS ⊢
    go_enter Tryd.func13, Tryd.ntmps13
    go_wp2_with fail
    refine (HS.out _ hn hq0 hq).mono ?_
    rintro e w1 ⟨rfl, rfl⟩
    go_wp2
    go_ret
    exact ⟨rfl, (Below.refl _ _).alloc (Nat.le_refl _) _⟩

set_option maxRecDepth 100000 in
set_option maxHeartbeats 4000000 in
theorem toRoute_any (v : Value) (x : RtD) (w : World) (hl : x.hops.length ≤ 1048576) (hv : RtAt w v x w.heap.size) :
    Calls Tryd.prog 15 #[v] w fun e w' => ∃ v1, e = .returned (.agg (rtC x v1)) ∧ w'.ownsRow w.heap.size 3 1 v1 x.hops.length (flat intE x.hops) ∧ Below w.heap.size w w' := by
  obtain ⟨u1, rfl, h1⟩ := hv
  obtain ⟨a1, c1, rfl⟩ := h1.shape
  have H1 := hide h1
  clear h1
  unfold rtC
  go_enter Tryd.func15, Tryd.ntmps15
  go_wp2_with fail
  have hw0 := heap3_0 w (.cells #[.bool x.thing, .int .i64 x.to, .int .i64 x.kind, .int .i64 x.cost, .int .i64 x.far, .slice a1 x.hops.length c1] 36) (.cells #[.bool false, .int .i64 0, .int .i64 0, .int .i64 0, .int .i64 0, .slice none 0 0] 39) (.cells #[.bool x.thing, .int .i64 x.to, .int .i64 x.kind, .int .i64 x.cost, .int .i64 x.far, .slice none 0 0] 39)
  have hw1 := heap3_1 w (.cells #[.bool x.thing, .int .i64 x.to, .int .i64 x.kind, .int .i64 x.cost, .int .i64 x.far, .slice a1 x.hops.length c1] 36) (.cells #[.bool false, .int .i64 0, .int .i64 0, .int .i64 0, .int .i64 0, .slice none 0 0] 39) (.cells #[.bool x.thing, .int .i64 x.to, .int .i64 x.kind, .int .i64 x.cost, .int .i64 x.far, .slice none 0 0] 39)
  have hw2 := heap3_2 w (.cells #[.bool x.thing, .int .i64 x.to, .int .i64 x.kind, .int .i64 x.cost, .int .i64 x.far, .slice a1 x.hops.length c1] 36) (.cells #[.bool false, .int .i64 0, .int .i64 0, .int .i64 0, .int .i64 0, .slice none 0 0] 39) (.cells #[.bool x.thing, .int .i64 x.to, .int .i64 x.kind, .int .i64 x.cost, .int .i64 x.far, .slice none 0 0] 39)
  have bw := below_three (w := w) (.cells #[.bool x.thing, .int .i64 x.to, .int .i64 x.kind, .int .i64 x.cost, .int .i64 x.far, .slice a1 x.hops.length c1] 36) (.cells #[.bool false, .int .i64 0, .int .i64 0, .int .i64 0, .int .i64 0, .slice none 0 0] 39) (.cells #[.bool x.thing, .int .i64 x.to, .int .i64 x.kind, .int .i64 x.cost, .int .i64 x.far, .slice none 0 0] 39)
  generalize (((w.alloc (.cells #[.bool x.thing, .int .i64 x.to, .int .i64 x.kind, .int .i64 x.cost, .int .i64 x.far, .slice a1 x.hops.length c1] 36)).alloc (.cells #[.bool false, .int .i64 0, .int .i64 0, .int .i64 0, .int .i64 0, .slice none 0 0] 39)).alloc (.cells #[.bool x.thing, .int .i64 x.to, .int .i64 x.kind, .int .i64 x.cost, .int .i64 x.far, .slice none 0 0] 39)) = w1 at *
  refine (toIntS_any _ x.hops w1 hl (H1.out.then bw)).mono ?_
  rintro e w2 ⟨v1, rfl, ho1, b2⟩
  obtain ⟨p1, q1, rfl⟩ := owns_lenS ho1
  have l2 := lt_of_heap hw2
  rw [← b2.block _ (lt_of_heap hw1)] at hw1
  rw [← b2.block _ l2] at hw2
  have hb12 : w.heap.size ≤ w1.heap.size := bw.size
  have bw2 : Below w.heap.size w w2 := bw.trans (b2.mono hb12)
  have t0 := cells_at hw2 0
  have t1 := cells_at hw2 1
  have t2 := cells_at hw2 2
  have t3 := cells_at hw2 3
  have t4 := cells_at hw2 4
  have t5 := cells_at hw2 5
  have r0 := cells_at hw1 0
  have r1 := cells_at hw1 1
  have r2 := cells_at hw1 2
  have r3 := cells_at hw1 3
  have r4 := cells_at hw1 4
  have r5 := cells_at hw1 5
  simp at t0 t1 t2 t3 t4 t5 r0 r1 r2 r3 r4 r5
  have f2 := frozen_at hw2
  have f1 := frozen_at hw1
  have O1 := hide ho1
  have HW1 := hide hw1
  clear ho1 hw0 hw1 hw2 H1
  go_wp2
  have k0 : (w2.setCell ⟨w.heap.size + 1 + 1, 5, none⟩ (.slice p1 x.hops.length q1)).heap[w.heap.size + 1]? = some (.cells #[.bool false, .int .i64 0, .int .i64 0, .int .i64 0, .int .i64 0, .slice none 0 0] 39) := by
    rw [heap_setCell_other _ ⟨w.heap.size + 1 + 1, 5, none⟩ _ _ (by show w.heap.size + 1 ≠ w.heap.size + 1 + 1; omega)]
    exact HW1.out
  have k1 := heap_setCell_same _ _ 0 _ _ (.bool x.thing) k0
  have k2 := heap_setCell_same _ _ 1 _ _ (.int .i64 x.to) k1
  have k3 := heap_setCell_same _ _ 2 _ _ (.int .i64 x.kind) k2
  have k4 := heap_setCell_same _ _ 3 _ _ (.int .i64 x.cost) k3
  have k5 := heap_setCell_same _ _ 4 _ _ (.int .i64 x.far) k4
  have k6 := heap_setCell_same _ _ 5 _ _ (.slice p1 x.hops.length q1) k5
  have hfin := k6
  simp only [List.setIfInBounds_toArray, List.set_cons_zero, List.set_cons_succ] at hfin
  clear k0 k1 k2 k3 k4 k5 k6
  (try simp only [Exit.inBlock, Exit.then])
  refine bodyPost_ret (results_cell_row rfl _ _ (w.heap.size + 1) 39 #[.bool x.thing, .int .i64 x.to, .int .i64 x.kind, .int .i64 x.cost, .int .i64 x.far, .slice p1 x.hops.length q1] (0, 0) _ rfl hfin Tryd.underlying39 rfl (by kernel_rfl)) rfl ?_
  refine ⟨_, rfl, ?_, ?_⟩
  · refine owns_baseS (b1 := w1.heap.size) ?_ (by omega)
    have hlt : w.heap.size + 1 < w1.heap.size := by omega
    have hlt2 : w.heap.size + 1 + 1 < w1.heap.size := by omega
    exact owns_set (j := 5) (owns_set (j := 4) (owns_set (j := 3) (owns_set (j := 2) (owns_set (j := 1) (owns_set (j := 0) (owns_set (j := 5) O1.out hlt2) hlt) hlt) hlt) hlt) hlt) hlt
  · exact (((((((bw2.setCell (p := ⟨w.heap.size + 1 + 1, 5, none⟩) (by show w.heap.size ≤ w.heap.size + 1 + 1; omega) _).setCell (p := ⟨w.heap.size + 1, 0, none⟩) (by show w.heap.size ≤ w.heap.size + 1; omega) _).setCell (p := ⟨w.heap.size + 1, 1, none⟩) (by show w.heap.size ≤ w.heap.size + 1; omega) _).setCell (p := ⟨w.heap.size + 1, 2, none⟩) (by show w.heap.size ≤ w.heap.size + 1; omega) _).setCell (p := ⟨w.heap.size + 1, 3, none⟩) (by show w.heap.size ≤ w.heap.size + 1; omega) _).setCell (p := ⟨w.heap.size + 1, 4, none⟩) (by show w.heap.size ≤ w.heap.size + 1; omega) _).setCell (p := ⟨w.heap.size + 1, 5, none⟩) (by show w.heap.size ≤ w.heap.size + 1; omega) _)

set_option maxRecDepth 100000 in
set_option maxHeartbeats 1000000 in
theorem eqRoute_any (v1 v2 : Value) (x y : RtD) (w : World) (h1 : RtAt w v1 x w.heap.size) (h2 : RtAt w v2 y w.heap.size) (hl : x.hops.length ≤ 1048576) :
    Calls Tryd.prog 17 #[v1, v2] w fun e w' => e = .returned (.bool (decide (x = y))) ∧ Below w.heap.size w w' := by
  obtain ⟨a0, a1, a2, a3, a4, ns⟩ := x
  obtain ⟨b0, b1, b2, b3, b4, ms⟩ := y
  obtain ⟨u1, rfl, k1⟩ := h1
  obtain ⟨u2, rfl, k2⟩ := h2
  simp only [] at k1 k2 hl
  have K1 := hide k1
  have K2 := hide k2
  clear k1 k2
  unfold rtC
  simp only []
  by_cases h0 : a0 = b0
  case neg =>
    have hd : (!(a0 == b0)) = true := by cases a0 <;> cases b0 <;> simp_all
    have hne : decide ((⟨a0, a1, a2, a3, a4, ns⟩ : RtD) = ⟨b0, b1, b2, b3, b4, ms⟩) = false := decide_eq_false (fun h => by cases h; exact h0 rfl)
    rw [hne]
    clear hne
    go_enter Tryd.func17, Tryd.ntmps17
    go_wp2
    go_ret
    exact ⟨rfl, below_two _ _⟩
  subst h0
  have hb0 : (!(a0 == a0)) = false := by cases a0 <;> rfl
  by_cases h1 : a1 = b1
  case neg =>
    have hd : (a1 != b1) = true := by simpa using h1
    have hne : decide ((⟨a0, a1, a2, a3, a4, ns⟩ : RtD) = ⟨a0, b1, b2, b3, b4, ms⟩) = false := decide_eq_false (fun h => by cases h; exact h1 rfl)
    rw [hne]
    clear hne
    go_enter Tryd.func17, Tryd.ntmps17
    go_wp2
    go_ret
    exact ⟨rfl, below_two _ _⟩
  subst h1
  by_cases h2 : a2 = b2
  case neg =>
    have hd : (a2 != b2) = true := by simpa using h2
    have hne : decide ((⟨a0, a1, a2, a3, a4, ns⟩ : RtD) = ⟨a0, a1, b2, b3, b4, ms⟩) = false := decide_eq_false (fun h => by cases h; exact h2 rfl)
    rw [hne]
    clear hne
    go_enter Tryd.func17, Tryd.ntmps17
    go_wp2
    go_ret
    exact ⟨rfl, below_two _ _⟩
  subst h2
  by_cases h3 : a3 = b3
  case neg =>
    have hd : (a3 != b3) = true := by simpa using h3
    have hne : decide ((⟨a0, a1, a2, a3, a4, ns⟩ : RtD) = ⟨a0, a1, a2, b3, b4, ms⟩) = false := decide_eq_false (fun h => by cases h; exact h3 rfl)
    rw [hne]
    clear hne
    go_enter Tryd.func17, Tryd.ntmps17
    go_wp2
    go_ret
    exact ⟨rfl, below_two _ _⟩
  subst h3
  by_cases h4 : a4 = b4
  case neg =>
    have hd : (a4 != b4) = true := by simpa using h4
    have hne : decide ((⟨a0, a1, a2, a3, a4, ns⟩ : RtD) = ⟨a0, a1, a2, a3, b4, ms⟩) = false := decide_eq_false (fun h => by cases h; exact h4 rfl)
    rw [hne]
    clear hne
    go_enter Tryd.func17, Tryd.ntmps17
    go_wp2
    go_ret
    exact ⟨rfl, below_two _ _⟩
  subst h4
  obtain ⟨R, hR⟩ : ∃ R, R = decide (ns = ms) := ⟨_, rfl⟩
  have hRR : decide ((⟨a0, a1, a2, a3, a4, ns⟩ : RtD) = ⟨a0, a1, a2, a3, a4, ms⟩) = R := by rw [hR]; simp
  rw [hRR]
  have HE := fun W h1 h2 => eqI_any u1 u2 ns ms W h1 h2 hl
  rw [← hR] at HE
  have HEQ := hide HE
  clear HE hR hRR
  cases R
  · go_enter Tryd.func17, Tryd.ntmps17
    go_wp2_with fail
    refine (HEQ.out _ (K1.out.then (below_two _ _)).ints (K2.out.then (below_two _ _)).ints).mono ?_
    rintro e w1 ⟨rfl, bb1⟩
    go_wp2
    go_ret
    exact ⟨rfl, (below_two _ _).trans (bb1.mono (by simp; omega))⟩
  · go_enter Tryd.func17, Tryd.ntmps17
    go_wp2_with fail
    refine (HEQ.out _ (K1.out.then (below_two _ _)).ints (K2.out.then (below_two _ _)).ints).mono ?_
    rintro e w1 ⟨rfl, bb1⟩
    go_wp2
    go_ret
    exact ⟨rfl, (below_two _ _).trans (bb1.mono (by simp; omega))⟩
end Go.Proofs.YtpiookjdeopmgaaDoor
