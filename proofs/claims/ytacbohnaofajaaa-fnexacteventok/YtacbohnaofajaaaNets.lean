/-
  laws.szNet, toNet, eqNet: their contracts.
-/
import Derived.Test.YtacbohnaofajaaaToLinks
import Derived.Test.YtacbohnaofajaaaEqLinks
namespace Go.Proofs.Ytacbohnaofajaaa
open Go.RowKit

structure NetD where
  n : Int
  ls : List Lk
  ts : List Th
  deriving DecidableEq

/-- the value v is the net x, whose rows lie below B -/
def NetAt (W : World) (v : Value) (x : NetD) (B : Nat) : Prop := ∃ v1 v2, v = .agg #[.int .i64 x.n, v1, v2] ∧ LinksAt W v1 x.ls B ∧ ThingsAt W v2 x.ts B

theorem NetAt.then {W W' : World} {v : Value} {x : NetD} (h : NetAt W v x W.heap.size) (hb : Below W.heap.size W W') : NetAt W' v x W'.heap.size := by
  obtain ⟨v1, v2, hv, h1, h2⟩ := h
  exact ⟨v1, v2, hv, h1.then hb, h2.then hb⟩

set_option maxRecDepth 100000 in
set_option maxHeartbeats 1000000 in
theorem szLinkS_any (a : Option Addr) (n c : Nat) (q : Int) (w : World) (hn : (n : Int) ≤ 9223372036854775807) (hq0 : 0 ≤ q) (hq : q ≤ 1048576) :
    Calls Try.prog 11 #[.slice a n c, .int .i64 q] w fun e w' => e = .returned (.int .i64 (if q - (n : Int) < 0 then -1 else q - (n : Int))) ∧ w = w' := by
  by_cases h : q - (n : Int) < 0
  · rw [if_pos h]
    go_enter Try.func11, Try.ntmps11
    go_wp2
    go_ret
    exact ⟨rfl, rfl⟩
  · rw [if_neg h]
    go_enter Try.func11, Try.ntmps11
    go_wp2
    go_ret
    exact ⟨rfl, rfl⟩

set_option maxRecDepth 100000 in
set_option maxHeartbeats 1000000 in
theorem szThingS_any (a : Option Addr) (n c : Nat) (q : Int) (w : World) (hn : (n : Int) ≤ 9223372036854775807) (hq0 : 0 ≤ q) (hq : q ≤ 1048576) :
    Calls Try.prog 12 #[.slice a n c, .int .i64 q] w fun e w' => e = .returned (.int .i64 (if q - (n : Int) < 0 then -1 else q - (n : Int))) ∧ w = w' := by
  by_cases h : q - (n : Int) < 0
  · rw [if_pos h]
    go_enter Try.func12, Try.ntmps12
    go_wp2
    go_ret
    exact ⟨rfl, rfl⟩
  · rw [if_neg h]
    go_enter Try.func12, Try.ntmps12
    go_wp2
    go_ret
    exact ⟨rfl, rfl⟩

/-- what is left of q behind n and m: -1 where it is passed -/
def szN (q : Int) (n m : Nat) : Int := if q - (n : Int) < 0 then -1 else if q - (n : Int) - (m : Int) < 0 then -1 else q - (n : Int) - (m : Int)

set_option maxRecDepth 100000 in
set_option maxHeartbeats 1000000 in
theorem szNet_any (v0 : Value) (a1 a2 : Option Addr) (n m c1 c2 : Nat) (q : Int) (w : World) (hn : (n : Int) ≤ 9223372036854775807) (hm : (m : Int) ≤ 9223372036854775807) (hq0 : 0 ≤ q) (hq : q ≤ 1048576) :
    Calls Try.prog 4 #[.agg #[v0, .slice a1 n c1, .slice a2 m c2], .int .i64 q] w fun e w' => e = .returned (.int .i64 (szN q n m)) ∧ Below w.heap.size w w' := by
  unfold szN
  by_cases h : q - (n : Int) < 0
  · rw [if_pos h]
    go_enter Try.func4, Try.ntmps4
    go_wp2_with fail
    refine (szLinkS_any a1 n c1 q _ hn hq0 hq).mono ?_
    rw [if_pos h]
    rintro e w1 ⟨rfl, rfl⟩
    go_wp2
    go_ret
    exact ⟨rfl, (Below.refl _ _).alloc (Nat.le_refl _) _⟩
  · rw [if_neg h]
    by_cases h2 : q - (n : Int) - (m : Int) < 0
    · rw [if_pos h2]
      go_enter Try.func4, Try.ntmps4
      go_wp2_with fail
      refine (szLinkS_any a1 n c1 q _ hn hq0 hq).mono ?_
      rw [if_neg (by omega)]
      rintro e w1 ⟨rfl, rfl⟩
      go_wp2_with fail
      refine (szThingS_any a2 m c2 _ _ hm (by omega) (by omega)).mono ?_
      rw [if_pos h2]
      rintro e w1 ⟨rfl, rfl⟩
      go_wp2
      go_ret
      exact ⟨rfl, (Below.refl _ _).alloc (Nat.le_refl _) _⟩
    · rw [if_neg h2]
      go_enter Try.func4, Try.ntmps4
      go_wp2_with fail
      refine (szLinkS_any a1 n c1 q _ hn hq0 hq).mono ?_
      rw [if_neg (by omega)]
      rintro e w1 ⟨rfl, rfl⟩
      go_wp2_with fail
      refine (szThingS_any a2 m c2 _ _ hm (by omega) (by omega)).mono ?_
      rw [if_neg (by omega)]
      rintro e w1 ⟨rfl, rfl⟩
      go_wp2
      go_ret
      exact ⟨rfl, (Below.refl _ _).alloc (Nat.le_refl _) _⟩

set_option maxRecDepth 100000 in
set_option maxHeartbeats 1000000 in
theorem toNet_any (v : Value) (x : NetD) (w : World) (hl : x.ls.length ≤ 1048576) (ht : x.ts.length ≤ 1048576) (hv : NetAt w v x w.heap.size) :
    Calls Try.prog 7 #[v] w fun e w' => ∃ v1 v2, e = .returned (.agg #[.int .i64 x.n, v1, v2]) ∧ w'.ownsRow w.heap.size 48 4 v1 x.ls.length (flat lkE x.ls) ∧ w'.ownsRow w.heap.size 52 4 v2 x.ts.length (flat thE x.ts) ∧ Below w.heap.size w w' := by
  obtain ⟨u1, u2, rfl, h1, h2⟩ := hv
  obtain ⟨a1, c1, rfl⟩ := h1.shape
  obtain ⟨a2, c2, rfl⟩ := h2.shape
  have H1 := hide h1
  have H2 := hide h2
  clear h1 h2
  go_enter Try.func7, Try.ntmps7
  go_wp2_with fail
  have hw0 := heap3_0 w (.cells #[.int .i64 x.n, .slice a1 x.ls.length c1, .slice a2 x.ts.length c2] 25) (.cells #[.int .i64 0, .slice none 0 0, .slice none 0 0] 34) (.cells #[.int .i64 x.n, .slice none 0 0, .slice none 0 0] 34)
  have hw1 := heap3_1 w (.cells #[.int .i64 x.n, .slice a1 x.ls.length c1, .slice a2 x.ts.length c2] 25) (.cells #[.int .i64 0, .slice none 0 0, .slice none 0 0] 34) (.cells #[.int .i64 x.n, .slice none 0 0, .slice none 0 0] 34)
  have hw2 := heap3_2 w (.cells #[.int .i64 x.n, .slice a1 x.ls.length c1, .slice a2 x.ts.length c2] 25) (.cells #[.int .i64 0, .slice none 0 0, .slice none 0 0] 34) (.cells #[.int .i64 x.n, .slice none 0 0, .slice none 0 0] 34)
  have bw := below_three (w := w) (.cells #[.int .i64 x.n, .slice a1 x.ls.length c1, .slice a2 x.ts.length c2] 25) (.cells #[.int .i64 0, .slice none 0 0, .slice none 0 0] 34) (.cells #[.int .i64 x.n, .slice none 0 0, .slice none 0 0] 34)
  generalize (((w.alloc (.cells #[.int .i64 x.n, .slice a1 x.ls.length c1, .slice a2 x.ts.length c2] 25)).alloc (.cells #[.int .i64 0, .slice none 0 0, .slice none 0 0] 34)).alloc (.cells #[.int .i64 x.n, .slice none 0 0, .slice none 0 0] 34)) = w1 at *
  refine (toLinkS_any _ x.ls w1 hl (H1.out.then bw)).mono ?_
  rintro e w2 ⟨v1, rfl, ho1, b2⟩
  obtain ⟨p1, q1, rfl⟩ := owns_lenS ho1
  have l2 := lt_of_heap hw2
  rw [← b2.block _ (lt_of_heap hw0)] at hw0
  rw [← b2.block _ (lt_of_heap hw1)] at hw1
  rw [← b2.block _ l2] at hw2
  have s1 := cells_at hw0 2
  have s2 := cells_at hw2 1
  have f2 := frozen_at hw2 1
  simp at s1 s2
  have hb12 : w.heap.size ≤ w1.heap.size := bw.size
  have hb22 : w1.heap.size ≤ w2.heap.size := b2.size
  have bw2 : Below w.heap.size w w2 := bw.trans (b2.mono hb12)
  have O1 := hide ho1
  have HW0 := hide hw0
  have HW1 := hide hw1
  have HW2 := hide hw2
  clear ho1 hw0 hw1 hw2
  go_wp2_with fail
  have o1 := owns_set (p := w.heap.size + 1 + 1) (j := 1) (u := .slice p1 x.ls.length q1) O1.out (by omega)
  have g0 : (w2.setCell ⟨w.heap.size + 1 + 1, 1, none⟩ (.slice p1 x.ls.length q1)).heap[w.heap.size + 1]? = some (.cells #[.int .i64 0, .slice none 0 0, .slice none 0 0] 34) := by
    rw [heap_setCell_other w2 ⟨w.heap.size + 1 + 1, 1, none⟩ _ _ (by show w.heap.size + 1 ≠ w.heap.size + 1 + 1; omega)]; exact HW1.out
  have g2 : (w2.setCell ⟨w.heap.size + 1 + 1, 1, none⟩ (.slice p1 x.ls.length q1)).heap[w.heap.size + 1 + 1]? = some (.cells #[.int .i64 x.n, .slice p1 x.ls.length q1, .slice none 0 0] 34) := by
    rw [heap_setCell_same w2 _ 1 _ _ _ HW2.out]; rfl
  have bw3 : Below w.heap.size w (w2.setCell ⟨w.heap.size + 1 + 1, 1, none⟩ (.slice p1 x.ls.length q1)) := bw2.setCell (by show w.heap.size ≤ w.heap.size + 1 + 1; omega) _
  have z3 : (w2.setCell ⟨w.heap.size + 1 + 1, 1, none⟩ (.slice p1 x.ls.length q1)).heap.size = w2.heap.size := by simp
  generalize (w2.setCell ⟨w.heap.size + 1 + 1, 1, none⟩ (.slice p1 x.ls.length q1)) = w3 at *
  clear s1 s2 f2 HW0 HW1 HW2 O1
  refine (toThingS_any _ x.ts w3 ht (H2.out.then bw3)).mono ?_
  rintro e w4 ⟨v2, rfl, ho2, b4⟩
  obtain ⟨p2, q2, rfl⟩ := owns_lenS ho2
  have hl1 : w.heap.size + 1 + 1 < w3.heap.size := lt_of_heap g2
  rw [← b4.block _ (lt_of_heap g0)] at g0
  rw [← b4.block _ hl1] at g2
  have o1' := owns_below o1 b4 (Nat.le_refl _)
  have bw4 : Below w.heap.size w w4 := bw3.trans (b4.mono bw3.size)
  have r0 := cells_at g0 0
  have r1 := cells_at g0 1
  have r2 := cells_at g0 2
  have t0 := cells_at g2 0
  have t1 := cells_at g2 1
  have t2 := cells_at g2 2
  have f0 := frozen_at g0 0
  have f1 := frozen_at g0 1
  have f2 := frozen_at g0 2
  have e2 := frozen_at g2 2
  simp at r0 r1 r2 t0 t1 t2
  have hz4 := b4.size
  have O1 := hide o1'
  have O2 := hide ho2
  have G0 := hide g0
  clear o1 o1' ho2 g0 g2
  go_wp2
  have hfin : ((((w4.setCell ⟨w.heap.size + 1 + 1, 2, none⟩ (.slice p2 x.ts.length q2)).setCell ⟨w.heap.size + 1, 0, none⟩ (.int .i64 x.n)).setCell ⟨w.heap.size + 1, 1, none⟩ (.slice p1 x.ls.length q1)).setCell ⟨w.heap.size + 1, 2, none⟩ (.slice p2 x.ts.length q2)).heap[w.heap.size + 1]? = some (.cells #[.int .i64 x.n, .slice p1 x.ls.length q1, .slice p2 x.ts.length q2] 34) := by
    have k0 : (w4.setCell ⟨w.heap.size + 1 + 1, 2, none⟩ (.slice p2 x.ts.length q2)).heap[w.heap.size + 1]? = some (.cells #[.int .i64 0, .slice none 0 0, .slice none 0 0] 34) := by
      rw [heap_setCell_other w4 ⟨w.heap.size + 1 + 1, 2, none⟩ _ _ (by show w.heap.size + 1 ≠ w.heap.size + 1 + 1; omega)]; exact G0.out
    have k1 := heap_setCell_same _ _ 0 _ _ (.int .i64 x.n) k0
    have k2 := heap_setCell_same _ _ 1 _ _ (.slice p1 x.ls.length q1) k1
    have k3 := heap_setCell_same _ _ 2 _ _ (.slice p2 x.ts.length q2) k2
    exact k3
  try simp only [Exit.inBlock, Exit.then]
  refine bodyPost_ret (results_cell_row rfl _ _ (w.heap.size + 1) 34 #[.int .i64 x.n, .slice p1 x.ls.length q1, .slice p2 x.ts.length q2] (0, 0) _ rfl hfin Try.underlying34 rfl (by kernel_rfl)) rfl ?_
  refine ⟨_, _, rfl, owns_baseS (owns_set (owns_set (owns_set (owns_set O1.out (by omega)) (by omega)) (by omega)) (by omega)) (by omega), owns_baseS (owns_set (owns_set (owns_set (owns_set O2.out (by omega)) (by omega)) (by omega)) (by omega)) (by omega), ?_⟩
  exact (((bw4.setCell (by show w.heap.size ≤ w.heap.size + 1 + 1; omega) _).setCell (by show w.heap.size ≤ w.heap.size + 1; omega) _).setCell (by show w.heap.size ≤ w.heap.size + 1; omega) _).setCell (by show w.heap.size ≤ w.heap.size + 1; omega) _

set_option maxRecDepth 100000 in
set_option maxHeartbeats 1000000 in
theorem eqNet_any (v1 v2 : Value) (x y : NetD) (w : World) (h1 : NetAt w v1 x w.heap.size) (h2 : NetAt w v2 y w.heap.size) (hl : x.ls.length ≤ 1048576) (ht : x.ts.length ≤ 1048576) :
    Calls Try.prog 10 #[v1, v2] w fun e w' => e = .returned (.bool (decide (x = y))) ∧ Below w.heap.size w w' := by
  obtain ⟨n, ls, ts⟩ := x
  obtain ⟨m, ls', ts'⟩ := y
  obtain ⟨a1, a2, rfl, k1, k2⟩ := h1
  obtain ⟨b1, b2, rfl, j1, j2⟩ := h2
  have K1 := hide k1
  have K2 := hide k2
  have J1 := hide j1
  have J2 := hide j2
  clear k1 k2 j1 j2
  by_cases hnm : n = m
  · subst hnm
    go_enter Try.func10, Try.ntmps10
    go_wp2_with fail
    refine (eqLinkS_any a1 b1 ls ls' _ (K1.out.then (below_two _ _)) (J1.out.then (below_two _ _)) hl).mono ?_
    rintro e w1 ⟨rfl, bb1⟩
    have bw1 : Below w.heap.size w w1 := (below_two _ _).trans (bb1.mono (by simp; omega))
    have hw0 : w1.heap[w.heap.size]? = some (.cells #[.int .i64 n, a1, a2] 34) := by
      rw [bb1.block _ (by simp; omega), Below.heap_alloc _ _ _ (by simp), heap_alloc_new]
    have hw1 : w1.heap[w.heap.size + 1]? = some (.cells #[.int .i64 n, b1, b2] 34) := by
      rw [bb1.block _ (by simp)]
      have := heap_alloc_new (w.alloc (.cells #[.int .i64 n, a1, a2] 34)) (.cells #[.int .i64 n, b1, b2] 34)
      simpa using this
    have s1 := cells_at hw0 2
    have s2 := cells_at hw1 2
    simp at s1 s2
    clear bb1 hw0 hw1
    by_cases hls : ls = ls'
    · subst hls
      have hd : decide (ls = ls) = true := by simp
      rw [hd]
      clear hd
      go_wp2_with fail
      refine (eqThingS_any a2 b2 ts ts' _ (K2.out.then bw1) (J2.out.then bw1) ht).mono ?_
      rintro e w2 ⟨rfl, bb2⟩
      have bw2 : Below w.heap.size w w2 := bw1.trans (bb2.mono bw1.size)
      by_cases hts : ts = ts'
      · subst hts
        have hd : decide (ts = ts) = true := by simp
        rw [hd]
        clear hd
        go_wp2
        go_ret
        exact ⟨by simp, bw2⟩
      · rw [decide_eq_false hts]
        have hne : decide (({ n := n, ls := ls, ts := ts } : NetD) = { n := n, ls := ls, ts := ts' }) = false := decide_eq_false (fun h => by cases h; exact hts rfl)
        have HNE := hide hne
        clear hne
        go_wp2
        go_ret
        exact ⟨by rw [HNE.out]; rfl, bw2⟩
    · rw [decide_eq_false hls]
      have hne : decide (({ n := n, ls := ls, ts := ts } : NetD) = { n := n, ls := ls', ts := ts' }) = false := decide_eq_false (fun h => by cases h; exact hls rfl)
      have HNE := hide hne
      clear hne
      go_wp2
      go_ret
      exact ⟨by rw [HNE.out]; rfl, bw1⟩
  · have hd : (n != m) = true := by simpa using hnm
    have hne : decide (({ n := n, ls := ls, ts := ts } : NetD) = { n := m, ls := ls', ts := ts' }) = false := decide_eq_false (fun h => by cases h; exact hnm rfl)
    rw [hne]
    clear hne
    go_enter Try.func10, Try.ntmps10
    go_wp2
    go_ret
    exact ⟨rfl, below_two _ _⟩
end Go.Proofs.Ytacbohnaofajaaa
