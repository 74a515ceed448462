/-
  impl.wayHeap: its methods' contracts.
-/
import Derived.Test.YtbmphbeocbgalaaGrE
import Derived.Test.YtbmphbeocbgalaaBetterS
import Derived.Test.YtbmphbeocbgalaaGrJ
import Derived.Test.YtbmphbeocbgalaaReg
import Derived.Handy
namespace Go.Proofs.Ytbmphbeocbgalaa
open Go.RowKit

set_option linter.unusedSimpArgs false

def ptrV (k : Nat) : Value := .pointer (some ⟨k, 0, none⟩)

def ptrs (q : Nat → Nat) (n : Nat) : List Value := (List.range n).map (fun i => ptrV (q i))

theorem ptrs_at {q : Nat → Nat} {n i : Nat} (h : i < n) : (ptrs q n)[i]? = some (ptrV (q i)) := by simp [ptrs, h]

theorem ptrs_len (q : Nat → Nat) (n : Nat) : (ptrs q n).length = n := by simp [ptrs]

/-- the row u of n pointers to ways -/
structure HQ (W : World) (lo : Nat) (u : Value) (n : Nat) (q : Nat → Nat) (wd : Nat → WayD) (wv : Nat → Value) : Prop where
  row : W.ownsRow lo 79 1 u n (ptrs q n)
  way : ∀ i, i < n → W.heap[q i]? = some (.cells (wayC (wd (q i)) (wv (q i))) 27)
  sl : ∀ i, i < n → ∃ a l c, wv (q i) = .slice a l c

theorem HQ.cell {W : World} {lo n : Nat} {u : Value} {q : Nat → Nat} {wd : Nat → WayD} {wv : Nat → Value} (h : HQ W lo u n q wd wv) {i : Nat} (hi : i < n) : ∃ g cap, u = .slice (some ⟨g, 0, none⟩) n cap ∧ W.cell? ⟨g, i, none⟩ = some (ptrV (q i)) ∧ g < W.heap.size := by
  rcases h.row.2 with ⟨_, e⟩ | ⟨g, cap, cur, hv, _⟩
  · omega
  · refine ⟨g, cap, hv, ?_, (h.row.lt g (by rw [hv]; rfl)).2⟩
    have := World.ownsRow.cellAt (by rw [← hv]; exact h.row) i (by omega)
    rw [this, ptrs_at hi]

theorem HQ.below {W W' : World} {lo n : Nat} {u : Value} {q : Nat → Nat} {wd : Nat → WayD} {wv : Nat → Value} (h : HQ W lo u n q wd wv) (hb : Below W.heap.size W W') : HQ W' lo u n q wd wv :=
  ⟨owns_below h.row hb (Nat.le_refl _), fun i hi => (hb.block _ (lt_of_heap (h.way i hi))).trans (h.way i hi), h.sl⟩

set_option maxRecDepth 100000 in
set_option maxHeartbeats 1000000 in
theorem less_any (W : World) (lo n : Nat) (u : Value) (q : Nat → Nat) (wd : Nat → WayD) (wv : Nat → Value) (i j : Nat) (h : HQ W lo u n q wd wv) (hi : i < n) (hj : j < n) :
    Calls Try.prog 157 #[u, .int .i64 (i : Int), .int .i64 (j : Int)] W fun e W' => e = .returned (.bool (decide ((wd (q i)).cost < (wd (q j)).cost))) ∧ Below W.heap.size W W' := by
  obtain ⟨g, cap, rfl, ci, hg⟩ := h.cell hi
  obtain ⟨g2, cap2, e2, cj, _⟩ := h.cell hj
  cases e2
  obtain ⟨ai, li, ci2, ei⟩ := h.sl i hi
  obtain ⟨aj, lj, cj2, ej⟩ := h.sl j hj
  have wi := h.way i hi
  have wj := h.way j hj
  rw [ei] at wi
  rw [ej] at wj
  obtain ⟨x, hx⟩ : ∃ x, x = wd (q i) := ⟨_, rfl⟩
  obtain ⟨y, hy⟩ : ∃ y, y = wd (q j) := ⟨_, rfl⟩
  obtain ⟨p, hp⟩ : ∃ p, p = q i := ⟨_, rfl⟩
  obtain ⟨r, hr⟩ : ∃ r, r = q j := ⟨_, rfl⟩
  rw [← hx] at wi ⊢
  rw [← hy] at wj ⊢
  rw [← hp] at ci wi
  rw [← hr] at cj wj
  unfold ptrV at ci cj
  have a0 := cells_at wi 0
  have a1 := cells_at wi 1
  have a2 := cells_at wi 2
  have b0 := cells_at wj 0
  have b1 := cells_at wj 1
  have b2 := cells_at wj 2
  simp [wayC] at a0 a1 a2 b0 b1 b2
  have hBt := hide (fun W => ibetter_any (.slice ai li ci2) (.slice aj lj cj2) x y W)
  unfold wayC betterB at hBt
  have h1 : (0 : Int) ≤ (i : Int) := by omega
  have h2 : (i : Int) < (n : Int) := by omega
  have h3 : (0 : Int) ≤ (j : Int) := by omega
  have h4 : (j : Int) < (n : Int) := by omega
  have lp := lt_of_heap wi
  have lr := lt_of_heap wj
  clear h hx hy hp hr wi wj ei ej
  go_enter Try.func157, Try.ntmps157
  go_wp2
  go_region_held3 (fun V => V.cell? ⟨g, i, none⟩ = some (.pointer (some ⟨p, 0, none⟩)) ∧ V.cell? ⟨g, j, none⟩ = some (.pointer (some ⟨r, 0, none⟩)) ∧ V.cell? ⟨p, 0, none⟩ = some (.int .i64 x.to) ∧ V.cell? ⟨p, 1, none⟩ = some (.int .i64 x.cost) ∧ V.cell? ⟨p, 2, none⟩ = some (.slice ai li ci2) ∧ V.cell? ⟨r, 0, none⟩ = some (.int .i64 y.to) ∧ V.cell? ⟨r, 1, none⟩ = some (.int .i64 y.cost) ∧ V.cell? ⟨r, 2, none⟩ = some (.slice aj lj cj2)) (first | (refine ⟨?_, ?_, ?_, ?_, ?_, ?_, ?_, ?_⟩ <;> (refine Eq.trans (Below.cell (B := W.heap.size) (w := W.drew) hbb ?_) ?_ <;> assumption)) | go_keep) (first | (go_at_call 14; refine (hBt.out _).mono ?_; rintro e w2 ⟨rfl, hbb⟩))
  go_wp2
  go_ret
  exact ⟨rfl, ((Below.refl W.heap.size W).drew).trans hbb⟩

set_option maxRecDepth 100000 in
set_option maxHeartbeats 1000000 in
theorem len_any (W : World) (a : Option Addr) (n cap : Nat) : Calls Try.prog 92 #[.slice a n cap] W fun e W' => e = .returned (.int .i64 (n : Int)) ∧ W = W' := by
  go_enter Try.func92, Try.ntmps92
  go_wp2
  go_ret
  exact ⟨rfl, rfl⟩

theorem owns_put {W : World} {lo n g cap i : Nat} {e : TypeId} {q : Nat → Nat} (h : W.ownsRow lo e 1 (.slice (some ⟨g, 0, none⟩) n cap) n (ptrs q n)) (hi : i < n) (k : Nat) : (W.setCell ⟨g, i, none⟩ (ptrV k)).ownsRow lo e 1 (.slice (some ⟨g, 0, none⟩) n cap) n (ptrs (fun x => if x = i then k else q x) n) := by
  rcases h.2 with ⟨e1, _⟩ | ⟨g', cap', cur, hv, hg, hh, hnc, hcm, hcs, htk⟩
  · cases e1
  · cases hv
    refine ⟨by rw [ptrs_len]; omega, .inr ⟨g, cap, cur.setIfInBounds i (ptrV k), rfl, hg, heap_setCell_same W g i _ _ _ hh, hnc, hcm, by simpa using hcs, ?_⟩⟩
    have e2 : (cur.setIfInBounds i (ptrV k)).toList = cur.toList.set i (ptrV k) := by simp
    rw [e2, List.take_set]
    have e3 : cur.toList.take (n * 1) = ptrs q n := htk
    rw [Nat.mul_one] at e3 ⊢
    rw [e3]
    apply List.ext_getElem?
    intro x
    rw [List.getElem?_set]
    by_cases hx : x < n
    · rw [ptrs_at hx]
      by_cases e4 : i = x
      · subst e4
        rw [if_pos rfl, if_pos (by rw [ptrs_len]; exact hi), ptrs_at hi, if_pos rfl]
      · rw [if_neg e4, ptrs_at hx, if_neg (fun e => e4 e.symm)]
    · rw [List.getElem?_eq_none (by rw [ptrs_len]; omega), if_neg (by omega), List.getElem?_eq_none (by rw [ptrs_len]; omega)]

set_option maxRecDepth 100000 in
set_option maxHeartbeats 1000000 in
theorem swap_any (W : World) (lo n : Nat) (u : Value) (q : Nat → Nat) (i j : Nat) (h : W.ownsRow lo 79 1 u n (ptrs q n)) (hi : i < n) (hj : j < n) :
    Calls Try.prog 158 #[u, .int .i64 (i : Int), .int .i64 (j : Int)] W fun e W' => e = .returned (.tuple #[]) ∧ W'.ownsRow lo 79 1 u n (ptrs (swapF q i j) n) ∧ W.grownBy W' u.ownBlock := by
  rcases h.2 with ⟨_, e⟩ | ⟨g, cap, cur, hv, hg, hh, _⟩
  · omega
  subst hv
  have ci := (World.ownsRow.cellAt h i (by omega)).trans (ptrs_at hi)
  have cj := (World.ownsRow.cellAt h j (by omega)).trans (ptrs_at hj)
  have fz := frozen_at hh
  obtain ⟨p, hp⟩ : ∃ p, p = q i := ⟨_, rfl⟩
  obtain ⟨r, hr⟩ : ∃ r, r = q j := ⟨_, rfl⟩
  rw [← hp] at ci
  rw [← hr] at cj
  unfold ptrV at ci cj
  have h1 : (0 : Int) ≤ (i : Int) := by omega
  have h2 : (i : Int) < (n : Int) := by omega
  have h3 : (0 : Int) ≤ (j : Int) := by omega
  have h4 : (j : Int) < (n : Int) := by omega
  obtain ⟨y, hy⟩ : ∃ y, (W.setCell ⟨g, i, none⟩ (.pointer (some ⟨r, 0, none⟩))).cell? ⟨g, j, none⟩ = some y := by
    have o1 := owns_put h hi r
    exact ⟨_, (World.ownsRow.cellAt o1 j (by omega)).trans (ptrs_at hj)⟩
  have HP := hide hp
  have HR := hide hr
  have HH := hide h
  have HO := hide (show ((W.setCell ⟨g, i, none⟩ (.pointer (some ⟨r, 0, none⟩))).setCell ⟨g, j, none⟩ (.pointer (some ⟨p, 0, none⟩))).ownsRow lo 79 1 (.slice (some ⟨g, 0, none⟩) n cap) n (ptrs (swapF q i j) n) by
    have o2 := owns_put (owns_put h hi r) hj p
    have e : (fun x => if x = j then p else if x = i then r else q x) = swapF q i j := by
      funext x
      unfold swapF
      by_cases e1 : x = j
      · rw [if_pos e1]
        by_cases e2 : x = i
        · rw [if_pos e2, hp, ← e2, e1]
        · rw [if_neg e2, if_pos e1, hp]
      · rw [if_neg e1]
        by_cases e2 : x = i
        · rw [if_pos e2, if_pos e2, hr]
        · rw [if_neg e2, if_neg e2, if_neg e1]
    rw [e] at o2
    exact o2)
  have HG := hide (show W.grownBy ((W.setCell ⟨g, i, none⟩ (.pointer (some ⟨r, 0, none⟩))).setCell ⟨g, j, none⟩ (.pointer (some ⟨p, 0, none⟩))) (some g) from grown_trans (grown_set W g _ _) (grown_set _ g _ _))
  clear hh hp hr h
  go_enter Try.func158, Try.ntmps158
  go_wp2
  go_region
  go_wp2
  go_returns
  exact ⟨rfl, HO.out.drew, ⟨HG.out.os, HG.out.tape, HG.out.output, HG.out.size, HG.out.block⟩⟩
end Go.Proofs.Ytbmphbeocbgalaa
