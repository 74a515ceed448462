/-
  impl.ownLine: a line with hops of its own.
  One line more at the end of a list of the caller's own.
-/
import Derived.Test.YtbknmgobmnjphaaWk26
import Derived.Test.YtbknmgobmnjphaaWk8
import Derived.Test.YtbknmgobmnjphaaWk25
import Derived.Test.YtbknmgobmnjphaaWk2
namespace Go.Proofs.Ytbknmgobmnjphaa
open Go.RowKit

set_option linter.unusedSimpArgs false

set_option maxRecDepth 100000 in
set_option maxHeartbeats 1000000 in
theorem ownLine_any (x : LnD) (v : Value) (base : Nat) (w : World) (ho : w.ownsRow base 3 1 v x.hops.length (flat intE x.hops)) (hn : x.hops.length ≤ 1048576) :
    Calls Try.prog 49 #[.agg (lnC x v)] w fun e w' => ∃ v', e = .returned (.agg (lnC x v')) ∧ w'.ownsRow w.heap.size 3 1 v' x.hops.length (flat intE x.hops) ∧ Below w.heap.size w w' := by
  obtain ⟨va, vc, rfl⟩ := owns_lenS ho
  have HC := hide (fun W (hb : Below w.heap.size w W) => ownHops_any x.hops (.slice va x.hops.length vc) base W (owns_below ho hb (Nat.le_refl _)) hn)
  clear ho
  go_enter Try.func49, Try.ntmps49
  unfold lnC
  go_wp2_with fail
  have hb0 : Below w.heap.size w ((w.alloc (.cells #[.bool x.thing, .int .i64 x.to, .slice va x.hops.length vc] 67)).alloc (.cells #[.bool false, .int .i64 0, .slice none 0 0] 67)) := ((Below.refl w.heap.size w).alloc (by simp) _).alloc (by simp) _
  have q0 : ((w.alloc (.cells #[.bool x.thing, .int .i64 x.to, .slice va x.hops.length vc] 67)).alloc (.cells #[.bool false, .int .i64 0, .slice none 0 0] 67)).heap[w.heap.size]? = some (.cells #[.bool x.thing, .int .i64 x.to, .slice va x.hops.length vc] 67) := by
    rw [Below.heap_alloc _ _ _ (by simp), heap_alloc_new]
  have q1 : ((w.alloc (.cells #[.bool x.thing, .int .i64 x.to, .slice va x.hops.length vc] 67)).alloc (.cells #[.bool false, .int .i64 0, .slice none 0 0] 67)).heap[w.heap.size + 1]? = some (.cells #[.bool false, .int .i64 0, .slice none 0 0] 67) := by
    have e := heap_alloc_new (w.alloc (.cells #[.bool x.thing, .int .i64 x.to, .slice va x.hops.length vc] 67)) (.cells #[.bool false, .int .i64 0, .slice none 0 0] 67)
    rw [show (w.alloc (.cells #[.bool x.thing, .int .i64 x.to, .slice va x.hops.length vc] 67)).heap.size = w.heap.size + 1 by simp] at e
    exact e
  generalize ((w.alloc (.cells #[.bool x.thing, .int .i64 x.to, .slice va x.hops.length vc] 67)).alloc (.cells #[.bool false, .int .i64 0, .slice none 0 0] 67)) = w3 at *
  refine (HC.out _ hb0).mono ?_
  rintro e w4 ⟨v', rfl, hown', hb4'⟩
  obtain ⟨na, nc, rfl⟩ := owns_lenS hown'
  have hs1 := lt_of_heap q1
  have hb4 : Below w.heap.size w w4 := hb0.trans (hb4'.mono (by omega))
  have q0 := (hb4'.block _ (by omega)).trans q0
  have q1 := (hb4'.block _ hs1).trans q1
  have r2 := cells_at q0 2
  have f0 := frozen_at q0
  simp at r2
  have q2 := heap_setCell_same w4 w.heap.size 2 _ _ (.slice na x.hops.length nc) q0
  simp only [List.setIfInBounds_toArray, List.set_cons_zero, List.set_cons_succ] at q2
  have q3 : (w4.setCell ⟨w.heap.size, 2, none⟩ (.slice na x.hops.length nc)).heap[w.heap.size + 1]? = some (.cells #[.bool false, .int .i64 0, .slice none 0 0] 67) := by
    rw [heap_setCell_other w4 ⟨w.heap.size, 2, none⟩ _ _ (by show w.heap.size + 1 ≠ w.heap.size; omega)]; exact q1
  have y0 := cells_at q2 0
  have y1 := cells_at q2 1
  have y2 := cells_at q2 2
  simp at y0 y1 y2
  have u0 := cells_at q3 0
  have u1 := cells_at q3 1
  have u2 := cells_at q3 2
  simp at u0 u1 u2
  have fu := frozen_at q3
  have F := finL3 x (.slice na x.hops.length nc) q3
  have hown2 := owns_set (j := 2) (u := .slice na x.hops.length nc) hown' (show w.heap.size < w3.heap.size by omega)
  have G8 := grownL3 (w4.setCell ⟨w.heap.size, 2, none⟩ (.slice na x.hops.length nc)) (w.heap.size + 1) x (.slice na x.hops.length nc)
  have hown3 := owns_baseS (b0 := w.heap.size) (hown2.kept G8 (by
    cases hv : (Value.slice na x.hops.length nc).ownBlock with
    | none => exact .inl rfl
    | some g => exact .inr (fun e => by have := (hown2.lt g hv).1; simp at e; omega))) (by omega)
  have hb5 : Below w.heap.size w (putL3 (w4.setCell ⟨w.heap.size, 2, none⟩ (.slice na x.hops.length nc)) (w.heap.size + 1) x (.slice na x.hops.length nc)) := (hb4.setCell (p := ⟨w.heap.size, 2, none⟩) (Nat.le_refl _) _).grown G8 (by have := lt_of_heap q3; omega) (fun k hk => by simp at hk; omega)
  have FF := hide F
  have H3 := hide hown3
  have H5 := hide hb5
  clear F hown3 hb5 hown2 G8 hb4 hown' hb4' q0 q1 q2 q3 hb0 HC
  go_wp2_with fail
  (try simp only [Exit.inBlock, Exit.then])
  refine bodyPost_ret (results_cell_row rfl _ _ (w.heap.size + 1) 67 (lnC _ _) (0, 0) _ rfl FF.out Try.underlying67 rfl (by kernel_rfl)) rfl ?_
  exact ⟨_, rfl, H3.out, H5.out⟩

end Go.Proofs.Ytbknmgobmnjphaa
namespace Go.Proofs.Ytbknmgobmnjphaa
open Go.RowKit

theorem encJ_one (x : LnD) (a : Option Addr) (n c : Nat) : ∀ u ∈ encJ (x, .slice a n c), u.oneCell' = true := by
  intro u hu
  simp only [encJ, List.mem_cons, List.not_mem_nil, or_false] at hu
  rcases hu with rfl | rfl | rfl <;> rfl

theorem hop_row_neJ {W : World} {lo lo2 hi n size2 : Nat} {v : Value} {xs : List Value} {q : JP} (hq : LHopOwn W lo hi q) (hr : W.ownsRow lo2 67 size2 v n xs) (j : Nat) (hj : q.2.ownBlock = some j) : some j ≠ v.ownBlock := by
  intro e
  rcases hr.2 with ⟨h0, _⟩ | ⟨g, cap, cur, hv, _, hh, _⟩
  · rw [h0] at e; simp [Value.ownBlock] at e
  · rw [hv] at e
    simp [Value.ownBlock] at e
    subst e
    exact own_type_ne2 hq.1 hh (by decide) hj.symm

/-- one more way, its row behind all that was there -/
theorem LnsOwn.push {W Wa W2 : World} {lo : Nat} {v v' : Value} {qs : List JP} {p : JP} (h : LnsOwn W lo W.heap.size v qs) (hb : Below W.heap.size W Wa) (hlo : lo ≤ W.heap.size) (hp : LHopOwn Wa W.heap.size Wa.heap.size p)
    (row : W2.ownsRow lo 67 3 v' (qs.length + 1) (flat encJ (qs ++ [p]))) (hg : Wa.grownBy W2 v.ownBlock) : LnsOwn W2 lo W2.heap.size v' (qs ++ [p]) where
  row := by simpa using row
  top := fun k hk => (row.lt k hk).2
  apart := apartJ_add h.apart h.nears (fun k hk => (hp.1.lt k hk).1)
  nears := by
    have rowa := owns_below h.row hb (Nat.le_refl _)
    have key : ∀ q, LHopOwn Wa lo Wa.heap.size q → LHopOwn W2 lo W2.heap.size q := fun q hq =>
      ⟨owns_keepB hq.1 (fun j hj => hg.block j (hq.2 j hj) (hop_row_neJ hq rowa j hj)), fun k hk => Nat.lt_of_lt_of_le (hq.2 k hk) hg.size⟩
    intro q hq
    rcases List.mem_append.1 hq with h1 | h1
    · exact key q (((h.nears q h1).keep (W' := Wa) (fun j _ h2 _ => hb.block j h2)).wide (Nat.le_refl _) hb.size)
    · have : q = p := by simpa using h1
      subst this
      exact key q (hp.wide hlo (Nat.le_refl _))
end Go.Proofs.Ytbknmgobmnjphaa
