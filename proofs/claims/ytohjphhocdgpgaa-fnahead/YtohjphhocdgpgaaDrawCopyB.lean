/-
  spec.l04Copy: the walk.
-/
import Derived.Test.YtohjphhocdgpgaaDrawCopy
namespace Go.Proofs.Ytohjphhocdgpgaa
open Go.RowKit

set_option linter.unusedSimpArgs false

theorem own_lit0 (W : World) (g base : Nat) (hg : g = W.heap.size) (hb : base ≤ W.heap.size) : (W.alloc (.cells #[] 67)).ownsRow base 67 2 (.slice (some ⟨g, 0, none⟩) 0 0) 0 (flat nrE []) := by
  subst hg
  exact World.ownsRow_lit W #[] 0 hb (by unfold maxLen; omega) (by simp)

set_option maxRecDepth 100000 in
set_option maxHeartbeats 1000000 in
theorem copyD_any (x : RecD) (v : Value) (base : Nat) (w : World) (ho : w.ownsRow base 67 2 v x.near.length (flat nrE x.near)) (hn : x.near.length ≤ 1000) :
    Calls Try.prog 89 #[.agg (recC x v)] w fun e w' => ∃ v', e = .returned (.agg (recC x v')) ∧ w'.ownsRow w.heap.size 67 2 v' x.near.length (flat nrE x.near) ∧ Below w.heap.size w w' := by
  obtain ⟨va, vc, rfl⟩ := owns_lenS ho
  have OW := hide ho
  clear ho
  go_enter Try.func89, Try.ntmps89
  unfold recC
  go_wp2_with (first
    | (at_builtin; refine wpList_append_row nr_flat_len (by omega) nrE_one (by omega) _ rfl _ _ 24 rfl (w.heap.size + 2) 67 Try.underlying24 (nrV nr0) rfl Try.infoNr _ [] rfl ?own0 base _ x.near rfl (((OW.out.alloc _).alloc _).alloc _) (by simp; omega) (by simp) ?_))
  case own0 =>
    exact own_lit0 _ _ _ (by simp) (by simp)
  intro v' w4 hown' hgrow
  obtain ⟨na, nc, rfl⟩ := owns_lenS hown'
  simp only [Value.ownBlock] at hgrow
  have hb4 : Below w.heap.size w w4 := ((((Below.refl w.heap.size w).alloc (by simp) _).alloc (by simp) _).alloc (by simp; omega) _).grown hgrow (by simp; omega) (fun k hk => by simp at hk; omega)
  have q0 : w4.heap[w.heap.size]? = some (.cells #[.int .i64 x.area, .int .i64 x.kind, .int .i64 x.owner, .int .i64 x.key, .int .i64 x.seq, .slice va x.near.length vc, .int .i64 x.cost, .bool x.far] 26) := by
    rw [hgrow.block w.heap.size (by simp; omega) (by simp; omega), Below.heap_alloc _ _ _ (by simp; omega), Below.heap_alloc _ _ _ (by simp), heap_alloc_new]
  have q1 : w4.heap[w.heap.size + 1]? = some (.cells zeroC 26) := by
    rw [hgrow.block (w.heap.size + 1) (by simp) (by simp), Below.heap_alloc _ _ _ (by simp)]
    have e := heap_alloc_new (w.alloc (.cells #[.int .i64 x.area, .int .i64 x.kind, .int .i64 x.owner, .int .i64 x.key, .int .i64 x.seq, .slice va x.near.length vc, .int .i64 x.cost, .bool x.far] 26)) (.cells zeroC 26)
    rw [show (w.alloc (.cells #[.int .i64 x.area, .int .i64 x.kind, .int .i64 x.owner, .int .i64 x.key, .int .i64 x.seq, .slice va x.near.length vc, .int .i64 x.cost, .bool x.far] 26)).heap.size = w.heap.size + 1 by simp] at e
    exact e
  have r5 := cells_at q0 5
  have f0 := frozen_at q0
  simp at r5
  have q2 := heap_setCell_same w4 w.heap.size 5 _ _ (.slice na x.near.length nc) q0
  simp only [List.setIfInBounds_toArray, List.set_cons_zero, List.set_cons_succ] at q2
  have q3 : (w4.setCell ⟨w.heap.size, 5, none⟩ (.slice na x.near.length nc)).heap[w.heap.size + 1]? = some (.cells zeroC 26) := by
    rw [heap_setCell_other w4 ⟨w.heap.size, 5, none⟩ _ _ (by show w.heap.size + 1 ≠ w.heap.size; omega)]; exact q1
  unfold zeroC at q3
  have y0 := cells_at q2 0
  have y1 := cells_at q2 1
  have y2 := cells_at q2 2
  have y3 := cells_at q2 3
  have y4 := cells_at q2 4
  have y5 := cells_at q2 5
  have y6 := cells_at q2 6
  have y7 := cells_at q2 7
  simp at y0 y1 y2 y3 y4 y5 y6 y7
  have u0 := cells_at q3 0
  have u1 := cells_at q3 1
  have u2 := cells_at q3 2
  have u3 := cells_at q3 3
  have u4 := cells_at q3 4
  have u5 := cells_at q3 5
  have u6 := cells_at q3 6
  have u7 := cells_at q3 7
  simp at u0 u1 u2 u3 u4 u5 u6 u7
  have fu := frozen_at q3
  have F := fin8 x (.slice na x.near.length nc) q3
  have hown2 := owns_set (j := 5) (u := .slice na x.near.length nc) hown' (show w.heap.size < w.heap.size + 2 by omega)
  have G8 := grown8 (w4.setCell ⟨w.heap.size, 5, none⟩ (.slice na x.near.length nc)) (w.heap.size + 1) x (.slice na x.near.length nc)
  have hown3 := owns_baseS (b0 := w.heap.size) (hown2.kept G8 (by
    cases hv : (Value.slice na x.near.length nc).ownBlock with
    | none => exact .inl rfl
    | some g => exact .inr (fun e => by have := (hown2.lt g hv).1; simp at e; omega))) (by omega)
  have hb5 : Below w.heap.size w (putR (w4.setCell ⟨w.heap.size, 5, none⟩ (.slice na x.near.length nc)) (w.heap.size + 1) x (.slice na x.near.length nc)) := (hb4.setCell (p := ⟨w.heap.size, 5, none⟩) (Nat.le_refl _) _).grown G8 (by have := lt_of_heap q3; omega) (fun k hk => by simp at hk; omega)
  have FF := hide F
  have H3 := hide hown3
  have H5 := hide hb5
  clear F hown3 hb5 hown2 G8 hb4 hown' hgrow q0 q1 q2 q3 OW
  go_wp2_with fail
  (try simp only [Exit.inBlock, Exit.then])
  refine bodyPost_ret (results_cell_row rfl _ _ (w.heap.size + 1) 26 (recC _ _) (0, 0) _ rfl FF.out Try.underlying26 rfl (by kernel_rfl)) rfl ?_
  exact ⟨_, rfl, H3.out, H5.out⟩
end Go.Proofs.Ytohjphhocdgpgaa
