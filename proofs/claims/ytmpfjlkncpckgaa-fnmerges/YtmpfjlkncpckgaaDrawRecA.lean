/-
  What stays when a drawn record is handed back.
-/
import Derived.Test.YtmpfjlkncpckgaaRecDag
namespace Go.Proofs.Ytmpfjlkncpckgaa
open Go.RowKit

set_option linter.unusedSimpArgs false

abbrev put8 (W : World) (g : Nat) (v0 v1 v2 v3 v4 v5 v6 v7 : Value) : World := (((((((W.setCell ⟨g, 0, none⟩ v0).setCell ⟨g, 1, none⟩ v1).setCell ⟨g, 2, none⟩ v2).setCell ⟨g, 3, none⟩ v3).setCell ⟨g, 4, none⟩ v4).setCell ⟨g, 5, none⟩ v5).setCell ⟨g, 6, none⟩ v6).setCell ⟨g, 7, none⟩ v7

set_option maxHeartbeats 1000000 in
theorem RcSt.fin {w wr : World} {p B0 z : Nat} {a : Option Addr} {len cap : Nat} {v : Value} {x : RecD} (h : RcSt w wr p B0 z a len cap v x) (hp : p < B0) (_ : B0 < wr.heap.size) :
    (put8 wr B0 (.int .i64 x.area) (.int .i64 x.kind) (.int .i64 x.owner) (.int .i64 x.key) (.int .i64 x.seq) v (.int .i64 x.cost) (.bool x.far)).heap[B0]? = some (.cells (recC x v) 26) ∧
    Cur (put8 wr B0 (.int .i64 x.area) (.int .i64 x.kind) (.int .i64 x.owner) (.int .i64 x.key) (.int .i64 x.seq) v (.int .i64 x.cost) (.bool x.far)) p a len cap ∧
    w.grownBy (put8 wr B0 (.int .i64 x.area) (.int .i64 x.kind) (.int .i64 x.owner) (.int .i64 x.key) (.int .i64 x.seq) v (.int .i64 x.cost) (.bool x.far)) (some p) ∧
    (put8 wr B0 (.int .i64 x.area) (.int .i64 x.kind) (.int .i64 x.owner) (.int .i64 x.key) (.int .i64 x.seq) v (.int .i64 x.cost) (.bool x.far)).ownsRow (B0 + 1) 67 2 v x.near.length (flat nrE x.near) := by
  have k0 := h.res
  unfold zeroC at k0
  have k1 := heap_setCell_same _ _ 0 _ _ (.int .i64 x.area) k0
  have k2 := heap_setCell_same _ _ 1 _ _ (.int .i64 x.kind) k1
  have k3 := heap_setCell_same _ _ 2 _ _ (.int .i64 x.owner) k2
  have k4 := heap_setCell_same _ _ 3 _ _ (.int .i64 x.key) k3
  have k5 := heap_setCell_same _ _ 4 _ _ (.int .i64 x.seq) k4
  have k6 := heap_setCell_same _ _ 5 _ _ v k5
  have k7 := heap_setCell_same _ _ 6 _ _ (.int .i64 x.cost) k6
  have k8 := heap_setCell_same _ _ 7 _ _ (.bool x.far) k7
  have hne : ∀ b, b ≤ p → some b ≠ some B0 := fun b hb => by simp; omega
  refine ⟨by unfold recC; exact k8, ?_, ?_, ?_⟩
  · exact ((((((((h.cur.grown (grown_set _ B0 _ _) hne).grown (grown_set _ B0 _ _) hne).grown (grown_set _ B0 _ _) hne).grown (grown_set _ B0 _ _) hne).grown (grown_set _ B0 _ _) hne).grown (grown_set _ B0 _ _) hne).grown (grown_set _ B0 _ _) hne).grown (grown_set _ B0 _ _) hne)
  · have hlo := h.low
    exact gro_set (gro_set (gro_set (gro_set (gro_set (gro_set (gro_set (gro_set h.gro B0 0 _ hlo) B0 1 _ hlo) B0 2 _ hlo) B0 3 _ hlo) B0 4 _ hlo) B0 5 _ hlo) B0 6 _ hlo) B0 7 _ hlo
  · have hlt : B0 < B0 + 1 := by omega
    exact owns_set (j := 7) (owns_set (j := 6) (owns_set (j := 5) (owns_set (j := 4) (owns_set (j := 3) (owns_set (j := 2) (owns_set (j := 1) (owns_set (j := 0) (h.own) hlt) hlt) hlt) hlt) hlt) hlt) hlt) hlt

theorem five_cells (w : World) : ∀ k, k < 5 → ∃ z : Int, True ∧ (w.alloc (.cells #[.int .i64 0, .int .i64 1, .int .i64 2, .int .i64 5, .int .i64 60000] 3)).cell? ⟨w.heap.size, k, none⟩ = some (.int .i64 z) := by
  intro k hk
  have h := cells_at (heap_alloc_new w (.cells #[.int .i64 0, .int .i64 1, .int .i64 2, .int .i64 5, .int .i64 60000] 3)) k
  match k, hk with
  | 0, _ => exact ⟨_, trivial, h⟩
  | 1, _ => exact ⟨_, trivial, h⟩
  | 2, _ => exact ⟨_, trivial, h⟩
  | 3, _ => exact ⟨_, trivial, h⟩
  | 4, _ => exact ⟨_, trivial, h⟩

theorem fourb_cells (w : World) : ∀ k, k < 4 → ∃ z : Int, True ∧ (w.alloc (.cells #[.int .i64 1, .int .i64 2, .int .i64 5, .int .i64 60000] 3)).cell? ⟨w.heap.size, k, none⟩ = some (.int .i64 z) := by
  intro k hk
  have h := cells_at (heap_alloc_new w (.cells #[.int .i64 1, .int .i64 2, .int .i64 5, .int .i64 60000] 3)) k
  match k, hk with
  | 0, _ => exact ⟨_, trivial, h⟩
  | 1, _ => exact ⟨_, trivial, h⟩
  | 2, _ => exact ⟨_, trivial, h⟩
  | 3, _ => exact ⟨_, trivial, h⟩

end Go.Proofs.Ytmpfjlkncpckgaa
