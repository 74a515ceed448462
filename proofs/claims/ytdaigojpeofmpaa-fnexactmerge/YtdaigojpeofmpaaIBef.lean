/-
  A key of four numbers in a block.
-/
import Derived.Test.YtdaigojpeofmpaaIKey
import Derived.Test.YtdaigojpeofmpaaIsIn
import Derived.Test.YtdaigojpeofmpaaBefS
import Derived.Test.YtdaigojpeofmpaaReg
namespace Go.Proofs.Ytdaigojpeofmpaa
open Go.RowKit

/-- a key of four numbers lies in block p -/
def KeyAt (W : World) (p : Nat) (a b c d : Int) : Prop := (W.cell? ⟨p, 0, none⟩ = some (.int .i64 a) ∧ W.cell? ⟨p, 1, none⟩ = some (.int .i64 b) ∧ W.cell? ⟨p, 2, none⟩ = some (.int .i64 c) ∧ W.cell? ⟨p, 3, none⟩ = some (.int .i64 d)) ∧ W.frozen? ⟨p, 0, none⟩ = false ∧ W.frozen? ⟨p, 1, none⟩ = false ∧ W.frozen? ⟨p, 2, none⟩ = false ∧ W.frozen? ⟨p, 3, none⟩ = false

theorem keyAt_new (X : World) : KeyAt (X.alloc (.cells #[.int .i64 0, .int .i64 0, .int .i64 0, .int .i64 0] 88)) X.heap.size 0 0 0 0 := by
  have h := heap_alloc_new X (.cells #[.int .i64 0, .int .i64 0, .int .i64 0, .int .i64 0] 88)
  exact ⟨⟨cells_at h 0, cells_at h 1, cells_at h 2, cells_at h 3⟩, frozen_at h 0, frozen_at h 1, frozen_at h 2, frozen_at h 3⟩

theorem KeyAt.lt {W : World} {p : Nat} {a b c d : Int} (h : KeyAt W p a b c d) : p < W.heap.size := World.block_lt_of_cell? W _ h.1.1

theorem KeyAt.below {W w2 : World} {p : Nat} {a b c d : Int} (h : KeyAt W p a b c d) (hb : Below W.heap.size W w2) : KeyAt w2 p a b c d := by
  have hp := h.lt
  obtain ⟨⟨h0, h1, h2, h3⟩, f0, f1, f2, f3⟩ := h
  refine ⟨⟨?_, ?_, ?_, ?_⟩, ?_, ?_, ?_, ?_⟩
  · rw [hb.cell (p := ⟨p, 0, none⟩) hp]; exact h0
  · rw [hb.cell (p := ⟨p, 1, none⟩) hp]; exact h1
  · rw [hb.cell (p := ⟨p, 2, none⟩) hp]; exact h2
  · rw [hb.cell (p := ⟨p, 3, none⟩) hp]; exact h3
  · rw [hb.frozen (p := ⟨p, 0, none⟩) hp]; exact f0
  · rw [hb.frozen (p := ⟨p, 1, none⟩) hp]; exact f1
  · rw [hb.frozen (p := ⟨p, 2, none⟩) hp]; exact f2
  · rw [hb.frozen (p := ⟨p, 3, none⟩) hp]; exact f3

theorem KeyAt.alloc {W : World} {p : Nat} {a b c d : Int} (h : KeyAt W p a b c d) (o : Obj) : KeyAt (W.alloc o) p a b c d := h.below ((Below.refl _ _).alloc (Nat.le_refl _) _)

def putKey (W : World) (p : Nat) (a b c d : Int) : World := (((W.setCell ⟨p, 0, none⟩ (.int .i64 a)).setCell ⟨p, 1, none⟩ (.int .i64 b)).setCell ⟨p, 2, none⟩ (.int .i64 c)).setCell ⟨p, 3, none⟩ (.int .i64 d)

theorem below_put {B p : Nat} {w W : World} (g : Below B w W) (hp : B ≤ p) (a b c d : Int) : Below B w (putKey W p a b c d) := by
  unfold putKey
  repeat (refine Below.setCell ?_ (by show B ≤ p; exact hp) _)
  exact g

theorem keyAt_put_ne {W : World} {p q : Nat} {k l m n : Int} (h : KeyAt W q k l m n) (hpq : p ≠ q) (a b c d : Int) : KeyAt (putKey W p a b c d) q k l m n := by
  have e : (putKey W p a b c d).heap[q]? = W.heap[q]? := by
    unfold putKey
    rw [heap_setCell_other _ ⟨p, 3, none⟩ _ _ (by show q ≠ p; omega), heap_setCell_other _ ⟨p, 2, none⟩ _ _ (by show q ≠ p; omega), heap_setCell_other _ ⟨p, 1, none⟩ _ _ (by show q ≠ p; omega), heap_setCell_other _ ⟨p, 0, none⟩ _ _ (by show q ≠ p; omega)]
  obtain ⟨⟨h0, h1, h2, h3⟩, f0, f1, f2, f3⟩ := h
  refine ⟨⟨?_, ?_, ?_, ?_⟩, ?_, ?_, ?_, ?_⟩
  · exact (World.cell?_of_block (w := W) (a := ⟨q, 0, none⟩) e).trans h0
  · exact (World.cell?_of_block (w := W) (a := ⟨q, 1, none⟩) e).trans h1
  · exact (World.cell?_of_block (w := W) (a := ⟨q, 2, none⟩) e).trans h2
  · exact (World.cell?_of_block (w := W) (a := ⟨q, 3, none⟩) e).trans h3
  · exact (World.frozen?_of_block (w := W) (a := ⟨q, 0, none⟩) e).trans f0
  · exact (World.frozen?_of_block (w := W) (a := ⟨q, 1, none⟩) e).trans f1
  · exact (World.frozen?_of_block (w := W) (a := ⟨q, 2, none⟩) e).trans f2
  · exact (World.frozen?_of_block (w := W) (a := ⟨q, 3, none⟩) e).trans f3

theorem keyAt_put {W : World} {p : Nat} {k l m n : Int} (h : KeyAt W p k l m n) (a b c d : Int) : KeyAt (putKey W p a b c d) p a b c d := by
  obtain ⟨⟨h0, h1, h2, h3⟩, f0, f1, f2, f3⟩ := h
  unfold putKey
  refine ⟨⟨?_, ?_, ?_, ?_⟩, ?_, ?_, ?_, ?_⟩ <;> go_simp

theorem KeyAt.same {W W' : World} {p : Nat} {a b c d : Int} (h : KeyAt W p a b c d) (e : W.heap = W'.heap) : KeyAt W' p a b c d := by
  unfold KeyAt World.cell? World.frozen? at *
  rw [← e]
  exact h
end Go.Proofs.Ytdaigojpeofmpaa
