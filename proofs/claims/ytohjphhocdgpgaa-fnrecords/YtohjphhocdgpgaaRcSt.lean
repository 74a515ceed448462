/-
  A record under way while it is drawn.
-/
import Derived.Test.YtohjphhocdgpgaaRdN
import Derived.Test.YtohjphhocdgpgaaCurX
namespace Go.Proofs.Ytohjphhocdgpgaa
open Go.RowKit

def zeroC : Array Value := #[.int .i64 0, .int .i64 0, .int .i64 0, .int .i64 0, .int .i64 0, .slice none 0 0, .int .i64 0, .bool false]

/-- its box in block z, the result's cell in block B0, the cursor in block p, its row in blocks behind z -/
structure RcSt (w wr : World) (p B0 z : Nat) (a : Option Addr) (len cap : Nat) (v : Value) (x : RecD) : Prop where
  cur : Cur wr p a len cap
  low : w.heap.size ≤ B0
  gro : w.grownBy wr (some p)
  box : wr.heap[z]? = some (.cells (recC x v) 26)
  res : wr.heap[B0]? = some (.cells zeroC 26)
  own : wr.ownsRow (B0 + 1) 67 2 v x.near.length (flat nrE x.near)
  djn : some z ≠ v.ownBlock

theorem grown_of_below {w w' : World} (hb : Below w.heap.size w w') : w.grownBy w' none := ⟨hb.os, hb.tape, hb.output, hb.size, fun k hk _ => hb.block k hk⟩

/-- what a step leaves of the blocks that were there ahead, the cursor's aside -/
theorem gro_step {w a b : World} {p : Nat} {row : Option Nat} (h : w.grownBy a (some p)) (g : a.grownBy b row) (hr : ∀ k, row = some k → k = p ∨ w.heap.size ≤ k) : w.grownBy b (some p) :=
  ⟨g.os.trans h.os, g.tape.trans h.tape, g.output.trans h.output, Nat.le_trans h.size g.size, fun k hk hne => by
    rw [g.block k (Nat.lt_of_lt_of_le hk h.size) (fun e => by
      rcases hr k e.symm with h1 | h1
      · exact hne (by rw [h1])
      · omega), h.block k hk hne]⟩

theorem gro_refl (w : World) (row : Option Nat) : w.grownBy w row := ⟨rfl, rfl, rfl, Nat.le_refl _, fun _ _ _ => rfl⟩

theorem gro_alloc {w a : World} {p : Nat} (h : w.grownBy a (some p)) (o : Obj) : w.grownBy (a.alloc o) (some p) :=
  gro_step h (row := none) ⟨rfl, rfl, rfl, by simp, fun k hk _ => Below.heap_alloc _ _ _ hk⟩ (fun k e => by cases e)

theorem gro_same {w a b : World} {p : Nat} (h : w.grownBy a (some p)) (g : a.grownBy b (some p)) : w.grownBy b (some p) := gro_step h g (fun k e => .inl (by simpa using e.symm))

theorem gro_set {w a : World} {p : Nat} (h : w.grownBy a (some p)) (z i : Nat) (u : Value) (hz : w.heap.size ≤ z) : w.grownBy (a.setCell ⟨z, i, none⟩ u) (some p) :=
  gro_step h (grown_set a z i u) (fun k e => .inr (by simp at e; omega))

section
variable {w wr w' : World} {p B0 z : Nat} {a : Option Addr} {len cap : Nat} {v : Value} {x : RecD}

theorem RcSt.grown (h : RcSt w wr p B0 z a len cap v x) (hc : Cur w' p a len cap) (hg : wr.grownBy w' (some p)) (hp : p < B0) (hz : B0 < z) : RcSt w w' p B0 z a len cap v x where
  cur := hc
  low := h.low
  gro := gro_same h.gro hg
  box := by rw [hg.block z (lt_of_heap h.box) (by simp; omega)]; exact h.box
  res := by rw [hg.block B0 (lt_of_heap h.res) (by simp; omega)]; exact h.res
  own := kept_other h.own hg (by omega)
  djn := h.djn

theorem RcSt.below (h : RcSt w wr p B0 z a len cap v x) (hb : Below wr.heap.size wr w') : RcSt w w' p B0 z a len cap v x where
  cur := h.cur.grown (grown_of_below hb) (fun b _ => by simp)
  low := h.low
  gro := gro_step h.gro (grown_of_below hb) (fun k e => by cases e)
  box := by rw [hb.block z (lt_of_heap h.box)]; exact h.box
  res := by rw [hb.block B0 (lt_of_heap h.res)]; exact h.res
  own := owns_below h.own hb (Nat.le_refl _)
  djn := h.djn

theorem RcSt.alloc (h : RcSt w wr p B0 z a len cap v x) (o : Obj) : RcSt w (wr.alloc o) p B0 z a len cap v x := h.below ((Below.refl _ _).alloc (Nat.le_refl _) _)

theorem RcSt.drew (h : RcSt w wr p B0 z a len cap v x) : RcSt w wr.drew p B0 z a len cap v x := h.below (Below.refl _ _).drew

/-- a field that is no list -/
theorem RcSt.set (h : RcSt w wr p B0 z a len cap v x) (i : Nat) (u : Value) (y : RecD) (hy : y.near = x.near) (hC : (recC x v).setIfInBounds i u = recC y v) (hp : p < B0) (hz : B0 < z) : RcSt w (wr.setCell ⟨z, i, none⟩ u) p B0 z a len cap v y where
  cur := h.cur.grown (grown_set wr z i u) (fun b hb => by simp; omega)
  low := h.low
  gro := gro_set h.gro z i u (by have := h.low; omega)
  box := by rw [heap_setCell_same _ _ i _ _ u h.box, hC]
  res := by rw [heap_setCell_other wr ⟨z, i, none⟩ _ _ (by show B0 ≠ z; omega)]; exact h.res
  own := by
    rw [hy]
    refine h.own.kept (grown_set wr z i u) ?_
    cases hv : v.ownBlock with
    | none => exact .inl rfl
    | some g => exact .inr (fun e => h.djn (by rw [hv]; exact e.symm))
  djn := h.djn

/-- another row of nears, made by an append -/
theorem RcSt.put (h : RcSt w wr p B0 z a len cap v x) {o : Obj} {v' : Value} {l : List Nr} (hg : (wr.alloc o).grownBy w' v.ownBlock) (ho : w'.ownsRow (B0 + 1) 67 2 v' l.length (flat nrE l)) (hd : some z ≠ v'.ownBlock) (hp : p < B0) (hz : B0 < z) :
    RcSt w (w'.setCell ⟨z, 5, none⟩ v') p B0 z a len cap v' { x with near := l } :=
  have hlt := h.own.lt
  have hcu : Cur w' p a len cap := (cur_alloc h.cur o).grown hg (fun b hb e => by have := (hlt b e.symm).1; omega)
  have hbx : w'.heap[z]? = some (.cells (recC x v) 26) := by
    rw [hg.block z (by have := lt_of_heap h.box; simp; omega) h.djn, Below.heap_alloc _ _ _ (lt_of_heap h.box)]; exact h.box
  have hrs : w'.heap[B0]? = some (.cells zeroC 26) := by
    rw [hg.block B0 (by have := lt_of_heap h.res; simp; omega) (fun e => by have := (hlt B0 e.symm).1; omega), Below.heap_alloc _ _ _ (lt_of_heap h.res)]; exact h.res
  { cur := hcu.grown (grown_set w' z 5 v') (fun b hb => by simp; omega)
    low := h.low
    gro := gro_set (gro_step (gro_alloc h.gro o) hg (fun k hk => .inr (by have := (hlt k hk).1; have := h.low; omega))) z 5 v' (by have := h.low; omega)
    box := heap_setCell_same _ _ 5 _ _ v' hbx
    res := by rw [heap_setCell_other w' ⟨z, 5, none⟩ _ _ (by show B0 ≠ z; omega)]; exact hrs
    own := by
      refine ho.kept (grown_set w' z 5 v') ?_
      cases hv : v'.ownBlock with
      | none => exact .inl rfl
      | some g => exact .inr (fun e => hd (by rw [hv]; exact e.symm))
    djn := hd }
end

/-- the append's row doesn't lie where the box does -/
theorem row_ne_box {W : World} {base z n : Nat} {v : Value} {xs : List Value} {C : Array Value} {fr : Nat × Nat} (ho : W.ownsRow base 67 2 v n xs) (h : W.heap[z]? = some (.cells C 26 fr)) : some z ≠ v.ownBlock := by
  intro eq
  rcases ho.2 with ⟨h1, _⟩ | ⟨g', cap', cur', hv', _, hh', _⟩
  · rw [h1] at eq; simp [Value.ownBlock] at eq
  · rw [hv'] at eq
    simp [Value.ownBlock] at eq
    subst eq
    rw [h] at hh'
    simp at hh'
end Go.Proofs.Ytohjphhocdgpgaa
