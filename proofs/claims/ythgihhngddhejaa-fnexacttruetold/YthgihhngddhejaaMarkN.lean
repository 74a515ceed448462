/-
  laws.markNearS, heldNearS, markRecord, heldRecord: only the row's own memory turns; what was marked is held.
-/
import Derived.Test.YthgihhngddhejaaRecK
namespace Go.Proofs.Ythgihhngddhejaa
open Go.RowKit

def mk (q : Int) (i : Nat) : Nr := ⟨q + 2 * (i : Int), q + 2 * (i : Int) + 1⟩

def marks (q : Int) (n : Nat) : List Nr := (List.range n).map (mk q)

theorem marks_len (q : Int) (n : Nat) : (marks q n).length = n := by simp [marks]

theorem marks_all {q : Int} {n : Nat} {ys : List Nr} (hl : ys.length = n) (h : ∀ j, j < n → ys[j]? = some (mk q j)) : ys = marks q n := by
  apply List.ext_getElem?
  intro i
  by_cases hi : i < n
  · rw [h i hi]
    simp [marks, hi]
  · rw [List.getElem?_eq_none (by omega), List.getElem?_eq_none (by rw [marks_len]; omega)]

theorem owns_shapeS {w : World} {base size : Nat} {e : TypeId} {v : Value} {n : Nat} {xs : List Value} (h : w.ownsRow base e size v n xs) (hn : 0 < n) :
    ∃ g cap, v = .slice (some ⟨g, 0, none⟩) n cap ∧ base ≤ g ∧ g < w.heap.size := by
  rcases h.2 with ⟨_, h0⟩ | ⟨g, cap, cur, hv, hb, hg, _⟩
  · omega
  · exact ⟨g, cap, hv, hb, lt_of_heap hg⟩

theorem own_cell {w : World} {base size g cap : Nat} {e : TypeId} {n : Nat} {xs : List Value} (h : w.ownsRow base e size (.slice (some ⟨g, 0, none⟩) n cap) n xs) (j : Nat) (hj : j < n * size) : ∃ u, w.cell? ⟨g, j, none⟩ = some u := by
  rw [h.cellAt j hj]
  have hl : j < xs.length := by rw [h.1]; exact hj
  exact ⟨_, List.getElem?_eq_getElem hl⟩

theorem grown_refl (w : World) (r : Option Nat) : w.grownBy w r := ⟨rfl, rfl, rfl, Nat.le_refl _, fun _ _ _ => rfl⟩

theorem ret_int1 {a b : Int} (h : a = b) : Ending.returned (.int .i64 a) = .returned (.int .i64 b) := by rw [h]

end Go.Proofs.Ythgihhngddhejaa
