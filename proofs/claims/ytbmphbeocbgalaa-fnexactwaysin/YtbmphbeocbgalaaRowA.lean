/-
  Rows of a known number of cells, told by a function.
-/
import Derived.Test.YtbmphbeocbgalaaGrA
import Derived.Deep.OwnRows
namespace Go.Proofs.Ytbmphbeocbgalaa
open Go.RowKit

def rowA (f : Nat → Value) (n : Nat) : Array Value := ((List.range n).map f).toArray

theorem rowA_at {f : Nat → Value} {n i : Nat} (h : i < n) : (rowA f n)[i]? = some (f i) := by
  simp [rowA, h]

theorem rowA_size (f : Nat → Value) (n : Nat) : (rowA f n).size = n := by simp [rowA]

theorem rowA_set (f : Nat → Value) (n i : Nat) (x : Value) : (rowA f n).setIfInBounds i x = rowA (fun j => if j = i then x else f j) n := by
  apply Array.ext
  · simp [rowA]
  · intro j h1 h2
    have hj : j < n := by simpa [rowA] using h2
    simp [rowA]
    by_cases e : i = j
    · subst e; simp
    · have e' : ¬ j = i := fun h => e h.symm
      simp [e, e']

theorem rowA_congr {f g : Nat → Value} {n : Nat} (h : ∀ i, i < n → f i = g i) : rowA f n = rowA g n := by
  unfold rowA
  congr 1
  apply List.map_congr_left
  intro i hi
  exact h i (List.mem_range.1 hi)

theorem rowA_const (x : Value) (n : Nat) : rowA (fun _ => x) n = Array.replicate n x := by
  apply Array.ext
  · simp [rowA]
  · intro j h1 h2
    simp [rowA]

theorem rowA_cell {W : World} {b n i : Nat} {f : Nat → Value} {t : TypeId} (h : W.heap[b]? = some (.cells (rowA f n) t)) (hi : i < n) : W.cell? ⟨b, i, none⟩ = some (f i) := by
  have e := cells_at h i
  rw [rowA_at hi] at e
  exact e

theorem rowA_put {W : World} {b n i : Nat} {f : Nat → Value} {t : TypeId} (h : W.heap[b]? = some (.cells (rowA f n) t)) (x : Value) : (W.setCell ⟨b, i, none⟩ x).heap[b]? = some (.cells (rowA (fun j => if j = i then x else f j) n) t) := by
  have e := heap_setCell_same W b i _ _ x h
  rw [rowA_set] at e
  exact e
theorem rowA_made (z : Value) (n : Nat) : madeCells #[z] n = rowA (fun _ => z) n := by
  apply Array.ext
  · simp [rowA, madeCells]
  · intro j h1 h2
    simp [rowA, madeCells, Nat.mod_one]

theorem wpList_make_rowA {P : Program} (w : World) {ops : Array Oper} {rest : List Oper} {o : Oper} {a : Act} {Q : Exit → Act → World → Prop}
    (hg : o.guard = none) (l c : Operand) (t : TypeId) (hop : o.op = Op.makeSlice t l c)
    (e : TypeId) (z : Value) (bytes : Nat) (ht : P.underlying t = some (.slice e)) (hinfo : (P.info? e).map (fun i => (i.zero, i.size, i.bytes)) = some (some z, 1, bytes)) (hz1 : z.cells = #[z])
    (n : Nat) (hl : a.eval l = .int .i64 (n : Int)) (hc : a.eval c = .int .i64 (n : Int)) (hbytes : bytes * n ≤ 281474976710656) (h63 : n ≤ 9223372036854775807)
    (hK : wpList P ops Q rest (a.put o.dst (.slice (some ⟨w.heap.size, 0, none⟩) n n)) (w.alloc (.cells (rowA (fun _ => z) n) e))) :
    wpList P ops Q (o :: rest) a w := by
  obtain ⟨i, hi, hzz⟩ := Option.map_eq_some_iff.1 hinfo
  simp only [Prod.mk.injEq] at hzz
  obtain ⟨hz, hs, hb⟩ := hzz
  refine wpList_make_row w hg l c t hop e i z ht hi hz hs hz1 .i64 .i64 n hl hc (by rw [hb]; exact hbytes) h63 ?_
  rw [rowA_made]
  exact hK
end Go.Proofs.Ytbmphbeocbgalaa
