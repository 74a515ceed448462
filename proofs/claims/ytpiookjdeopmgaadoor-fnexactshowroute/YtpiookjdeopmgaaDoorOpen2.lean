/-
  Slices of structs of two fields of one cell each, opened at every index.
-/
import Derived.Test.YtpiookjdeopmgaaDoorFlat
import Derived.Deep.Slices
import Derived.ChangeSame
import Derived.OpenShut
namespace Go.Proofs.YtpiookjdeopmgaaDoor
open Go.RowKit Go.ChangeShapes Go.WideShapes

section
variable {H : Type} {enc : TypeId × Value → H} {P : Program} {w : World} {base : Nat} {spare : Nat → Bool} {held : Bool}

theorem add_none {a : Addr} (h : a.spot = none) (j : Nat) : a.add j = ⟨a.block, a.off + j, none⟩ := by
  obtain ⟨b, o, s⟩ := a
  simp at h
  subst h
  simp only [Addr.add]
  split <;> simp_all

/-- two fields of one cell -/
theorem open_two {e : TypeId} {f0 f1 : Field} {fuel : Nat} {cs : List Value} {x : DataW H × List MemPlace} (he : P.underlying e = some (.struct #[f0, f1])) (ce : P.cellsOf e = 2)
    (o0 : f0.offset = 0) (o1 : f1.offset = 1) (c0 : P.cellsOf f0.type = 1) (c1 : P.cellsOf f1.type = 1)
    (h : DataW.trod enc P w base spare held fuel e cs = some x) :
    ∃ v0 v1 n y0 y1, cs = [v0, v1] ∧ DataW.trod enc P w base spare held n f0.type [v0] = some y0 ∧ DataW.trod enc P w base spare held n f1.type [v1] = some y1 := by
  obtain ⟨xs, k, hk, hxy, hcl, hxl, hf⟩ := DataW.trod_struct he h
  rw [ce] at hcl
  match xs, hxl, cs, hcl with
  | [y0, y1], _, [v0, v1], _ =>
    have g0 := hf 0 f0 rfl
    have g1 := hf 1 f1 rfl
    simp [o0, o1, c0, c1] at g0 g1
    exact ⟨v0, v1, k, y0, y1, rfl, g0, g1⟩

/-- a slice of such: each element by a reading of its two cells -/
theorem open_structs2 {α : Type} [Inhabited α] {encE : α → List Value} (hsz : ∀ a, (encE a).length = 2) {t e : TypeId} {fuel : Nat} {cs : List Value} {x : DataW H × List MemPlace} (ht : P.underlying t = some (.slice e)) (ce : P.cellsOf e = 2)
    (hel : ∀ fuel cs x, DataW.trod enc P w base spare held fuel e cs = some x → ∃ a : α, cs = encE a) (h : DataW.trod enc P w base spare held fuel t cs = some x) :
    ∃ v xs, cs = [v] ∧ StructsAt encE 2 w v xs w.heap.size ∧ xs.length ≤ maxLen := by
  rcases Go.Deep.open_slice ht h with ⟨h0, _⟩ | ⟨a, len, cap, m, n, D, Pl, rfl, hb, hlc, hcm, hmm, _, hx⟩
  · exact ⟨_, [], h0, ⟨none, 0, rfl, .inl rfl⟩, by simp⟩
  · have hlm : len ≤ m := by rw [hmm]; split <;> omega
    have each : ∀ i, i < len → ∃ q : α, ∀ r u, (encE q)[r]? = some u → w.cell? (a.add (i * 2 + r)) = some u := by
      intro i hi
      obtain ⟨cs', h1, h2⟩ := hx i (by omega)
      rw [ce] at h1
      obtain ⟨_, hlen, hcell⟩ := World.cells?_some h1
      obtain ⟨q, rfl⟩ := hel _ _ _ h2
      refine ⟨q, fun r u hu => ?_⟩
      have hr : r < 2 := by have := (List.getElem?_eq_some_iff.1 hu).1; rw [hsz] at this; exact this
      rw [← Go.Deep.add_add, hcell r hr, hu]
    obtain ⟨q, hq⟩ := Go.Deep.choose_lt each
    refine ⟨_, (List.range len).map q, rfl, ?_, by simp; omega⟩
    have hl : ((List.range len).map q).length = len := by simp
    unfold StructsAt RowAt
    rw [hl]
    refine ⟨_, cap, rfl, ?_⟩
    by_cases hl0 : len = 0
    · exact .inl hl0
    · right
      have hsp : a.spot = none := by
        have hu : (encE (q 0))[0]? = some ((encE (q 0))[0]'(by rw [hsz]; omega)) := List.getElem?_eq_getElem _
        have := World.cell?_spot (hq 0 (by omega) 0 _ hu)
        simpa [Addr.add] using this
      have hblk : a.block < w.heap.size := by
        have hu : (encE (q 0))[0]? = some ((encE (q 0))[0]'(by rw [hsz]; omega)) := List.getElem?_eq_getElem _
        have := World.block_lt_of_cell? w _ (hq 0 (by omega) 0 _ hu)
        simpa [Addr.add] using this
      refine ⟨a.block, a.off, by obtain ⟨b, o, s⟩ := a; simp at hsp; rw [hsp], hblk, fun j hj => ?_⟩
      have e : j = j / 2 * 2 + j % 2 := by omega
      have hd : j / 2 < len := by omega
      have hm4 : j % 2 < 2 := by omega
      have hg := flat_get hsz ((List.range len).map q) (j / 2) (j % 2) (q (j / 2)) (by simp [hd]) hm4
      have hu : (encE (q (j / 2)))[j % 2]? = some ((encE (q (j / 2)))[j % 2]'(by rw [hsz]; exact hm4)) := List.getElem?_eq_getElem _
      have := hq (j / 2) hd (j % 2) _ hu
      rw [← e, add_none hsp] at this
      rw [this]
      rw [← e] at hg
      simp only [List.getD_eq_getElem?_getD, hg, hu]
      rfl
end
end Go.Proofs.YtpiookjdeopmgaaDoor
