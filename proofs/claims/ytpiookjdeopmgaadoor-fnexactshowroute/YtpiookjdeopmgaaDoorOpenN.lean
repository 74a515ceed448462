/-
  Slices of structs of any number of cells, opened at every index (cut out of OpenRecs).
-/
import Derived.Test.YtpiookjdeopmgaaDoorOpen2
namespace Go.Proofs.YtpiookjdeopmgaaDoor
open Go.RowKit Go.ChangeShapes Go.WideShapes

section
variable {H : Type} {enc : TypeId × Value → H} {P : Program} {w : World} {base : Nat} {spare : Nat → Bool} {held : Bool}

/-- a slice of structs of sz cells: each element by a reading of its cells -/
theorem open_structsN {α : Type} [Inhabited α] {encE : α → List Value} {sz : Nat} (hpos : 0 < sz) {R : α → Prop} (hsz : ∀ a, (encE a).length = sz) {t e : TypeId} {fuel : Nat} {cs : List Value} {x : DataW H × List MemPlace} (ht : P.underlying t = some (.slice e)) (ce : P.cellsOf e = sz)
    (hel : ∀ fuel cs x, DataW.trod enc P w base spare held fuel e cs = some x → ∃ a : α, cs = encE a ∧ R a) (h : DataW.trod enc P w base spare held fuel t cs = some x) :
    ∃ v xs, cs = [v] ∧ StructsAt encE sz w v xs w.heap.size ∧ xs.length ≤ maxLen ∧ ∀ a ∈ xs, R a := by
  rcases Go.Deep.open_slice ht h with ⟨h0, _⟩ | ⟨a, len, cap, m, n, D, Pl, rfl, hb, hlc, hcm, hmm, _, hx⟩
  · exact ⟨_, [], h0, ⟨none, 0, rfl, .inl rfl⟩, by simp, by simp⟩
  · have hlm : len ≤ m := by rw [hmm]; split <;> omega
    have each : ∀ i, i < len → ∃ q : α, R q ∧ ∀ r u, (encE q)[r]? = some u → w.cell? (a.add (i * sz + r)) = some u := by
      intro i hi
      obtain ⟨cs', h1, h2⟩ := hx i (by omega)
      rw [ce] at h1
      obtain ⟨_, hlen, hcell⟩ := World.cells?_some h1
      obtain ⟨q, rfl, hR⟩ := hel _ _ _ h2
      refine ⟨q, hR, fun r u hu => ?_⟩
      have hr : r < sz := by have := (List.getElem?_eq_some_iff.1 hu).1; rw [hsz] at this; exact this
      rw [← Go.Deep.add_add, hcell r hr, hu]
    obtain ⟨q, hq⟩ := Go.Deep.choose_lt each
    refine ⟨_, (List.range len).map q, rfl, ?_, by simp; omega, fun a ha => by obtain ⟨i, hi, rfl⟩ := List.mem_map.1 ha; exact (hq i (by simpa using hi)).1⟩
    have hl : ((List.range len).map q).length = len := by simp
    unfold StructsAt RowAt
    rw [hl]
    refine ⟨_, cap, rfl, ?_⟩
    by_cases hl0 : len = 0
    · exact .inl hl0
    · right
      have hsp : a.spot = none := by
        have hu : (encE (q 0))[0]? = some ((encE (q 0))[0]'(by rw [hsz]; exact hpos)) := List.getElem?_eq_getElem _
        have := World.cell?_spot ((hq 0 (by omega)).2 0 _ hu)
        simpa [Addr.add] using this
      have hblk : a.block < w.heap.size := by
        have hu : (encE (q 0))[0]? = some ((encE (q 0))[0]'(by rw [hsz]; exact hpos)) := List.getElem?_eq_getElem _
        have := World.block_lt_of_cell? w _ ((hq 0 (by omega)).2 0 _ hu)
        simpa [Addr.add] using this
      refine ⟨a.block, a.off, by obtain ⟨b, o, s⟩ := a; simp at hsp; rw [hsp], hblk, fun j hj => ?_⟩
      have e : j = j / sz * sz + j % sz := by rw [Nat.mul_comm]; exact (Nat.div_add_mod j sz).symm
      have hd : j / sz < len := Nat.div_lt_of_lt_mul (by rw [Nat.mul_comm]; exact hj)
      have hm4 : j % sz < sz := Nat.mod_lt _ hpos
      have hg := flat_get hsz ((List.range len).map q) (j / sz) (j % sz) (q (j / sz)) (by simp [hd]) hm4
      have hu : (encE (q (j / sz)))[j % sz]? = some ((encE (q (j / sz)))[j % sz]'(by rw [hsz]; exact hm4)) := List.getElem?_eq_getElem _
      have := (hq (j / sz) hd).2 (j % sz) _ hu
      rw [← e, add_none hsp] at this
      rw [this]
      rw [← e] at hg
      simp only [List.getD_eq_getElem?_getD, hg, hu]
      rfl
end
end Go.Proofs.YtpiookjdeopmgaaDoor
