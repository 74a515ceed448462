/-
  Slices of structs of four fields of one cell each, opened at every index.
  An argument of type laws.Net, opened.
  Slices of structs of two fields of one cell each, opened at every index.
  An argument of type laws.Record, opened.
  Slices of structs of any number of cells, opened at every index (cut out of OpenRecs).
  An argument of type []laws.Record, opened.
  An argument of type laws.Way, opened.
  An argument of type []int, opened.
  An argument of type laws.Self, opened.
-/
import Derived.Test.YtcimbiinljcifaaGreatLe1
import Derived.Deep.Slices
import Derived.ChangeSame
import Derived.OpenShut
import Derived.Test.YtcimbiinljcifaaGreatLe2
import Derived.Test.YtcimbiinljcifaaGreatLe3
import Derived.Test.YtcimbiinljcifaaGreatLe5
import Derived.Test.YtcimbiinljcifaaGreatLe7
namespace Go.Proofs.YtcimbiinljcifaaGreat
open Go.RowKit Go.ChangeShapes Go.WideShapes

section
variable {H : Type} {enc : TypeId × Value → H} {P : Program} {w : World} {base : Nat} {spare : Nat → Bool} {held : Bool}

theorem add_none4 {a : Addr} (h : a.spot = none) (j : Nat) : a.add j = ⟨a.block, a.off + j, none⟩ := by
  obtain ⟨b, o, s⟩ := a
  simp at h
  subst h
  simp only [Addr.add]
  split <;> simp_all

/-- four fields of one cell -/
theorem open_four {e : TypeId} {f0 f1 f2 f3 : Field} {fuel : Nat} {cs : List Value} {x : DataW H × List MemPlace} (he : P.underlying e = some (.struct #[f0, f1, f2, f3])) (ce : P.cellsOf e = 4)
    (o0 : f0.offset = 0) (o1 : f1.offset = 1) (o2 : f2.offset = 2) (o3 : f3.offset = 3) (c0 : P.cellsOf f0.type = 1) (c1 : P.cellsOf f1.type = 1) (c2 : P.cellsOf f2.type = 1) (c3 : P.cellsOf f3.type = 1)
    (h : DataW.trod enc P w base spare held fuel e cs = some x) :
    ∃ v0 v1 v2 v3 n y0 y1 y2 y3, cs = [v0, v1, v2, v3] ∧ DataW.trod enc P w base spare held n f0.type [v0] = some y0 ∧ DataW.trod enc P w base spare held n f1.type [v1] = some y1 ∧
      DataW.trod enc P w base spare held n f2.type [v2] = some y2 ∧ DataW.trod enc P w base spare held n f3.type [v3] = some y3 := by
  obtain ⟨xs, k, hk, hxy, hcl, hxl, hf⟩ := DataW.trod_struct he h
  rw [ce] at hcl
  match xs, hxl, cs, hcl with
  | [y0, y1, y2, y3], _, [v0, v1, v2, v3], _ =>
    have g0 := hf 0 f0 rfl
    have g1 := hf 1 f1 rfl
    have g2 := hf 2 f2 rfl
    have g3 := hf 3 f3 rfl
    simp [o0, o1, o2, o3, c0, c1, c2, c3] at g0 g1 g2 g3
    exact ⟨v0, v1, v2, v3, k, y0, y1, y2, y3, rfl, g0, g1, g2, g3⟩

/-- a slice of such: each element by a reading of its four cells -/
theorem open_structs {α : Type} [Inhabited α] {encE : α → List Value} (hsz : ∀ a, (encE a).length = 4) {t e : TypeId} {fuel : Nat} {cs : List Value} {x : DataW H × List MemPlace} (ht : P.underlying t = some (.slice e)) (ce : P.cellsOf e = 4)
    (hel : ∀ fuel cs x, DataW.trod enc P w base spare held fuel e cs = some x → ∃ a : α, cs = encE a) (h : DataW.trod enc P w base spare held fuel t cs = some x) :
    ∃ v xs, cs = [v] ∧ StructsAt encE 4 w v xs w.heap.size ∧ xs.length ≤ maxLen := by
  rcases Go.Deep.open_slice ht h with ⟨h0, _⟩ | ⟨a, len, cap, m, n, D, Pl, rfl, hb, hlc, hcm, hmm, _, hx⟩
  · exact ⟨_, [], h0, ⟨none, 0, rfl, .inl rfl⟩, by simp⟩
  · have hlm : len ≤ m := by rw [hmm]; split <;> omega
    have each : ∀ i, i < len → ∃ q : α, ∀ r u, (encE q)[r]? = some u → w.cell? (a.add (i * 4 + r)) = some u := by
      intro i hi
      obtain ⟨cs', h1, h2⟩ := hx i (by omega)
      rw [ce] at h1
      obtain ⟨_, hlen, hcell⟩ := World.cells?_some h1
      obtain ⟨q, rfl⟩ := hel _ _ _ h2
      refine ⟨q, fun r u hu => ?_⟩
      have hr : r < 4 := by have := (List.getElem?_eq_some_iff.1 hu).1; rw [hsz] at this; exact this
      rw [← Go.Deep.add_add, hcell r hr, hu]
    obtain ⟨q, hq⟩ := Go.Deep.choose_lt each
    refine ⟨_, (List.range len).map q, rfl, ?_, by simp; omega⟩
    have hl : ((List.range len).map q).length = len := by simp
    unfold StructsAt RowAt
    rw [hl]
    refine ⟨_, cap, rfl, ?_⟩
    by_cases hl0 : len = 0
    · exact .inl hl0
    · right
      have hsp : a.spot = none := by
        have hu : (encE (q 0))[0]? = some ((encE (q 0))[0]'(by rw [hsz]; omega)) := List.getElem?_eq_getElem _
        have := World.cell?_spot (hq 0 (by omega) 0 _ hu)
        simpa [Addr.add] using this
      have hblk : a.block < w.heap.size := by
        have hu : (encE (q 0))[0]? = some ((encE (q 0))[0]'(by rw [hsz]; omega)) := List.getElem?_eq_getElem _
        have := World.block_lt_of_cell? w _ (hq 0 (by omega) 0 _ hu)
        simpa [Addr.add] using this
      refine ⟨a.block, a.off, by obtain ⟨b, o, s⟩ := a; simp at hsp; rw [hsp], hblk, fun j hj => ?_⟩
      have e : j = j / 4 * 4 + j % 4 := by omega
      have hd : j / 4 < len := by omega
      have hm4 : j % 4 < 4 := by omega
      have hg := flat_get hsz ((List.range len).map q) (j / 4) (j % 4) (q (j / 4)) (by simp [hd]) hm4
      have hu : (encE (q (j / 4)))[j % 4]? = some ((encE (q (j / 4)))[j % 4]'(by rw [hsz]; exact hm4)) := List.getElem?_eq_getElem _
      have := hq (j / 4) hd (j % 4) _ hu
      rw [← e, add_none4 hsp] at this
      rw [this]
      rw [← e] at hg
      simp only [List.getD_eq_getElem?_getD, hg, hu]
      rfl
end
end Go.Proofs.YtcimbiinljcifaaGreat
namespace Go.Proofs.YtcimbiinljcifaaGreat
open Go.RowKit Go.ChangeShapes Go.WideShapes

section
variable {H : Type} {enc : TypeId × Value → H} {w : World} {base : Nat} {spare : Nat → Bool} {held : Bool}

instance : Inhabited Lk := ⟨⟨0, 0, 0, 0⟩⟩
instance : Inhabited Th := ⟨⟨0, 0, 0, false⟩⟩

theorem open_link {fuel : Nat} {cs : List Value} {x : DataW H × List MemPlace} (h : DataW.trod enc Tryz.prog w base spare held fuel 163 cs = some x) : ∃ l : Lk, cs = lkE l := by
  obtain ⟨v0, v1, v2, v3, n, y0, y1, y2, y3, rfl, h0, h1, h2, h3⟩ := open_four Tryz.underlying163 (by kernel_rfl) rfl rfl rfl rfl (by kernel_rfl) (by kernel_rfl) (by kernel_rfl) (by kernel_rfl) h
  obtain ⟨a, ha, _⟩ := DataW.trod_int Tryz.underlying3 h0
  obtain ⟨b, hb, _⟩ := DataW.trod_int Tryz.underlying3 h1
  obtain ⟨c, hc, _⟩ := DataW.trod_int Tryz.underlying3 h2
  obtain ⟨r, hr, _⟩ := DataW.trod_int Tryz.underlying3 h3
  exact ⟨⟨a, b, c, r⟩, by cases ha; cases hb; cases hc; cases hr; rfl⟩

theorem open_thing {fuel : Nat} {cs : List Value} {x : DataW H × List MemPlace} (h : DataW.trod enc Tryz.prog w base spare held fuel 165 cs = some x) : ∃ l : Th, cs = thE l := by
  obtain ⟨v0, v1, v2, v3, n, y0, y1, y2, y3, rfl, h0, h1, h2, h3⟩ := open_four Tryz.underlying165 (by kernel_rfl) rfl rfl rfl rfl (by kernel_rfl) (by kernel_rfl) (by kernel_rfl) (by kernel_rfl) h
  obtain ⟨a, ha, _⟩ := DataW.trod_int Tryz.underlying3 h0
  obtain ⟨b, hb, _⟩ := DataW.trod_int Tryz.underlying3 h1
  obtain ⟨c, hc, _⟩ := DataW.trod_int Tryz.underlying3 h2
  obtain ⟨r, hr, _⟩ := DataW.trod_bool Tryz.underlying4 h3
  exact ⟨⟨a, b, c, r⟩, by cases ha; cases hb; cases hc; cases hr; rfl⟩

end
end Go.Proofs.YtcimbiinljcifaaGreat
namespace Go.Proofs.YtcimbiinljcifaaGreat
open Go.RowKit Go.ChangeShapes Go.WideShapes

section
variable {H : Type} {enc : TypeId × Value → H} {P : Program} {w : World} {base : Nat} {spare : Nat → Bool} {held : Bool}

theorem add_none {a : Addr} (h : a.spot = none) (j : Nat) : a.add j = ⟨a.block, a.off + j, none⟩ := by
  obtain ⟨b, o, s⟩ := a
  simp at h
  subst h
  simp only [Addr.add]
  split <;> simp_all

/-- two fields of one cell -/
theorem open_two {e : TypeId} {f0 f1 : Field} {fuel : Nat} {cs : List Value} {x : DataW H × List MemPlace} (he : P.underlying e = some (.struct #[f0, f1])) (ce : P.cellsOf e = 2)
    (o0 : f0.offset = 0) (o1 : f1.offset = 1) (c0 : P.cellsOf f0.type = 1) (c1 : P.cellsOf f1.type = 1)
    (h : DataW.trod enc P w base spare held fuel e cs = some x) :
    ∃ v0 v1 n y0 y1, cs = [v0, v1] ∧ DataW.trod enc P w base spare held n f0.type [v0] = some y0 ∧ DataW.trod enc P w base spare held n f1.type [v1] = some y1 := by
  obtain ⟨xs, k, hk, hxy, hcl, hxl, hf⟩ := DataW.trod_struct he h
  rw [ce] at hcl
  match xs, hxl, cs, hcl with
  | [y0, y1], _, [v0, v1], _ =>
    have g0 := hf 0 f0 rfl
    have g1 := hf 1 f1 rfl
    simp [o0, o1, c0, c1] at g0 g1
    exact ⟨v0, v1, k, y0, y1, rfl, g0, g1⟩

/-- a slice of such: each element by a reading of its two cells -/
theorem open_structs2 {α : Type} [Inhabited α] {encE : α → List Value} (hsz : ∀ a, (encE a).length = 2) {t e : TypeId} {fuel : Nat} {cs : List Value} {x : DataW H × List MemPlace} (ht : P.underlying t = some (.slice e)) (ce : P.cellsOf e = 2)
    (hel : ∀ fuel cs x, DataW.trod enc P w base spare held fuel e cs = some x → ∃ a : α, cs = encE a) (h : DataW.trod enc P w base spare held fuel t cs = some x) :
    ∃ v xs, cs = [v] ∧ StructsAt encE 2 w v xs w.heap.size ∧ xs.length ≤ maxLen := by
  rcases Go.Deep.open_slice ht h with ⟨h0, _⟩ | ⟨a, len, cap, m, n, D, Pl, rfl, hb, hlc, hcm, hmm, _, hx⟩
  · exact ⟨_, [], h0, ⟨none, 0, rfl, .inl rfl⟩, by simp⟩
  · have hlm : len ≤ m := by rw [hmm]; split <;> omega
    have each : ∀ i, i < len → ∃ q : α, ∀ r u, (encE q)[r]? = some u → w.cell? (a.add (i * 2 + r)) = some u := by
      intro i hi
      obtain ⟨cs', h1, h2⟩ := hx i (by omega)
      rw [ce] at h1
      obtain ⟨_, hlen, hcell⟩ := World.cells?_some h1
      obtain ⟨q, rfl⟩ := hel _ _ _ h2
      refine ⟨q, fun r u hu => ?_⟩
      have hr : r < 2 := by have := (List.getElem?_eq_some_iff.1 hu).1; rw [hsz] at this; exact this
      rw [← Go.Deep.add_add, hcell r hr, hu]
    obtain ⟨q, hq⟩ := Go.Deep.choose_lt each
    refine ⟨_, (List.range len).map q, rfl, ?_, by simp; omega⟩
    have hl : ((List.range len).map q).length = len := by simp
    unfold StructsAt RowAt
    rw [hl]
    refine ⟨_, cap, rfl, ?_⟩
    by_cases hl0 : len = 0
    · exact .inl hl0
    · right
      have hsp : a.spot = none := by
        have hu : (encE (q 0))[0]? = some ((encE (q 0))[0]'(by rw [hsz]; omega)) := List.getElem?_eq_getElem _
        have := World.cell?_spot (hq 0 (by omega) 0 _ hu)
        simpa [Addr.add] using this
      have hblk : a.block < w.heap.size := by
        have hu : (encE (q 0))[0]? = some ((encE (q 0))[0]'(by rw [hsz]; omega)) := List.getElem?_eq_getElem _
        have := World.block_lt_of_cell? w _ (hq 0 (by omega) 0 _ hu)
        simpa [Addr.add] using this
      refine ⟨a.block, a.off, by obtain ⟨b, o, s⟩ := a; simp at hsp; rw [hsp], hblk, fun j hj => ?_⟩
      have e : j = j / 2 * 2 + j % 2 := by omega
      have hd : j / 2 < len := by omega
      have hm4 : j % 2 < 2 := by omega
      have hg := flat_get hsz ((List.range len).map q) (j / 2) (j % 2) (q (j / 2)) (by simp [hd]) hm4
      have hu : (encE (q (j / 2)))[j % 2]? = some ((encE (q (j / 2)))[j % 2]'(by rw [hsz]; exact hm4)) := List.getElem?_eq_getElem _
      have := hq (j / 2) hd (j % 2) _ hu
      rw [← e, add_none hsp] at this
      rw [this]
      rw [← e] at hg
      simp only [List.getD_eq_getElem?_getD, hg, hu]
      rfl
end
end Go.Proofs.YtcimbiinljcifaaGreat
namespace Go.Proofs.YtcimbiinljcifaaGreat
open Go.RowKit Go.ChangeShapes Go.WideShapes

section
variable {H : Type} {enc : TypeId × Value → H} {w : World} {base : Nat} {spare : Nat → Bool} {held : Bool}

theorem open_near {fuel : Nat} {cs : List Value} {x : DataW H × List MemPlace} (h : DataW.trod enc Tryz.prog w base spare held fuel 167 cs = some x) : ∃ l : Nr, cs = nrE l := by
  obtain ⟨v0, v1, n, y0, y1, rfl, h0, h1⟩ := open_two Tryz.underlying167 (by kernel_rfl) rfl rfl (by kernel_rfl) (by kernel_rfl) h
  obtain ⟨a, ha, _⟩ := DataW.trod_int Tryz.underlying3 h0
  obtain ⟨b, hb, _⟩ := DataW.trod_int Tryz.underlying3 h1
  exact ⟨⟨a, b⟩, by cases ha; cases hb; rfl⟩

end
end Go.Proofs.YtcimbiinljcifaaGreat
namespace Go.Proofs.YtcimbiinljcifaaGreat
open Go.RowKit Go.ChangeShapes Go.WideShapes

section
variable {H : Type} {enc : TypeId × Value → H} {P : Program} {w : World} {base : Nat} {spare : Nat → Bool} {held : Bool}

/-- a slice of structs of sz cells: each element by a reading of its cells -/
theorem open_structsN {α : Type} [Inhabited α] {encE : α → List Value} {sz : Nat} (hpos : 0 < sz) {R : α → Prop} (hsz : ∀ a, (encE a).length = sz) {t e : TypeId} {fuel : Nat} {cs : List Value} {x : DataW H × List MemPlace} (ht : P.underlying t = some (.slice e)) (ce : P.cellsOf e = sz)
    (hel : ∀ fuel cs x, DataW.trod enc P w base spare held fuel e cs = some x → ∃ a : α, cs = encE a ∧ R a) (h : DataW.trod enc P w base spare held fuel t cs = some x) :
    ∃ v xs, cs = [v] ∧ StructsAt encE sz w v xs w.heap.size ∧ xs.length ≤ maxLen ∧ ∀ a ∈ xs, R a := by
  rcases Go.Deep.open_slice ht h with ⟨h0, _⟩ | ⟨a, len, cap, m, n, D, Pl, rfl, hb, hlc, hcm, hmm, _, hx⟩
  · exact ⟨_, [], h0, ⟨none, 0, rfl, .inl rfl⟩, by simp, by simp⟩
  · have hlm : len ≤ m := by rw [hmm]; split <;> omega
    have each : ∀ i, i < len → ∃ q : α, R q ∧ ∀ r u, (encE q)[r]? = some u → w.cell? (a.add (i * sz + r)) = some u := by
      intro i hi
      obtain ⟨cs', h1, h2⟩ := hx i (by omega)
      rw [ce] at h1
      obtain ⟨_, hlen, hcell⟩ := World.cells?_some h1
      obtain ⟨q, rfl, hR⟩ := hel _ _ _ h2
      refine ⟨q, hR, fun r u hu => ?_⟩
      have hr : r < sz := by have := (List.getElem?_eq_some_iff.1 hu).1; rw [hsz] at this; exact this
      rw [← Go.Deep.add_add, hcell r hr, hu]
    obtain ⟨q, hq⟩ := Go.Deep.choose_lt each
    refine ⟨_, (List.range len).map q, rfl, ?_, by simp; omega, fun a ha => by obtain ⟨i, hi, rfl⟩ := List.mem_map.1 ha; exact (hq i (by simpa using hi)).1⟩
    have hl : ((List.range len).map q).length = len := by simp
    unfold StructsAt RowAt
    rw [hl]
    refine ⟨_, cap, rfl, ?_⟩
    by_cases hl0 : len = 0
    · exact .inl hl0
    · right
      have hsp : a.spot = none := by
        have hu : (encE (q 0))[0]? = some ((encE (q 0))[0]'(by rw [hsz]; exact hpos)) := List.getElem?_eq_getElem _
        have := World.cell?_spot ((hq 0 (by omega)).2 0 _ hu)
        simpa [Addr.add] using this
      have hblk : a.block < w.heap.size := by
        have hu : (encE (q 0))[0]? = some ((encE (q 0))[0]'(by rw [hsz]; exact hpos)) := List.getElem?_eq_getElem _
        have := World.block_lt_of_cell? w _ ((hq 0 (by omega)).2 0 _ hu)
        simpa [Addr.add] using this
      refine ⟨a.block, a.off, by obtain ⟨b, o, s⟩ := a; simp at hsp; rw [hsp], hblk, fun j hj => ?_⟩
      have e : j = j / sz * sz + j % sz := by rw [Nat.mul_comm]; exact (Nat.div_add_mod j sz).symm
      have hd : j / sz < len := Nat.div_lt_of_lt_mul (by rw [Nat.mul_comm]; exact hj)
      have hm4 : j % sz < sz := Nat.mod_lt _ hpos
      have hg := flat_get hsz ((List.range len).map q) (j / sz) (j % sz) (q (j / sz)) (by simp [hd]) hm4
      have hu : (encE (q (j / sz)))[j % sz]? = some ((encE (q (j / sz)))[j % sz]'(by rw [hsz]; exact hm4)) := List.getElem?_eq_getElem _
      have := (hq (j / sz) hd).2 (j % sz) _ hu
      rw [← e, add_none hsp] at this
      rw [this]
      rw [← e] at hg
      simp only [List.getD_eq_getElem?_getD, hg, hu]
      rfl
end
end Go.Proofs.YtcimbiinljcifaaGreat
namespace Go.Proofs.YtcimbiinljcifaaGreat
open Go.RowKit Go.ChangeShapes Go.WideShapes

instance : Inhabited RP := ⟨zP⟩

section
variable {H : Type} {enc : TypeId × Value → H} {w : World} {base : Nat} {spare : Nat → Bool} {held : Bool}

set_option maxRecDepth 100000 in
theorem open_recCells {fuel : Nat} {cs : List Value} {x : DataW H × List MemPlace} (hf : DataW.trod enc Tryz.prog w base spare held fuel 80 cs = some x) :
    ∃ p : RP, cs = encP p ∧ (NearsAt w p.2 p.1.near w.heap.size ∧ p.1.near.length ≤ maxLen) := by
  obtain ⟨xs, k, hk, hxy, hcl, hxl, hfl⟩ := DataW.trod_struct Tryz.underlying80 hf
  have hc8 : Tryz.prog.cellsOf 80 = 8 := by kernel_rfl
  rw [hc8] at hcl
  obtain ⟨v0, v1, v2, v3, v4, v5, v6, v7, rfl⟩ : ∃ v0 v1 v2 v3 v4 v5 v6 v7, cs = [v0, v1, v2, v3, v4, v5, v6, v7] := by
    match cs, hcl with
    | [v0, v1, v2, v3, v4, v5, v6, v7], _ => exact ⟨v0, v1, v2, v3, v4, v5, v6, v7, rfl⟩
  have g0 := hfl 0 _ rfl
  have g1 := hfl 1 _ rfl
  have g2 := hfl 2 _ rfl
  have g3 := hfl 3 _ rfl
  have g4 := hfl 4 _ rfl
  have g5 := hfl 5 _ rfl
  have g6 := hfl 6 _ rfl
  have g7 := hfl 7 _ rfl
  have k0 : Tryz.prog.cellsOf 3 = 1 := by kernel_rfl
  have k1 : Tryz.prog.cellsOf 78 = 1 := by kernel_rfl
  have k2 : Tryz.prog.cellsOf 4 = 1 := by kernel_rfl
  match xs, hxl with
  | [y0, y1, y2, y3, y4, y5, y6, y7], _ =>
    simp [k0, k1, k2] at g0 g1 g2 g3 g4 g5 g6 g7
    obtain ⟨z0, e0, _⟩ := DataW.trod_int Tryz.underlying3 g0
    obtain ⟨z1, e1, _⟩ := DataW.trod_int Tryz.underlying3 g1
    obtain ⟨z2, e2, _⟩ := DataW.trod_int Tryz.underlying3 g2
    obtain ⟨z3, e3, _⟩ := DataW.trod_int Tryz.underlying3 g3
    obtain ⟨z4, e4, _⟩ := DataW.trod_int Tryz.underlying3 g4
    obtain ⟨u5, ns, e5, hn, hnl⟩ := open_structs2 (encE := nrE) nrE_len Tryz.underlying78 (by kernel_rfl) (fun _ _ _ h => open_near h) g5
    obtain ⟨z6, e6, _⟩ := DataW.trod_int Tryz.underlying3 g6
    obtain ⟨z7, e7, _⟩ := DataW.trod_bool Tryz.underlying4 g7
    cases e0
    cases e1
    cases e2
    cases e3
    cases e4
    cases e5
    cases e6
    cases e7
    exact ⟨(⟨z0, z1, z2, z3, z4, ns, z6, z7⟩, v5), rfl, hn, hnl⟩

set_option maxRecDepth 100000 in
theorem open_records {r : Reach} {b0 : Nat} {v : Value} {d : DataW H} {ps : List MemPlace} (hval : Value.okWide Tryz.prog w r b0 47 v) (hd : DataW.Trod enc Tryz.prog w base spare held 47 v d ps) :
    ∃ qs : List RP, RecsAt w v qs w.heap.size ∧ qs.length ≤ maxLen ∧ ∀ p ∈ qs, p.1.near.length ≤ maxLen := by
  obtain ⟨a0, len0, cap0, rfl⟩ := okWide_slice Tryz.underlying47 hval
  obtain ⟨fuel, hf⟩ := hd
  obtain ⟨u, xs, hu, hs, hl, hR⟩ := open_structsN (encE := encP) (sz := 8) (by omega) encP_len Tryz.underlying47 (by kernel_rfl) (fun _ _ _ h => open_recCells h) hf
  simp [Value.cells] at hu
  subst hu
  exact ⟨xs, ⟨hs, fun p hp => (hR p hp).1⟩, hl, fun p hp => (hR p hp).2⟩
end
end Go.Proofs.YtcimbiinljcifaaGreat
namespace Go.Proofs.YtcimbiinljcifaaGreat
open Go.RowKit Go.ChangeShapes Go.WideShapes

section
variable {H : Type} {enc : TypeId × Value → H} {w : World} {base : Nat} {spare : Nat → Bool} {held : Bool}

theorem open_hop {fuel : Nat} {cs : List Value} {x : DataW H × List MemPlace} (h : DataW.trod enc Tryz.prog w base spare held fuel 3 cs = some x) : ∃ z : Int, cs = intE z ∧ True := by
  obtain ⟨a, ha, _⟩ := DataW.trod_int Tryz.underlying3 h
  exact ⟨a, ha, trivial⟩

end
end Go.Proofs.YtcimbiinljcifaaGreat
namespace Go.Proofs.YtcimbiinljcifaaGreat
open Go.RowKit Go.ChangeShapes Go.WideShapes

section
variable {H : Type} {enc : TypeId × Value → H} {w : World} {base : Nat} {spare : Nat → Bool} {held : Bool}

end
end Go.Proofs.YtcimbiinljcifaaGreat
namespace Go.Proofs.YtcimbiinljcifaaGreat
open Go.RowKit Go.ChangeShapes Go.WideShapes

section
variable {H : Type} {enc : TypeId × Value → H} {w : World} {base : Nat} {spare : Nat → Bool} {held : Bool}

set_option maxRecDepth 100000 in
theorem open_netCells {fuel : Nat} {cs : List Value} {x : DataW H × List MemPlace} (hf : DataW.trod enc Tryz.prog w base spare held fuel 46 cs = some x) :
    ∃ (y : NetD) (v1 v2 : Value), cs = [.int .i64 y.n, v1, v2] ∧ LinksAt w v1 y.ls w.heap.size ∧ ThingsAt w v2 y.ts w.heap.size ∧ y.ls.length ≤ maxLen ∧ y.ts.length ≤ maxLen := by
  obtain ⟨xs, k, hk, hxy, hcl, hxl, hfl⟩ := DataW.trod_struct Tryz.underlying46 hf
  have hc3 : Tryz.prog.cellsOf 46 = 3 := by kernel_rfl
  rw [hc3] at hcl
  obtain ⟨v0, v1, v2, rfl⟩ : ∃ v0 v1 v2, cs = [v0, v1, v2] := by
    match cs, hcl with
    | [v0, v1, v2], _ => exact ⟨v0, v1, v2, rfl⟩
  have g0 := hfl 0 _ rfl
  have g1 := hfl 1 _ rfl
  have g2 := hfl 2 _ rfl
  have k0 : Tryz.prog.cellsOf 3 = 1 := by kernel_rfl
  have k1 : Tryz.prog.cellsOf 43 = 1 := by kernel_rfl
  have k2 : Tryz.prog.cellsOf 44 = 1 := by kernel_rfl
  match xs, hxl with
  | [y0, y1, y2], _ =>
    simp [k0, k1, k2] at g0 g1 g2
    obtain ⟨n, hn, _⟩ := DataW.trod_int Tryz.underlying3 g0
    obtain ⟨u1, ls, e1, hl, hll⟩ := open_structs (encE := lkE) lkE_len Tryz.underlying43 (by kernel_rfl) (fun _ _ _ h => open_link h) g1
    obtain ⟨u2, ts, e2, ht, htl⟩ := open_structs (encE := thE) thE_len Tryz.underlying44 (by kernel_rfl) (fun _ _ _ h => open_thing h) g2
    cases hn
    cases e1
    cases e2
    exact ⟨⟨n, ls, ts⟩, v1, v2, rfl, hl, ht, hll, htl⟩

set_option maxRecDepth 100000 in
theorem open_self {r : Reach} {b0 : Nat} {v : Value} {d : DataW H} {ps : List MemPlace} (hval : Value.okWide Tryz.prog w r b0 49 v) (hd : DataW.Trod enc Tryz.prog w base spare held 49 v d ps) :
    ∃ (x : SelfD) (qs : List RP), SelfAt w v x qs w.heap.size ∧ SelfLen x qs := by
  obtain ⟨cs, rfl, hcs⟩ := okWide_struct Tryz.underlying49 hval
  obtain ⟨fuel, hf⟩ := hd
  obtain ⟨xs, k, hk, hxy, hcl, hxl, hfl⟩ := DataW.trod_struct Tryz.underlying49 hf
  have hc7 : Tryz.prog.cellsOf 49 = 7 := by kernel_rfl
  rw [hc7] at hcs hcl
  obtain ⟨v0, v1, v2, v3, v4, v5, v6, rfl⟩ : ∃ v0 v1 v2 v3 v4 v5 v6, cs = #[v0, v1, v2, v3, v4, v5, v6] := by
    obtain ⟨l⟩ := cs
    match l, hcs with
    | [v0, v1, v2, v3, v4, v5, v6], _ => exact ⟨v0, v1, v2, v3, v4, v5, v6, rfl⟩
  have g0 := hfl 0 _ rfl
  have g1 := hfl 1 _ rfl
  have g2 := hfl 2 _ rfl
  have g3 := hfl 3 _ rfl
  have g4 := hfl 4 _ rfl
  have k0 : Tryz.prog.cellsOf 3 = 1 := by kernel_rfl
  have k1 : Tryz.prog.cellsOf 46 = 3 := by kernel_rfl
  have k2 : Tryz.prog.cellsOf 28 = 1 := by kernel_rfl
  have k3 : Tryz.prog.cellsOf 47 = 1 := by kernel_rfl
  match xs, hxl with
  | [y0, y1, y2, y3, y4], _ =>
    simp [Value.cells, k0, k1, k2, k3] at g0 g1 g2 g3 g4
    obtain ⟨id, e0, _⟩ := DataW.trod_int Tryz.underlying3 g0
    obtain ⟨bt, e1, _⟩ := DataW.trod_int Tryz.underlying3 g1
    obtain ⟨nt, u2, u3, e2, h2, h3, l2, l3⟩ := open_netCells g2
    obtain ⟨u5, hs, e3, h5, l5, _⟩ := open_structsN (encE := intE) (sz := 1) (R := fun _ => True) (by omega) intE_len Tryz.underlying28 (by kernel_rfl) (fun _ _ _ h => open_hop h) g3
    obtain ⟨u6, qs, e4, h6, l6, h7⟩ := open_structsN (encE := encP) (sz := 8) (R := fun p : RP => NearsAt w p.2 p.1.near w.heap.size ∧ p.1.near.length ≤ maxLen) (by omega) encP_len Tryz.underlying47 (by kernel_rfl) (fun _ _ _ h => open_recCells h) g4
    cases e0
    cases e1
    cases e2
    cases e3
    cases e4
    exact ⟨⟨id, bt, nt, hs⟩, qs, ⟨v3, v4, v5, v6, rfl, h2, h3, h5, ⟨h6, fun p hp => (h7 p hp).1⟩⟩, l2, l3, l5, l6, fun p hp => (h7 p hp).2⟩
end
end Go.Proofs.YtcimbiinljcifaaGreat
