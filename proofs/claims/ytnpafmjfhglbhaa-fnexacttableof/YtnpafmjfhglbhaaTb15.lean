/-
  The law FnExactTableOf answers true at every argument, and each argument reads afterwards as it read before; no condition. (Here: from the walk to the given statement.)
  Slices of structs of two fields of one cell each, opened at every index.
  Slices of structs of any number of cells, opened at every index (cut out of OpenRecs).
  An argument of type laws.Way, opened.
  Arguments of type []laws.Route and []int, opened.
-/
import Derived.Test.YtnpafmjfhglbhaaTb1
import Derived.Deep.Slices
import Derived.ChangeSame
import Derived.OpenShut
import Derived.Test.YtnpafmjfhglbhaaTb3
import Derived.Test.YtnpafmjfhglbhaaTb11
import Derived.Test.YtnpafmjfhglbhaaTb14
import Derived.ProofKit
import Derived.ShutString
import Derived.ChangeOld
namespace Go.Proofs.Ytnpafmjfhglbhaa
open Go.RowKit Go.ChangeShapes Go.WideShapes

section
variable {H : Type} {enc : TypeId × Value → H} {P : Program} {w : World} {base : Nat} {spare : Nat → Bool} {held : Bool}

theorem add_none {a : Addr} (h : a.spot = none) (j : Nat) : a.add j = ⟨a.block, a.off + j, none⟩ := by
  obtain ⟨b, o, s⟩ := a
  simp at h
  subst h
  simp only [Addr.add]
  split <;> simp_all

/-- two fields of one cell -/
theorem open_two {e : TypeId} {f0 f1 : Field} {fuel : Nat} {cs : List Value} {x : DataW H × List MemPlace} (he : P.underlying e = some (.struct #[f0, f1])) (ce : P.cellsOf e = 2)
    (o0 : f0.offset = 0) (o1 : f1.offset = 1) (c0 : P.cellsOf f0.type = 1) (c1 : P.cellsOf f1.type = 1)
    (h : DataW.trod enc P w base spare held fuel e cs = some x) :
    ∃ v0 v1 n y0 y1, cs = [v0, v1] ∧ DataW.trod enc P w base spare held n f0.type [v0] = some y0 ∧ DataW.trod enc P w base spare held n f1.type [v1] = some y1 := by
  obtain ⟨xs, k, hk, hxy, hcl, hxl, hf⟩ := DataW.trod_struct he h
  rw [ce] at hcl
  match xs, hxl, cs, hcl with
  | [y0, y1], _, [v0, v1], _ =>
    have g0 := hf 0 f0 rfl
    have g1 := hf 1 f1 rfl
    simp [o0, o1, c0, c1] at g0 g1
    exact ⟨v0, v1, k, y0, y1, rfl, g0, g1⟩

/-- a slice of such: each element by a reading of its two cells -/
theorem open_structs2 {α : Type} [Inhabited α] {encE : α → List Value} (hsz : ∀ a, (encE a).length = 2) {t e : TypeId} {fuel : Nat} {cs : List Value} {x : DataW H × List MemPlace} (ht : P.underlying t = some (.slice e)) (ce : P.cellsOf e = 2)
    (hel : ∀ fuel cs x, DataW.trod enc P w base spare held fuel e cs = some x → ∃ a : α, cs = encE a) (h : DataW.trod enc P w base spare held fuel t cs = some x) :
    ∃ v xs, cs = [v] ∧ StructsAt encE 2 w v xs w.heap.size ∧ xs.length ≤ maxLen := by
  rcases Go.Deep.open_slice ht h with ⟨h0, _⟩ | ⟨a, len, cap, m, n, D, Pl, rfl, hb, hlc, hcm, hmm, _, hx⟩
  · exact ⟨_, [], h0, ⟨none, 0, rfl, .inl rfl⟩, by simp⟩
  · have hlm : len ≤ m := by rw [hmm]; split <;> omega
    have each : ∀ i, i < len → ∃ q : α, ∀ r u, (encE q)[r]? = some u → w.cell? (a.add (i * 2 + r)) = some u := by
      intro i hi
      obtain ⟨cs', h1, h2⟩ := hx i (by omega)
      rw [ce] at h1
      obtain ⟨_, hlen, hcell⟩ := World.cells?_some h1
      obtain ⟨q, rfl⟩ := hel _ _ _ h2
      refine ⟨q, fun r u hu => ?_⟩
      have hr : r < 2 := by have := (List.getElem?_eq_some_iff.1 hu).1; rw [hsz] at this; exact this
      rw [← Go.Deep.add_add, hcell r hr, hu]
    obtain ⟨q, hq⟩ := Go.Deep.choose_lt each
    refine ⟨_, (List.range len).map q, rfl, ?_, by simp; omega⟩
    have hl : ((List.range len).map q).length = len := by simp
    unfold StructsAt RowAt
    rw [hl]
    refine ⟨_, cap, rfl, ?_⟩
    by_cases hl0 : len = 0
    · exact .inl hl0
    · right
      have hsp : a.spot = none := by
        have hu : (encE (q 0))[0]? = some ((encE (q 0))[0]'(by rw [hsz]; omega)) := List.getElem?_eq_getElem _
        have := World.cell?_spot (hq 0 (by omega) 0 _ hu)
        simpa [Addr.add] using this
      have hblk : a.block < w.heap.size := by
        have hu : (encE (q 0))[0]? = some ((encE (q 0))[0]'(by rw [hsz]; omega)) := List.getElem?_eq_getElem _
        have := World.block_lt_of_cell? w _ (hq 0 (by omega) 0 _ hu)
        simpa [Addr.add] using this
      refine ⟨a.block, a.off, by obtain ⟨b, o, s⟩ := a; simp at hsp; rw [hsp], hblk, fun j hj => ?_⟩
      have e : j = j / 2 * 2 + j % 2 := by omega
      have hd : j / 2 < len := by omega
      have hm4 : j % 2 < 2 := by omega
      have hg := flat_get hsz ((List.range len).map q) (j / 2) (j % 2) (q (j / 2)) (by simp [hd]) hm4
      have hu : (encE (q (j / 2)))[j % 2]? = some ((encE (q (j / 2)))[j % 2]'(by rw [hsz]; exact hm4)) := List.getElem?_eq_getElem _
      have := hq (j / 2) hd (j % 2) _ hu
      rw [← e, add_none hsp] at this
      rw [this]
      rw [← e] at hg
      simp only [List.getD_eq_getElem?_getD, hg, hu]
      rfl
end
end Go.Proofs.Ytnpafmjfhglbhaa
namespace Go.Proofs.Ytnpafmjfhglbhaa
open Go.RowKit Go.ChangeShapes Go.WideShapes

section
variable {H : Type} {enc : TypeId × Value → H} {P : Program} {w : World} {base : Nat} {spare : Nat → Bool} {held : Bool}

/-- a slice of structs of sz cells: each element by a reading of its cells -/
theorem open_structsN {α : Type} [Inhabited α] {encE : α → List Value} {sz : Nat} (hpos : 0 < sz) {R : α → Prop} (hsz : ∀ a, (encE a).length = sz) {t e : TypeId} {fuel : Nat} {cs : List Value} {x : DataW H × List MemPlace} (ht : P.underlying t = some (.slice e)) (ce : P.cellsOf e = sz)
    (hel : ∀ fuel cs x, DataW.trod enc P w base spare held fuel e cs = some x → ∃ a : α, cs = encE a ∧ R a) (h : DataW.trod enc P w base spare held fuel t cs = some x) :
    ∃ v xs, cs = [v] ∧ StructsAt encE sz w v xs w.heap.size ∧ xs.length ≤ maxLen ∧ ∀ a ∈ xs, R a := by
  rcases Go.Deep.open_slice ht h with ⟨h0, _⟩ | ⟨a, len, cap, m, n, D, Pl, rfl, hb, hlc, hcm, hmm, _, hx⟩
  · exact ⟨_, [], h0, ⟨none, 0, rfl, .inl rfl⟩, by simp, by simp⟩
  · have hlm : len ≤ m := by rw [hmm]; split <;> omega
    have each : ∀ i, i < len → ∃ q : α, R q ∧ ∀ r u, (encE q)[r]? = some u → w.cell? (a.add (i * sz + r)) = some u := by
      intro i hi
      obtain ⟨cs', h1, h2⟩ := hx i (by omega)
      rw [ce] at h1
      obtain ⟨_, hlen, hcell⟩ := World.cells?_some h1
      obtain ⟨q, rfl, hR⟩ := hel _ _ _ h2
      refine ⟨q, hR, fun r u hu => ?_⟩
      have hr : r < sz := by have := (List.getElem?_eq_some_iff.1 hu).1; rw [hsz] at this; exact this
      rw [← Go.Deep.add_add, hcell r hr, hu]
    obtain ⟨q, hq⟩ := Go.Deep.choose_lt each
    refine ⟨_, (List.range len).map q, rfl, ?_, by simp; omega, fun a ha => by obtain ⟨i, hi, rfl⟩ := List.mem_map.1 ha; exact (hq i (by simpa using hi)).1⟩
    have hl : ((List.range len).map q).length = len := by simp
    unfold StructsAt RowAt
    rw [hl]
    refine ⟨_, cap, rfl, ?_⟩
    by_cases hl0 : len = 0
    · exact .inl hl0
    · right
      have hsp : a.spot = none := by
        have hu : (encE (q 0))[0]? = some ((encE (q 0))[0]'(by rw [hsz]; exact hpos)) := List.getElem?_eq_getElem _
        have := World.cell?_spot ((hq 0 (by omega)).2 0 _ hu)
        simpa [Addr.add] using this
      have hblk : a.block < w.heap.size := by
        have hu : (encE (q 0))[0]? = some ((encE (q 0))[0]'(by rw [hsz]; exact hpos)) := List.getElem?_eq_getElem _
        have := World.block_lt_of_cell? w _ ((hq 0 (by omega)).2 0 _ hu)
        simpa [Addr.add] using this
      refine ⟨a.block, a.off, by obtain ⟨b, o, s⟩ := a; simp at hsp; rw [hsp], hblk, fun j hj => ?_⟩
      have e : j = j / sz * sz + j % sz := by rw [Nat.mul_comm]; exact (Nat.div_add_mod j sz).symm
      have hd : j / sz < len := Nat.div_lt_of_lt_mul (by rw [Nat.mul_comm]; exact hj)
      have hm4 : j % sz < sz := Nat.mod_lt _ hpos
      have hg := flat_get hsz ((List.range len).map q) (j / sz) (j % sz) (q (j / sz)) (by simp [hd]) hm4
      have hu : (encE (q (j / sz)))[j % sz]? = some ((encE (q (j / sz)))[j % sz]'(by rw [hsz]; exact hm4)) := List.getElem?_eq_getElem _
      have := (hq (j / sz) hd).2 (j % sz) _ hu
      rw [← e, add_none hsp] at this
      rw [this]
      rw [← e] at hg
      simp only [List.getD_eq_getElem?_getD, hg, hu]
      rfl
end
end Go.Proofs.Ytnpafmjfhglbhaa
namespace Go.Proofs.Ytnpafmjfhglbhaa
open Go.RowKit Go.ChangeShapes Go.WideShapes

section
variable {H : Type} {enc : TypeId × Value → H} {w : World} {base : Nat} {spare : Nat → Bool} {held : Bool}

theorem open_hop {fuel : Nat} {cs : List Value} {x : DataW H × List MemPlace} (h : DataW.trod enc Try.prog w base spare held fuel 3 cs = some x) : ∃ z : Int, cs = intE z ∧ True := by
  obtain ⟨a, ha, _⟩ := DataW.trod_int Try.underlying3 h
  exact ⟨a, ha, trivial⟩

end
end Go.Proofs.Ytnpafmjfhglbhaa
namespace Go.Proofs.Ytnpafmjfhglbhaa
open Go.RowKit Go.ChangeShapes Go.WideShapes

instance : Inhabited QP := ⟨zQ⟩

section
variable {H : Type} {enc : TypeId × Value → H} {w : World} {base : Nat} {spare : Nat → Bool} {held : Bool}

set_option maxRecDepth 100000 in
theorem open_routeCells {fuel : Nat} {cs : List Value} {x : DataW H × List MemPlace} (hf : DataW.trod enc Try.prog w base spare held fuel 48 cs = some x) :
    ∃ p : RtD × Value, cs = [.bool p.1.thing, .int .i64 p.1.to, .int .i64 p.1.kind, .int .i64 p.1.cost, .int .i64 p.1.far, p.2] ∧ (HopsAt w p.2 p.1.hops w.heap.size ∧ p.1.hops.length ≤ maxLen) := by
  obtain ⟨xs, k, hk, hxy, hcl, hxl, hfl⟩ := DataW.trod_struct Try.underlying48 hf
  have hc3 : Try.prog.cellsOf 48 = 6 := by kernel_rfl
  rw [hc3] at hcl
  obtain ⟨v0, v1, v2, v3, v4, v5, rfl⟩ : ∃ v0 v1 v2 v3 v4 v5, cs = [v0, v1, v2, v3, v4, v5] := by
    match cs, hcl with
    | [v0, v1, v2, v3, v4, v5], _ => exact ⟨v0, v1, v2, v3, v4, v5, rfl⟩
  have g0 := hfl 0 _ rfl
  have g1 := hfl 1 _ rfl
  have g2 := hfl 2 _ rfl
  have g3 := hfl 3 _ rfl
  have g4 := hfl 4 _ rfl
  have g5 := hfl 5 _ rfl
  have k0 : Try.prog.cellsOf 3 = 1 := by kernel_rfl
  have k1 : Try.prog.cellsOf 34 = 1 := by kernel_rfl
  have k2 : Try.prog.cellsOf 4 = 1 := by kernel_rfl
  match xs, hxl with
  | [y0, y1, y2, y3, y4, y5], _ =>
    simp [k0, k1, k2] at g0 g1 g2 g3 g4 g5
    obtain ⟨z0, e0, _⟩ := DataW.trod_bool Try.underlying4 g0
    obtain ⟨z1, e1, _⟩ := DataW.trod_int Try.underlying3 g1
    obtain ⟨z2, e2, _⟩ := DataW.trod_int Try.underlying3 g2
    obtain ⟨z3, e3, _⟩ := DataW.trod_int Try.underlying3 g3
    obtain ⟨z4, e4, _⟩ := DataW.trod_int Try.underlying3 g4
    obtain ⟨u2, ns, e5, hn, hnl, _⟩ := open_structsN (encE := intE) (sz := 1) (R := fun _ => True) (by omega) intE_len Try.underlying34 (by kernel_rfl) (fun _ _ _ h => open_hop h) g5
    cases e0
    cases e1
    cases e2
    cases e3
    cases e4
    cases e5
    exact ⟨(⟨z0, z1, z2, z3, z4, ns⟩, v5), rfl, hn, hnl⟩

set_option maxRecDepth 100000 in
theorem open_routes {r : Reach} {b0 : Nat} {v : Value} {d : DataW H} {ps : List MemPlace} (hval : Value.okWide Try.prog w r b0 22 v) (hd : DataW.Trod enc Try.prog w base spare held 22 v d ps) :
    ∃ qs : List QP, RtsAt w v qs w.heap.size ∧ qs.length ≤ maxLen ∧ ∀ p ∈ qs, p.1.hops.length ≤ maxLen := by
  obtain ⟨a0, len0, cap0, rfl⟩ := okWide_slice Try.underlying22 hval
  obtain ⟨fuel, hf⟩ := hd
  obtain ⟨u, xs, hu, hs, hl, hR⟩ := open_structsN (encE := encQ) (sz := 6) (by omega) encQ_len Try.underlying22 (by kernel_rfl) (fun _ _ _ h => open_routeCells h) hf
  simp [Value.cells] at hu
  subst hu
  exact ⟨xs, ⟨hs, fun p hp => (hR p hp).1⟩, hl, fun p hp => (hR p hp).2⟩
end
end Go.Proofs.Ytnpafmjfhglbhaa
namespace Go.Proofs.Ytnpafmjfhglbhaa
namespace fnExactTableOf
open Go.ChangeShapes Go.WideShapes Go.ChangeAt Go.RowKit
open Go.ChangeMaps (open_string shut_string)
set_option linter.unusedVariables false

theorem own : ownKnob Try.prog.godebug = none := by kernel_rfl
theorem laidOut : laidOutB Try.prog = true := by kernel_rfl

set_option maxRecDepth 100000 in
theorem lifted (os : Os) (started : os.Started) (H : Type) (enc : TypeId × Value → H) :
    ReturnsInHanded {} Try.checked os 3 .any (Rows.fnExactTableOfSpec.pre6 enc Try.prog Try.f3 Rows.fnExactTableOfRow.domain false) (Rows.fnExactTableOfSpec.post enc Try.prog Try.f3 false true false false) := by
  refine returnsInHanded_of_change (C := Try.checked) own started (by kernel_rfl) Try.func3
    (ChangeSpec.witness6 (enc := enc) (C := Try.checked) false ⟨#[], #[.slice none 0 0], []⟩ 8 (by kernel_rfl) (by kernel_rfl) (by kernel_rfl) (by kernel_rfl)) ?_
  intro W base args ds gs before hval0 hW hcnd _
  have hval : ∀ (j : Nat) t v, Try.f3.params[j]? = some t → args[j]? = some v → Value.okWide Try.prog W .any base t v := hval0
  have hW' := hW
  obtain ⟨p, q, hA0, hV, rfl, hfz, hnd⟩ := hW
  have hA : DataW.TrodAll enc Try.prog W 0 (fun _ => true) true Try.f3.params.toList args.toList ds p := hA0
  rw [Try.params3] at hA hval
  obtain ⟨v0, vs0, d0, ds0, p0, q0, hargs, rfl, rfl, h0, r0⟩ := trodAll_cons hA
  obtain ⟨rfl, rfl, rfl⟩ := trodAll_nil r0
  obtain rfl : args = #[v0] := by cases args; simp_all
  obtain ⟨rfl, rfl⟩ := trodVars_none hV
  have k0 := h0
  have lt0 : ∀ x ∈ p0, x.block < W.heap.size := by obtain ⟨m, hm⟩ := k0; exact DataW.trod_lt m _ _ _ hm
  obtain ⟨x0, w0⟩ := open_routes (hval 0 22 v0 rfl rfl) h0
  clear hA0 hval0
  refine (fnExactTableOf_walk v0 x0 W w0).mono fun e W' ⟨he, bel⟩ => ?_
  subst he
  exact ⟨_, rfl, _, _, _, [], _, [], hW', trodAll_mk1 (shut_bool Try.underlying4 _), (trodAll_cons_mk (Below.trod laidOut (by kernel_rfl) (of_decide_eq_true (by kernel_rfl)) k0 bel lt0) trodAll_mk0), rfl, bel.frame _, fun h => by cases h⟩

theorem over : Rows.fnExactTableOfRow.holds Try.pinned (OpenSpec.ofChange Rows.fnExactTableOfSpec) :=
  OpenClaim.holds_of_wide 3 Try.f3 rfl rfl rfl rfl rfl rfl rfl ⟨rfl, rfl, rfl, rfl, rfl⟩ rfl rfl rfl rfl rfl (by kernel_rfl) Try.func3 (by kernel_rfl)
    (of_decide_eq_true (by kernel_rfl)) (by unfold Func.isWrapper; first | (rw [if_pos (by decide +kernel)]; kernel_rfl) | (rw [if_neg (by decide +kernel)]; exact ⟨rfl, rfl⟩))
    (fun os started H enc _ => lifted os started H enc)
end fnExactTableOf

theorem fnExactTableOf_proved : Rows.FnExactTableOfSaid := fnExactTableOf.over
#print axioms fnExactTableOf_proved
end Go.Proofs.Ytnpafmjfhglbhaa
