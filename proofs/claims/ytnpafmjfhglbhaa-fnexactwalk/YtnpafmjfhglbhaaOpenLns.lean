/-
  Arguments of type []laws.Line and [][]laws.Line, opened.
-/
import Derived.Test.YtnpafmjfhglbhaaOpenWay
import Derived.Test.YtnpafmjfhglbhaaLLK
namespace Go.Proofs.Ytnpafmjfhglbhaa
open Go.RowKit Go.ChangeShapes Go.WideShapes

instance : Inhabited JP := ⟨zJ⟩
instance : Inhabited LLP := ⟨zLL⟩

section
variable {H : Type} {enc : TypeId × Value → H} {w : World} {base : Nat} {spare : Nat → Bool} {held : Bool}

set_option maxRecDepth 100000 in
theorem open_lineCells {fuel : Nat} {cs : List Value} {x : DataW H × List MemPlace} (hf : DataW.trod enc Try.prog w base spare held fuel 77 cs = some x) :
    ∃ p : LnD × Value, cs = [.bool p.1.thing, .int .i64 p.1.to, p.2] ∧ (HopsAt w p.2 p.1.hops w.heap.size ∧ p.1.hops.length ≤ maxLen) := by
  obtain ⟨xs, k, hk, hxy, hcl, hxl, hfl⟩ := DataW.trod_struct Try.underlying77 hf
  have hc3 : Try.prog.cellsOf 77 = 3 := by kernel_rfl
  rw [hc3] at hcl
  obtain ⟨v0, v1, v2, rfl⟩ : ∃ v0 v1 v2, cs = [v0, v1, v2] := by
    match cs, hcl with
    | [v0, v1, v2], _ => exact ⟨v0, v1, v2, rfl⟩
  have g0 := hfl 0 _ rfl
  have g1 := hfl 1 _ rfl
  have g2 := hfl 2 _ rfl
  have k0 : Try.prog.cellsOf 3 = 1 := by kernel_rfl
  have k1 : Try.prog.cellsOf 34 = 1 := by kernel_rfl
  have k2 : Try.prog.cellsOf 4 = 1 := by kernel_rfl
  match xs, hxl with
  | [y0, y1, y2], _ =>
    simp [k0, k1, k2] at g0 g1 g2
    obtain ⟨z0, e0, _⟩ := DataW.trod_bool Try.underlying4 g0
    obtain ⟨z1, e1, _⟩ := DataW.trod_int Try.underlying3 g1
    obtain ⟨u2, ns, e5, hn, hnl, _⟩ := open_structsN (encE := intE) (sz := 1) (R := fun _ => True) (by omega) intE_len Try.underlying34 (by kernel_rfl) (fun _ _ _ h => open_hop h) g2
    cases e0
    cases e1
    cases e5
    exact ⟨(⟨z0, z1, ns⟩, v2), rfl, hn, hnl⟩

set_option maxRecDepth 100000 in
theorem open_linesCells {fuel : Nat} {cs : List Value} {x : DataW H × List MemPlace} (hf : DataW.trod enc Try.prog w base spare held fuel 66 cs = some x) :
    ∃ p : LLP, cs = encLL p ∧ (LnsAt w p.1 p.2 w.heap.size ∧ p.2.length ≤ maxLen ∧ ∀ x ∈ p.2, x.1.hops.length ≤ maxLen) := by
  obtain ⟨u, xs, hu, hs, hl, hR⟩ := open_structsN (encE := encJ) (sz := 3) (by omega) encJ_len Try.underlying66 (by kernel_rfl) (fun _ _ _ h => open_lineCells h) hf
  exact ⟨(u, xs), hu, ⟨hs, fun p hp => (hR p hp).1⟩, hl, fun p hp => (hR p hp).2⟩

set_option maxRecDepth 100000 in
theorem open_lines {r : Reach} {b0 : Nat} {v : Value} {d : DataW H} {ps : List MemPlace} (hval : Value.okWide Try.prog w r b0 66 v) (hd : DataW.Trod enc Try.prog w base spare held 66 v d ps) :
    ∃ qs : List JP, LnsAt w v qs w.heap.size ∧ qs.length ≤ maxLen ∧ ∀ p ∈ qs, p.1.hops.length ≤ maxLen := by
  obtain ⟨a0, len0, cap0, rfl⟩ := okWide_slice Try.underlying66 hval
  obtain ⟨fuel, hf⟩ := hd
  obtain ⟨p, hu, hs, hl, hR⟩ := open_linesCells hf
  simp [Value.cells, encLL] at hu
  exact ⟨p.2, by rw [hu]; exact hs, hl, hR⟩

set_option maxRecDepth 100000 in
theorem open_linesL {r : Reach} {b0 : Nat} {v : Value} {d : DataW H} {ps : List MemPlace} (hval : Value.okWide Try.prog w r b0 33 v) (hd : DataW.Trod enc Try.prog w base spare held 33 v d ps) :
    ∃ qs : List LLP, LLAt w v qs w.heap.size ∧ qs.length ≤ maxLen ∧ ∀ p ∈ qs, p.2.length ≤ maxLen ∧ ∀ x ∈ p.2, x.1.hops.length ≤ maxLen := by
  obtain ⟨a0, len0, cap0, rfl⟩ := okWide_slice Try.underlying33 hval
  obtain ⟨fuel, hf⟩ := hd
  obtain ⟨u, xs, hu, hs, hl, hR⟩ := open_structsN (encE := encLL) (sz := 1) (by omega) encLL_len Try.underlying33 (by kernel_rfl) (fun _ _ _ h => open_linesCells h) hf
  simp [Value.cells] at hu
  subst hu
  exact ⟨xs, ⟨hs, fun p hp => (hR p hp).1⟩, hl, fun p hp => (hR p hp).2⟩
end
end Go.Proofs.Ytnpafmjfhglbhaa
