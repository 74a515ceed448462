/-
  An argument of type laws.Way, opened.
-/
import Derived.Test.YtidoieolejkflaaOpenN
import Derived.Test.YtidoieolejkflaaWayK
namespace Go.Proofs.Ytidoieolejkflaa
open Go.RowKit Go.ChangeShapes Go.WideShapes

section
variable {H : Type} {enc : TypeId × Value → H} {w : World} {base : Nat} {spare : Nat → Bool} {held : Bool}

theorem open_hop {fuel : Nat} {cs : List Value} {x : DataW H × List MemPlace} (h : DataW.trod enc Try.prog w base spare held fuel 3 cs = some x) : ∃ z : Int, cs = intE z ∧ True := by
  obtain ⟨a, ha, _⟩ := DataW.trod_int Try.underlying3 h
  exact ⟨a, ha, trivial⟩

set_option maxRecDepth 100000 in
theorem open_wayCells {fuel : Nat} {cs : List Value} {x : DataW H × List MemPlace} (hf : DataW.trod enc Try.prog w base spare held fuel 93 cs = some x) :
    ∃ p : WayD × Value, cs = [.int .i64 p.1.to, .int .i64 p.1.cost, p.2] ∧ (HopsAt w p.2 p.1.hops w.heap.size ∧ p.1.hops.length ≤ maxLen) := by
  obtain ⟨xs, k, hk, hxy, hcl, hxl, hfl⟩ := DataW.trod_struct Try.underlying93 hf
  have hc3 : Try.prog.cellsOf 93 = 3 := by kernel_rfl
  rw [hc3] at hcl
  obtain ⟨v0, v1, v2, rfl⟩ : ∃ v0 v1 v2, cs = [v0, v1, v2] := by
    match cs, hcl with
    | [v0, v1, v2], _ => exact ⟨v0, v1, v2, rfl⟩
  have g0 := hfl 0 _ rfl
  have g1 := hfl 1 _ rfl
  have g2 := hfl 2 _ rfl
  have k0 : Try.prog.cellsOf 3 = 1 := by kernel_rfl
  have k1 : Try.prog.cellsOf 24 = 1 := by kernel_rfl
  match xs, hxl with
  | [y0, y1, y2], _ =>
    simp [k0, k1] at g0 g1 g2
    obtain ⟨z0, e0, _⟩ := DataW.trod_int Try.underlying3 g0
    obtain ⟨z1, e1, _⟩ := DataW.trod_int Try.underlying3 g1
    obtain ⟨u2, ns, e2, hn, hnl, _⟩ := open_structsN (encE := intE) (sz := 1) (R := fun _ => True) (by omega) intE_len Try.underlying24 (by kernel_rfl) (fun _ _ _ h => open_hop h) g2
    cases e0
    cases e1
    cases e2
    exact ⟨(⟨z0, z1, ns⟩, v2), rfl, hn, hnl⟩

set_option maxRecDepth 100000 in
theorem open_way {r : Reach} {b0 : Nat} {v : Value} {d : DataW H} {ps : List MemPlace} (hval : Value.okWide Try.prog w r b0 93 v) (hd : DataW.Trod enc Try.prog w base spare held 93 v d ps) :
    ∃ x : WayD, WayAt w v x w.heap.size ∧ x.hops.length ≤ maxLen := by
  obtain ⟨cs, rfl, hcs⟩ := okWide_struct Try.underlying93 hval
  obtain ⟨fuel, hf⟩ := hd
  obtain ⟨p, hp, h1, h2⟩ := open_wayCells hf
  refine ⟨p.1, ⟨p.2, ?_, h1⟩, h2⟩
  obtain ⟨l⟩ := cs
  simp [Value.cells] at hp
  subst hp
  rfl
end
end Go.Proofs.Ytidoieolejkflaa
