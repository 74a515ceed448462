/-
  An argument of type laws.Route, opened: its numbers are ints.
-/
import Derived.Test.YtpiookjdeopmgaaDoorOpenWay
import Derived.Test.YtpiookjdeopmgaaDoorShM
import Derived.OpenShut
namespace Go.Proofs.YtpiookjdeopmgaaDoor
open Go.RowKit Go.ChangeShapes Go.WideShapes

section
variable {H : Type} {enc : TypeId × Value → H} {w : World} {base : Nat} {spare : Nat → Bool} {held : Bool}

theorem i64_wf {a : Int} (h : (Lit.int .i64 a).wf = true) : i64B a := bounds_i64 h

theorem open_hopB {fuel : Nat} {cs : List Value} {x : DataW H × List MemPlace} (h : DataW.trod enc Tryd.prog w base spare held fuel 3 cs = some x) : ∃ z : Int, cs = intE z ∧ i64B z := by
  obtain ⟨a, ha, hw⟩ := DataW.trod_int Tryd.underlying3 h
  exact ⟨a, ha, i64_wf hw.2⟩

set_option maxRecDepth 100000 in
theorem open_routeB {fuel : Nat} {cs : List Value} {x : DataW H × List MemPlace} (hf : DataW.trod enc Tryd.prog w base spare held fuel 36 cs = some x) :
    ∃ p : RtD × Value, cs = [.bool p.1.thing, .int .i64 p.1.to, .int .i64 p.1.kind, .int .i64 p.1.cost, .int .i64 p.1.far, p.2] ∧ (HopsAt w p.2 p.1.hops w.heap.size ∧ p.1.hops.length ≤ maxLen ∧ RtWf p.1) := by
  obtain ⟨xs, k, hk, hxy, hcl, hxl, hfl⟩ := DataW.trod_struct Tryd.underlying36 hf
  have hc3 : Tryd.prog.cellsOf 36 = 6 := by kernel_rfl
  rw [hc3] at hcl
  obtain ⟨v0, v1, v2, v3, v4, v5, rfl⟩ : ∃ v0 v1 v2 v3 v4 v5, cs = [v0, v1, v2, v3, v4, v5] := by
    match cs, hcl with
    | [v0, v1, v2, v3, v4, v5], _ => exact ⟨v0, v1, v2, v3, v4, v5, rfl⟩
  have g0 := hfl 0 _ rfl
  have g1 := hfl 1 _ rfl
  have g2 := hfl 2 _ rfl
  have g3 := hfl 3 _ rfl
  have g4 := hfl 4 _ rfl
  have g5 := hfl 5 _ rfl
  have k0 : Tryd.prog.cellsOf 3 = 1 := by kernel_rfl
  have k1 : Tryd.prog.cellsOf 34 = 1 := by kernel_rfl
  have k2 : Tryd.prog.cellsOf 4 = 1 := by kernel_rfl
  match xs, hxl with
  | [y0, y1, y2, y3, y4, y5], _ =>
    simp [k0, k1, k2] at g0 g1 g2 g3 g4 g5
    obtain ⟨z0, e0, _⟩ := DataW.trod_bool Tryd.underlying4 g0
    obtain ⟨z1, e1, f1⟩ := open_hopB g1
    obtain ⟨z2, e2, _⟩ := open_hopB g2
    obtain ⟨z3, e3, f3⟩ := open_hopB g3
    obtain ⟨z4, e4, f4⟩ := open_hopB g4
    obtain ⟨u2, ns, e5, hn, hnl, hnr⟩ := open_structsN (encE := intE) (sz := 1) (R := i64B) (by omega) intE_len Tryd.underlying34 (by kernel_rfl) (fun _ _ _ h => open_hopB h) g5
    cases e0
    cases e1
    cases e2
    cases e3
    cases e4
    cases e5
    exact ⟨(⟨z0, z1, z2, z3, z4, ns⟩, v5), rfl, hn, hnl, ⟨f1, f3, f4, hnr⟩⟩

set_option maxRecDepth 100000 in
theorem open_route {r : Reach} {b0 : Nat} {v : Value} {d : DataW H} {ps : List MemPlace} (hval : Value.okWide Tryd.prog w r b0 36 v) (hd : DataW.Trod enc Tryd.prog w base spare held 36 v d ps) :
    ∃ x : RtD, RtAt w v x w.heap.size ∧ x.hops.length ≤ maxLen ∧ RtWf x := by
  obtain ⟨cs, rfl, hcs⟩ := okWide_struct Tryd.underlying36 hval
  obtain ⟨fuel, hf⟩ := hd
  obtain ⟨p, hp, h1, h2, h3⟩ := open_routeB hf
  refine ⟨p.1, ⟨p.2, ?_, h1⟩, h2, h3⟩
  obtain ⟨l⟩ := cs
  simp [Value.cells] at hp
  subst hp
  rfl
end
end Go.Proofs.YtpiookjdeopmgaaDoor
