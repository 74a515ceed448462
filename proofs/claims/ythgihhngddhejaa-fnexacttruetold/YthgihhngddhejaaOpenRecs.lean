/-
  An argument of type []laws.Record, opened.
-/
import Derived.Test.YthgihhngddhejaaOpenRec
import Derived.Test.YthgihhngddhejaaOpenN
import Derived.Test.YthgihhngddhejaaRowsK
namespace Go.Proofs.Ythgihhngddhejaa
open Go.RowKit Go.ChangeShapes Go.WideShapes

instance : Inhabited RP := ⟨zP⟩

section
variable {H : Type} {enc : TypeId × Value → H} {w : World} {base : Nat} {spare : Nat → Bool} {held : Bool}

set_option maxRecDepth 100000 in
theorem open_recCells {fuel : Nat} {cs : List Value} {x : DataW H × List MemPlace} (hf : DataW.trod enc Try.prog w base spare held fuel 31 cs = some x) :
    ∃ p : RP, cs = encP p ∧ (NearsAt w p.2 p.1.near w.heap.size ∧ p.1.near.length ≤ maxLen) := by
  obtain ⟨xs, k, hk, hxy, hcl, hxl, hfl⟩ := DataW.trod_struct Try.underlying31 hf
  have hc8 : Try.prog.cellsOf 31 = 8 := by kernel_rfl
  rw [hc8] at hcl
  obtain ⟨v0, v1, v2, v3, v4, v5, v6, v7, rfl⟩ : ∃ v0 v1 v2 v3 v4 v5 v6 v7, cs = [v0, v1, v2, v3, v4, v5, v6, v7] := by
    match cs, hcl with
    | [v0, v1, v2, v3, v4, v5, v6, v7], _ => exact ⟨v0, v1, v2, v3, v4, v5, v6, v7, rfl⟩
  have g0 := hfl 0 _ rfl
  have g1 := hfl 1 _ rfl
  have g2 := hfl 2 _ rfl
  have g3 := hfl 3 _ rfl
  have g4 := hfl 4 _ rfl
  have g5 := hfl 5 _ rfl
  have g6 := hfl 6 _ rfl
  have g7 := hfl 7 _ rfl
  have k0 : Try.prog.cellsOf 3 = 1 := by kernel_rfl
  have k1 : Try.prog.cellsOf 29 = 1 := by kernel_rfl
  have k2 : Try.prog.cellsOf 4 = 1 := by kernel_rfl
  match xs, hxl with
  | [y0, y1, y2, y3, y4, y5, y6, y7], _ =>
    simp [k0, k1, k2] at g0 g1 g2 g3 g4 g5 g6 g7
    obtain ⟨z0, e0, _⟩ := DataW.trod_int Try.underlying3 g0
    obtain ⟨z1, e1, _⟩ := DataW.trod_int Try.underlying3 g1
    obtain ⟨z2, e2, _⟩ := DataW.trod_int Try.underlying3 g2
    obtain ⟨z3, e3, _⟩ := DataW.trod_int Try.underlying3 g3
    obtain ⟨z4, e4, _⟩ := DataW.trod_int Try.underlying3 g4
    obtain ⟨u5, ns, e5, hn, hnl⟩ := open_structs2 (encE := nrE) nrE_len Try.underlying29 (by kernel_rfl) (fun _ _ _ h => open_near h) g5
    obtain ⟨z6, e6, _⟩ := DataW.trod_int Try.underlying3 g6
    obtain ⟨z7, e7, _⟩ := DataW.trod_bool Try.underlying4 g7
    cases e0
    cases e1
    cases e2
    cases e3
    cases e4
    cases e5
    cases e6
    cases e7
    exact ⟨(⟨z0, z1, z2, z3, z4, ns, z6, z7⟩, v5), rfl, hn, hnl⟩

set_option maxRecDepth 100000 in
theorem open_records {r : Reach} {b0 : Nat} {v : Value} {d : DataW H} {ps : List MemPlace} (hval : Value.okWide Try.prog w r b0 22 v) (hd : DataW.Trod enc Try.prog w base spare held 22 v d ps) :
    ∃ qs : List RP, RecsAt w v qs w.heap.size ∧ qs.length ≤ maxLen ∧ ∀ p ∈ qs, p.1.near.length ≤ maxLen := by
  obtain ⟨a0, len0, cap0, rfl⟩ := okWide_slice Try.underlying22 hval
  obtain ⟨fuel, hf⟩ := hd
  obtain ⟨u, xs, hu, hs, hl, hR⟩ := open_structsN (encE := encP) (sz := 8) (by omega) encP_len Try.underlying22 (by kernel_rfl) (fun _ _ _ h => open_recCells h) hf
  simp [Value.cells] at hu
  subst hu
  exact ⟨xs, ⟨hs, fun p hp => (hR p hp).1⟩, hl, fun p hp => (hR p hp).2⟩
end
end Go.Proofs.Ythgihhngddhejaa
