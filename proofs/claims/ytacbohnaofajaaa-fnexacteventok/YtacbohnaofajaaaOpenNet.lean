/-
  An argument of type laws.Net, opened.
-/
import Derived.Test.YtacbohnaofajaaaOpen4
import Derived.Test.YtacbohnaofajaaaNets
namespace Go.Proofs.Ytacbohnaofajaaa
open Go.RowKit Go.ChangeShapes Go.WideShapes

section
variable {H : Type} {enc : TypeId × Value → H} {w : World} {base : Nat} {spare : Nat → Bool} {held : Bool}

instance : Inhabited Lk := ⟨⟨0, 0, 0, 0⟩⟩
instance : Inhabited Th := ⟨⟨0, 0, 0, false⟩⟩

theorem open_link {fuel : Nat} {cs : List Value} {x : DataW H × List MemPlace} (h : DataW.trod enc Try.prog w base spare held fuel 50 cs = some x) : ∃ l : Lk, cs = lkE l := by
  obtain ⟨v0, v1, v2, v3, n, y0, y1, y2, y3, rfl, h0, h1, h2, h3⟩ := open_four Try.underlying50 (by kernel_rfl) rfl rfl rfl rfl (by kernel_rfl) (by kernel_rfl) (by kernel_rfl) (by kernel_rfl) h
  obtain ⟨a, ha, _⟩ := DataW.trod_int Try.underlying3 h0
  obtain ⟨b, hb, _⟩ := DataW.trod_int Try.underlying3 h1
  obtain ⟨c, hc, _⟩ := DataW.trod_int Try.underlying3 h2
  obtain ⟨r, hr, _⟩ := DataW.trod_int Try.underlying3 h3
  exact ⟨⟨a, b, c, r⟩, by cases ha; cases hb; cases hc; cases hr; rfl⟩

theorem open_thing {fuel : Nat} {cs : List Value} {x : DataW H × List MemPlace} (h : DataW.trod enc Try.prog w base spare held fuel 54 cs = some x) : ∃ l : Th, cs = thE l := by
  obtain ⟨v0, v1, v2, v3, n, y0, y1, y2, y3, rfl, h0, h1, h2, h3⟩ := open_four Try.underlying54 (by kernel_rfl) rfl rfl rfl rfl (by kernel_rfl) (by kernel_rfl) (by kernel_rfl) (by kernel_rfl) h
  obtain ⟨a, ha, _⟩ := DataW.trod_int Try.underlying3 h0
  obtain ⟨b, hb, _⟩ := DataW.trod_int Try.underlying3 h1
  obtain ⟨c, hc, _⟩ := DataW.trod_int Try.underlying3 h2
  obtain ⟨r, hr, _⟩ := DataW.trod_bool Try.underlying4 h3
  exact ⟨⟨a, b, c, r⟩, by cases ha; cases hb; cases hc; cases hr; rfl⟩

set_option maxRecDepth 100000 in
theorem open_linkV {r : Reach} {b0 : Nat} {v : Value} {d : DataW H} {ps : List MemPlace} (hval : Value.okWide Try.prog w r b0 50 v) (hd : DataW.Trod enc Try.prog w base spare held 50 v d ps) :
    ∃ l : Lk, v = lkV l := by
  obtain ⟨cs, rfl, _⟩ := okWide_struct Try.underlying50 hval
  obtain ⟨fuel, hf⟩ := hd
  obtain ⟨l, hl⟩ := open_link hf
  refine ⟨l, ?_⟩
  obtain ⟨c⟩ := cs
  simp only [Value.cells] at hl
  unfold lkV
  rw [hl]
  rfl

set_option maxRecDepth 100000 in
theorem open_net {r : Reach} {b0 : Nat} {v : Value} {d : DataW H} {ps : List MemPlace} (hval : Value.okWide Try.prog w r b0 25 v) (hd : DataW.Trod enc Try.prog w base spare held 25 v d ps) :
    ∃ x : NetD, NetAt w v x w.heap.size ∧ (Lit.int .i64 x.n).wf = true ∧ x.ls.length ≤ maxLen ∧ x.ts.length ≤ maxLen := by
  obtain ⟨cs, rfl, hcs⟩ := okWide_struct Try.underlying25 hval
  obtain ⟨fuel, hf⟩ := hd
  obtain ⟨xs, k, hk, hxy, hcl, hxl, hfl⟩ := DataW.trod_struct Try.underlying25 hf
  have hc3 : Try.prog.cellsOf 25 = 3 := by kernel_rfl
  rw [hc3] at hcs hcl
  obtain ⟨v0, v1, v2, rfl⟩ : ∃ v0 v1 v2, cs = #[v0, v1, v2] := by
    obtain ⟨l⟩ := cs
    match l, hcs with
    | [v0, v1, v2], _ => exact ⟨v0, v1, v2, rfl⟩
  have g0 := hfl 0 _ rfl
  have g1 := hfl 1 _ rfl
  have g2 := hfl 2 _ rfl
  have k0 : Try.prog.cellsOf 3 = 1 := by kernel_rfl
  have k1 : Try.prog.cellsOf 22 = 1 := by kernel_rfl
  have k2 : Try.prog.cellsOf 23 = 1 := by kernel_rfl
  match xs, hxl with
  | [y0, y1, y2], _ =>
    simp [Value.cells, k0, k1, k2] at g0 g1 g2
    obtain ⟨n, hn, _, wn⟩ := DataW.trod_int Try.underlying3 g0
    obtain ⟨u1, ls, e1, hl, hll⟩ := open_structs (encE := lkE) lkE_len Try.underlying22 (by kernel_rfl) (fun _ _ _ h => open_link h) g1
    obtain ⟨u2, ts, e2, ht, htl⟩ := open_structs (encE := thE) thE_len Try.underlying23 (by kernel_rfl) (fun _ _ _ h => open_thing h) g2
    cases hn
    cases e1
    cases e2
    exact ⟨⟨n, ls, ts⟩, ⟨v1, v2, rfl, hl, ht⟩, wn, hll, htl⟩
end
end Go.Proofs.Ytacbohnaofajaaa
