/-
  An argument of type laws.Event, opened.
-/
import Derived.Test.YtacbohnaofajaaaOpen4
import Derived.Test.YtacbohnaofajaaaOpenNet
import Derived.Test.YtacbohnaofajaaaEvK
import Derived.ChangeArms
namespace Go.Proofs.Ytacbohnaofajaaa
open Go.RowKit Go.ChangeShapes Go.WideShapes

section
variable {H : Type} {enc : TypeId × Value → H} {w : World} {base : Nat} {spare : Nat → Bool} {held : Bool}

def evE (x : EvD) : List Value := [.int .i64 x.k, .int .i64 x.n, .int .i64 x.a, .string x.s]

theorem open_event {fuel : Nat} {cs : List Value} {x : DataW H × List MemPlace} (h : DataW.trod enc Try.prog w base spare held fuel 27 cs = some x) : ∃ l : EvD, cs = evE l ∧ l.s.size ≤ maxLen := by
  obtain ⟨v0, v1, v2, v3, n, y0, y1, y2, y3, rfl, h0, h1, h2, h3⟩ := open_four Try.underlying27 (by kernel_rfl) rfl rfl rfl rfl (by kernel_rfl) (by kernel_rfl) (by kernel_rfl) (by kernel_rfl) h
  obtain ⟨a, ha, _⟩ := DataW.trod_int Try.underlying3 h0
  obtain ⟨b, hb, _⟩ := DataW.trod_int Try.underlying3 h1
  obtain ⟨c, hc, _⟩ := DataW.trod_int Try.underlying3 h2
  obtain ⟨r, hr, _, hl⟩ := DataW.trod_string Try.underlying9 h3
  exact ⟨⟨a, b, c, r⟩, by cases ha; cases hb; cases hc; cases hr; rfl, hl⟩

set_option maxRecDepth 100000 in
theorem open_eventV {r : Reach} {b0 : Nat} {v : Value} {d : DataW H} {ps : List MemPlace} (hval : Value.okWide Try.prog w r b0 27 v) (hd : DataW.Trod enc Try.prog w base spare held 27 v d ps) :
    ∃ l : EvD, v = evV l ∧ l.s.size ≤ maxLen := by
  obtain ⟨cs, rfl, _⟩ := okWide_struct Try.underlying27 hval
  obtain ⟨fuel, hf⟩ := hd
  obtain ⟨l, hl, hs⟩ := open_event hf
  refine ⟨l, ?_, hs⟩
  obtain ⟨c⟩ := cs
  simp only [Value.cells] at hl
  unfold evV
  rw [hl]
  rfl
end
end Go.Proofs.Ytacbohnaofajaaa
