/-
  Two records under way: steps of spec.l04Two.
-/
import Derived.Test.YtohjphhocdgpgaaTwoA
namespace Go.Proofs.Ytohjphhocdgpgaa
open Go.RowKit

set_option linter.unusedSimpArgs false

theorem results_two {P : Program} {fn : Func} {p q : Tmp} {ty : TypeId} (h : fn.results = #[.cell p ty, .cell q ty]) (tmps : Array Value) (w : World) (g g' : Nat) (t t' : TypeId) (cs cs' : Array Value) (fr fr' : Nat × Nat) (d : TypeDesc)
    (hp : tmps.getD p undef = .pointer (some ⟨g, 0, none⟩)) (hg : w.heap[g]? = some (.cells cs t fr)) (hq : tmps.getD q undef = .pointer (some ⟨g', 0, none⟩)) (hg' : w.heap[g']? = some (.cells cs' t' fr'))
    (hu : P.underlying ty = some d) (hd : (match d with | .struct _ | .array _ _ => true | _ => false) = true) (hi : (P.info? ty).map (·.size) = some cs.size) (hi' : (P.info? ty).map (·.size) = some cs'.size) :
    (results fn tmps).run P w = .ok (.tuple #[.agg cs, .agg cs']) w := by
  have hp' : tmps[p]?.getD undef = .pointer (some ⟨g, 0, none⟩) := by simpa using hp
  have hq' : tmps[q]?.getD undef = .pointer (some ⟨g', 0, none⟩) := by simpa using hq
  simp [results, h, hp', hq', asAddr, run_loadVar_row w g t ty cs fr d hg hu hd hi, run_loadVar_row w g' t' ty cs' fr' d hg' hu hd hi']

section
variable {w W W' : World} {p B za zb : Nat} {a : Option Addr} {len cap : Nat} {va vb : Value} {x y : RecD}

theorem TwoSt.drew (h : TwoSt w W p B za zb a len cap va vb x y) : TwoSt w W.drew p B za zb a len cap va vb x y :=
  h.grown (h.cur.grown (grown_of_below (Below.refl _ W).drew) (fun b _ => by simp)) (gro_step (gro_refl W _) (grown_of_below (Below.refl _ W).drew) (fun k e => by cases e))

theorem TwoSt.copied {vc : Value} (h : TwoSt w W p B za zb a len cap va vb x y) (hb : Below W.heap.size W W') (ho : W'.ownsRow W.heap.size 67 2 vc x.near.length (flat nrE x.near)) :
    TwoSt w (putR W' zb x vc) p B za zb a len cap va vc x x :=
  have := h.hB
  have := h.hza
  have := h.hzb
  have hlb := lt_of_heap h.boxb
  have hg0 := grown_of_below hb
  have hbx : W'.heap[zb]? = some (.cells (recC y vb) 26) := by rw [hb.block zb hlb]; exact h.boxb
  have hg := grown8 W' zb x vc
  have ha : W'.ownsRow (p + 1) 67 2 va x.near.length (flat nrE x.near) := owns_below h.owna hb (Nat.le_refl _)
  { low := h.low, hB := h.hB, hza := h.hza, hzb := h.hzb
    cur := (h.cur.grown hg0 (fun b _ => by simp)).grown hg (fun b hb => by simp; omega)
    bel := (h.bel.trans (hb.mono h.bel.size)).grown hg (Nat.le_trans h.bel.size hb.size) (fun k hk => by have := h.low; simp at hk; omega)
    boxa := by rw [hg.block za (by have := lt_of_heap h.boxa; have := hb.size; omega) (by simp; omega), hb.block za (lt_of_heap h.boxa)]; exact h.boxa
    boxb := fin8 x vc hbx
    r0 := by rw [hg.block B (by have := lt_of_heap h.r0; have := hb.size; omega) (by simp; omega), hb.block B (lt_of_heap h.r0)]; exact h.r0
    r1 := by rw [hg.block (B + 1) (by have := lt_of_heap h.r1; have := hb.size; omega) (by simp; omega), hb.block (B + 1) (lt_of_heap h.r1)]; exact h.r1
    owna := kept_ne ha hg (fun e => row_ne_box ha hbx e.symm)
    ownb := owns_baseS (kept_ne ho hg (fun e => row_ne_box ho hbx e.symm)) (by have := lt_of_heap h.boxa; omega)
    sep := by
      cases hv : va.ownBlock with
      | none => exact .inl rfl
      | some g => exact .inr (fun e => by have := (h.owna.lt g hv).2; have := (ho.lt g e.symm).1; omega) }

theorem TwoSt.set9 {g n c : Nat} (h : TwoSt w W p B za zb a len cap va (.slice (some ⟨g, 0, none⟩) n c) x y) (hn : n = y.near.length) (hpos : 0 < y.near.length) :
    ∃ l : List Nr, Hid (l.length = y.near.length) ∧ TwoSt w (W.setCell ⟨g, 1, none⟩ (.int .i64 9)) p B za zb a len cap va (.slice (some ⟨g, 0, none⟩) n c) x { y with near := l } := by
  have := h.hB
  have := h.hza
  have := h.hzb
  have hl := h.ownb.lt g rfl
  have hg := grown_set W g 1 (.int .i64 9)
  obtain ⟨y0, y1, y2, y3, y4, ns, y6, y7⟩ := y
  cases ns with
  | nil => simp at hpos
  | cons u t =>
    refine ⟨⟨u.to, 9⟩ :: t, by unfold Hid; simp, ?_⟩
    have hza' : g ≠ za := fun e => row_ne_box h.ownb h.boxa (by rw [← e]; rfl)
    have hzb' : g ≠ zb := fun e => row_ne_box h.ownb h.boxb (by rw [← e]; rfl)
    subst hn
    exact
      { low := h.low, hB := h.hB, hza := h.hza, hzb := h.hzb, sep := h.sep
        cur := h.cur.grown hg (fun b hb => by simp; omega)
        bel := h.bel.grown hg h.bel.size (fun k hk => by have := h.low; simp at hk; omega)
        boxa := by rw [hg.block za (lt_of_heap h.boxa) (by simp; omega)]; exact h.boxa
        boxb := by rw [hg.block zb (lt_of_heap h.boxb) (by simp; omega)]; exact h.boxb
        r0 := by rw [hg.block B (lt_of_heap h.r0) (by simp; omega)]; exact h.r0
        r1 := by rw [hg.block (B + 1) (lt_of_heap h.r1) (by simp; omega)]; exact h.r1
        owna := h.owna.kept hg h.sep
        ownb := by
          have e := (h.ownb.stored 1 (.int .i64 9)).1
          simpa [flat, nrE] using e }
end
end Go.Proofs.Ytohjphhocdgpgaa
