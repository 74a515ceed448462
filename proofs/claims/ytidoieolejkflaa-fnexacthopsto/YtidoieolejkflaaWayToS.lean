/-
  spec.WayTo: its contract.
-/
import Derived.Test.YtidoieolejkflaaCopyW
import Derived.Test.YtidoieolejkflaaWaysM
namespace Go.Proofs.Ytidoieolejkflaa
open Go.RowKit

set_option linter.unusedSimpArgs false

theorem results_cell_row_tmpW {P : Program} {fn : Func} {p u : Tmp} {ty : TypeId} (h : fn.results = #[.cell p ty, .tmp u]) (tmps : Array Value) (w : World) (g : Nat) (t : TypeId) (cs : Array Value) (fr : Nat × Nat) (d : TypeDesc)
    (hp : tmps.getD p undef = .pointer (some ⟨g, 0, none⟩)) (hg : w.heap[g]? = some (.cells cs t fr))
    (hu : P.underlying ty = some d) (hd : (match d with | .struct _ | .array _ _ => true | _ => false) = true) (hi : (P.info? ty).map (·.size) = some cs.size) :
    (results fn tmps).run P w = .ok (.tuple #[.agg cs, tmps.getD u undef]) w := by
  have hp' : tmps[p]?.getD undef = .pointer (some ⟨g, 0, none⟩) := by simpa using hp
  rw [results_cell_tmp h]
  simp [hp', asAddr, run_loadVar_row w g t ty cs fr d hg hu hd hi]

/-- the first way to z -/
def wayToD (xs : List WayD) (z : Int) : WayD := (xs.find? (fun x => x.to == z)).getD zeroWD

def wayToB (xs : List WayD) (z : Int) : Bool := (xs.find? (fun x => x.to == z)).isSome

theorem wayTo_hit {ps : List WP} {k : Nat} {p : WP} {z : Int} (h : ps[k]? = some p) (hno : ∀ q ∈ ps.take k, q.1.to ≠ z) (hz : p.1.to = z) : wayToD (fstsW ps) z = p.1 ∧ wayToB (fstsW ps) z = true := by
  have e : (fstsW ps).find? (fun x => x.to == z) = some p.1 := by
    have h1 := fstsW_at h
    obtain ⟨hk, e1⟩ := List.getElem?_eq_some_iff.1 h1
    rw [List.find?_eq_some_iff_append]
    refine ⟨by simpa using hz, (fstsW ps).take k, (fstsW ps).drop (k + 1), ?_, ?_⟩
    · rw [← e1, ← List.drop_eq_getElem_cons hk, List.take_append_drop]
    · intro x hx
      have e2 : (fstsW ps).take k = fstsW (ps.take k) := by simp [fstsW]
      rw [e2] at hx
      simp only [fstsW, List.mem_map] at hx
      obtain ⟨q, hq, rfl⟩ := hx
      simpa using hno q hq
  unfold wayToD wayToB
  rw [e]
  exact ⟨rfl, rfl⟩

theorem wayTo_none {ps : List WP} {z : Int} (hno : ∀ q ∈ ps, q.1.to ≠ z) : wayToD (fstsW ps) z = zeroWD ∧ wayToB (fstsW ps) z = false := by
  have e : (fstsW ps).find? (fun x => x.to == z) = none := by
    rw [List.find?_eq_none]
    intro x hx
    simp only [fstsW, List.mem_map] at hx
    obtain ⟨q, hq, rfl⟩ := hx
    simpa using hno q hq
  unfold wayToD wayToB
  rw [e]
  exact ⟨rfl, rfl⟩

theorem take_all {ps : List WP} {k : Nat} {p : WP} {z : Int} (h : ps[k]? = some p) (hno : ∀ q ∈ ps.take k, q.1.to ≠ z) (hz : p.1.to ≠ z) : ∀ q ∈ ps.take (k + 1), q.1.to ≠ z := by
  obtain ⟨hk, e⟩ := List.getElem?_eq_some_iff.1 h
  rw [List.take_succ_eq_append_getElem hk, e]
  intro q hq
  rcases List.mem_append.1 hq with h1 | h1
  · exact hno q h1
  · have : q = p := by simpa using h1
    subst this
    exact hz

set_option maxRecDepth 100000 in
set_option maxHeartbeats 2000000 in
theorem swayTo_any (v : Value) (ps : List WP) (lo hi : Nat) (z : Int) (w : World) (hv : WaysOwn w lo hi v ps) (hhi : hi ≤ w.heap.size) (hn : totW ps ≤ 1048576) :
    Calls Try.prog 26 #[v, .int .i64 z] w fun e w' => ∃ u, e = .returned (.tuple #[.agg (wayC (wayToD (fstsW ps) z) u), .bool (wayToB (fstsW ps) z)]) ∧ w'.ownsRow w.heap.size 3 1 u (wayToD (fstsW ps) z).hops.length (flat intE (wayToD (fstsW ps) z).hops) ∧ Below w.heap.size w w' := by
  have hnl := totW_len ps
  obtain ⟨D, hD⟩ : ∃ D, D = wayToD (fstsW ps) z := ⟨_, rfl⟩
  obtain ⟨F, hF⟩ : ∃ F, F = wayToB (fstsW ps) z := ⟨_, rfl⟩
  rw [← hD, ← hF]
  have HD := hide hD
  have HF := hide hF
  clear hD hF
  obtain ⟨a1, c1, rfl⟩ := owns_lenS hv.row
  have HV := hide hv
  clear hv
  have BX : Below w.heap.size w (w.alloc (.cells #[.int .i64 0, .int .i64 0, .slice none 0 0] 47)) := (Below.refl _ _).alloc (Nat.le_refl _) _
  have hq := heap_alloc_new w (.cells #[.int .i64 0, .int .i64 0, .slice none 0 0] 47)
  obtain ⟨w0, hw0⟩ : ∃ W, W = w.alloc (.cells #[.int .i64 0, .int .i64 0, .slice none 0 0] 47) := ⟨_, rfl⟩
  rw [← hw0] at BX hq
  have hs0 := lt_of_heap hq
  have HQ := hide hq
  clear hq
  unfold wayC
  go_enter Try.func26, Try.ntmps26
  go_wp2
  rw [← hw0]
  clear hw0
  go_loopw [6] (fun i wr => ∃ k : Nat, k ≤ ps.length ∧ i = .int .i64 k ∧ Hid (∀ q ∈ ps.take k, q.1.to ≠ z) ∧ Below w0.heap.size w0 wr) (fun i _ => ps.length - (intOf i).toNat)
  case atStart => exact ⟨0, by omega, rfl, hide (by simp), Below.refl _ _⟩
  case round =>
    obtain ⟨k, hk, rfl, HNO, hnx⟩ := hrel
    have hsz := hnx.size
    have BWR : Below w.heap.size w wr := BX.trans (hnx.mono (by omega))
    have hz1 := (hnx.block _ hs0).trans HQ.out
    by_cases hlt : k < ps.length
    · obtain ⟨p, hp⟩ : ∃ p, ps[k]? = some p := ⟨ps[k], List.getElem?_eq_getElem hlt⟩
      obtain ⟨b, off, cp, hve, hbb, c0, c1, c2, _⟩ := HV.out.at.cells k p hp
      cases hve
      have hbw : b < w.heap.size := by omega
      have hno := HV.out.nears p (List.mem_of_getElem? hp)
      obtain ⟨pa, pc, hpn⟩ := owns_lenS hno.1
      have HCP := hide (fun W (hb : Below w.heap.size w W) => copyW_any p.1 p.2 lo W (owns_below hno.1 hb (Nat.le_refl _)) (by have := totW_mem (List.mem_of_getElem? hp); omega))
      unfold wayC at HCP
      rw [hpn] at c2 HCP
      rw [← BWR.cell (p := ⟨b, off + k * 3, none⟩) hbw] at c0
      rw [← BWR.cell (p := ⟨b, off + k * 3 + 1, none⟩) hbw] at c1
      rw [← BWR.cell (p := ⟨b, off + k * 3 + 2, none⟩) hbw] at c2
      have hki : (0 : Int) ≤ (k : Int) := by omega
      have hkj : (k : Int) < (ps.length : Int) := by omega
      by_cases hzz : p.1.to = z
      · have hh := wayTo_hit hp HNO.out hzz
        have hDe : D = p.1 := HD.out.trans hh.1
        have hFe : F = true := HF.out.trans hh.2
        subst hDe hFe
        subst hzz
        clear hp hno hpn hh
        go_wp2_with fail
        refine (HCP.out _ BWR).mono ?_
        rintro e w2 ⟨v1, rfl, hn2, b2⟩
        obtain ⟨na, nc, rfl⟩ := owns_lenS hn2
        have b2s := b2.size
        have hz2 := (b2.block _ (lt_of_heap hz1)).trans hz1
        have u0 := cells_at hz2 0
        have u1 := cells_at hz2 1
        have u2 := cells_at hz2 2
        simp at u0 u1 u2
        have fu := frozen_at hz2
        have FF := hide (finW3 p.1 (.slice na p.1.hops.length nc) hz2)
        have G8 := grownW3 w2 w.heap.size p.1 (.slice na p.1.hops.length nc)
        have O3 := hide (owns_baseS (b0 := w.heap.size) (hn2.kept G8 (by
          cases hv : (Value.slice na p.1.hops.length nc).ownBlock with
          | none => exact .inl rfl
          | some g => exact .inr (fun e => by have := (hn2.lt g hv).1; simp at e; omega))) (by omega))
        have B2 : Below w.heap.size w w2 := BWR.trans (b2.mono (by omega))
        have BF := hide (B2.grown G8 B2.size (fun k hk => by simp at hk; omega))
        clear hz2 hn2 b2 G8 hz1
        go_wp2_with fail
        (try simp only [Exit.inBlock, Exit.then])
        refine bodyPost_ret (results_cell_row_tmpW rfl _ _ w.heap.size 47 (wayC p.1 (.slice na p.1.hops.length nc)) (0, 0) _ rfl FF.out Try.underlying47 rfl (by kernel_rfl)) rfl ?_
        exact ⟨_, rfl, O3.out, BF.out⟩
      · have HN := hide (take_all hp HNO.out hzz)
        have hd : (p.1.to == z) = false := by simpa using hzz
        clear hp hno hpn hz1
        go_wp2
        go_roundw
        case rel => exact ⟨k + 1, by omega, by go_num, HN, hnx⟩
        case measure => simp [intOf]; omega
    · have hh := wayTo_none (ps := ps) (z := z) (by have h := HNO.out; rw [List.take_of_length_le (by omega)] at h; exact h)
      have hDe : D = zeroWD := HD.out.trans hh.1
      have hFe : F = false := HF.out.trans hh.2
      subst hDe hFe
      have u0 := cells_at hz1 0
      have u1 := cells_at hz1 1
      have u2 := cells_at hz1 2
      simp at u0 u1 u2
      have fu := frozen_at hz1
      have FF := hide (finW3 zeroWD (.slice none 0 0) hz1)
      have G8 := hide (grownW3 wr w.heap.size zeroWD (.slice none 0 0))
      clear hz1 hh
      go_wp2_with fail
      (try simp only [Exit.inBlock, Exit.then])
      refine bodyPost_ret (results_cell_row_tmpW rfl _ _ w.heap.size 47 (wayC zeroWD (.slice none 0 0)) (0, 0) _ rfl FF.out Try.underlying47 rfl (by kernel_rfl)) rfl ?_
      exact ⟨.slice none 0 0, rfl, World.ownsRow_nil _ _ _ _, BWR.grown G8.out BWR.size (fun k hk => by simp at hk; omega)⟩
end Go.Proofs.Ytidoieolejkflaa
