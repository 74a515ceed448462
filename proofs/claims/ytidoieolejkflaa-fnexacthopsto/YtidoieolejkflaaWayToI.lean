/-
  impl.ownHops, ownWay, WayTo: their contracts.
-/
import Derived.Test.YtidoieolejkflaaWayToS
namespace Go.Proofs.Ytidoieolejkflaa
open Go.RowKit

set_option linter.unusedSimpArgs false

set_option maxRecDepth 100000 in
set_option maxHeartbeats 1000000 in
theorem ownHops_any (l : List Int) (v : Value) (base : Nat) (w : World) (ho : w.ownsRow base 3 1 v l.length (flat intE l)) (hn : l.length ≤ 1048576) :
    Calls Try.prog 37 #[v] w fun e w' => ∃ v', e = .returned v' ∧ w'.ownsRow w.heap.size 3 1 v' l.length (flat intE l) ∧ Below w.heap.size w w' := by
  obtain ⟨va, vc, rfl⟩ := owns_lenS ho
  have OW := hide ho
  clear ho
  go_enter Try.func37, Try.ntmps37
  go_wp2_with (first
    | (at_builtin; refine append_row5 int_flat1 (by omega) intE_one (by omega) _ rfl _ _ 24 rfl w.heap.size 3 Try.underlying24 (.int .i64 0) rfl Try.info3 _ [] rfl (World.ownsRow_nil _ _ _ _) base _ l rfl OW.out (by simp; omega) (by simp) ?_))
  intro v' w4 hown' hgrow
  obtain ⟨na, nc, rfl⟩ := owns_lenS hown'
  simp only [Value.ownBlock] at hgrow
  have hb4 := hide (show Below w.heap.size w w4 from (Below.refl w.heap.size w).grown hgrow (Nat.le_refl _) (fun k hk => by simp at hk))
  have H1 := hide hown'
  clear hown' hgrow
  go_wp2
  go_ret
  exact ⟨_, rfl, by simpa using H1.out, hb4.out⟩

set_option maxRecDepth 100000 in
set_option maxHeartbeats 1000000 in
theorem ownWay_any (x : WayD) (v : Value) (base : Nat) (w : World) (ho : w.ownsRow base 3 1 v x.hops.length (flat intE x.hops)) (hn : x.hops.length ≤ 1048576) :
    Calls Try.prog 57 #[.agg (wayC x v)] w fun e w' => ∃ v', e = .returned (.agg (wayC x v')) ∧ w'.ownsRow w.heap.size 3 1 v' x.hops.length (flat intE x.hops) ∧ Below w.heap.size w w' := by
  obtain ⟨va, vc, rfl⟩ := owns_lenS ho
  have HC := hide (fun W (hb : Below w.heap.size w W) => ownHops_any x.hops (.slice va x.hops.length vc) base W (owns_below ho hb (Nat.le_refl _)) hn)
  clear ho
  go_enter Try.func57, Try.ntmps57
  unfold wayC
  go_wp2_with fail
  have hb0 : Below w.heap.size w ((w.alloc (.cells #[.int .i64 x.to, .int .i64 x.cost, .slice va x.hops.length vc] 47)).alloc (.cells #[.int .i64 0, .int .i64 0, .slice none 0 0] 47)) := ((Below.refl w.heap.size w).alloc (by simp) _).alloc (by simp) _
  have q0 : ((w.alloc (.cells #[.int .i64 x.to, .int .i64 x.cost, .slice va x.hops.length vc] 47)).alloc (.cells #[.int .i64 0, .int .i64 0, .slice none 0 0] 47)).heap[w.heap.size]? = some (.cells #[.int .i64 x.to, .int .i64 x.cost, .slice va x.hops.length vc] 47) := by
    rw [Below.heap_alloc _ _ _ (by simp), heap_alloc_new]
  have q1 : ((w.alloc (.cells #[.int .i64 x.to, .int .i64 x.cost, .slice va x.hops.length vc] 47)).alloc (.cells #[.int .i64 0, .int .i64 0, .slice none 0 0] 47)).heap[w.heap.size + 1]? = some (.cells #[.int .i64 0, .int .i64 0, .slice none 0 0] 47) := by
    have e := heap_alloc_new (w.alloc (.cells #[.int .i64 x.to, .int .i64 x.cost, .slice va x.hops.length vc] 47)) (.cells #[.int .i64 0, .int .i64 0, .slice none 0 0] 47)
    rw [show (w.alloc (.cells #[.int .i64 x.to, .int .i64 x.cost, .slice va x.hops.length vc] 47)).heap.size = w.heap.size + 1 by simp] at e
    exact e
  generalize ((w.alloc (.cells #[.int .i64 x.to, .int .i64 x.cost, .slice va x.hops.length vc] 47)).alloc (.cells #[.int .i64 0, .int .i64 0, .slice none 0 0] 47)) = w3 at *
  refine (HC.out _ hb0).mono ?_
  rintro e w4 ⟨v', rfl, hown', hb4'⟩
  obtain ⟨na, nc, rfl⟩ := owns_lenS hown'
  have hs1 := lt_of_heap q1
  have hb4 : Below w.heap.size w w4 := hb0.trans (hb4'.mono (by omega))
  have q0 := (hb4'.block _ (by omega)).trans q0
  have q1 := (hb4'.block _ hs1).trans q1
  have r2 := cells_at q0 2
  have f0 := frozen_at q0
  simp at r2
  have q2 := heap_setCell_same w4 w.heap.size 2 _ _ (.slice na x.hops.length nc) q0
  simp only [List.setIfInBounds_toArray, List.set_cons_zero, List.set_cons_succ] at q2
  have q3 : (w4.setCell ⟨w.heap.size, 2, none⟩ (.slice na x.hops.length nc)).heap[w.heap.size + 1]? = some (.cells #[.int .i64 0, .int .i64 0, .slice none 0 0] 47) := by
    rw [heap_setCell_other w4 ⟨w.heap.size, 2, none⟩ _ _ (by show w.heap.size + 1 ≠ w.heap.size; omega)]; exact q1
  have y0 := cells_at q2 0
  have y1 := cells_at q2 1
  have y2 := cells_at q2 2
  simp at y0 y1 y2
  have u0 := cells_at q3 0
  have u1 := cells_at q3 1
  have u2 := cells_at q3 2
  simp at u0 u1 u2
  have fu := frozen_at q3
  have F := finW3 x (.slice na x.hops.length nc) q3
  have hown2 := owns_set (j := 2) (u := .slice na x.hops.length nc) hown' (show w.heap.size < w3.heap.size by omega)
  have G8 := grownW3 (w4.setCell ⟨w.heap.size, 2, none⟩ (.slice na x.hops.length nc)) (w.heap.size + 1) x (.slice na x.hops.length nc)
  have hown3 := owns_baseS (b0 := w.heap.size) (hown2.kept G8 (by
    cases hv : (Value.slice na x.hops.length nc).ownBlock with
    | none => exact .inl rfl
    | some g => exact .inr (fun e => by have := (hown2.lt g hv).1; simp at e; omega))) (by omega)
  have hb5 : Below w.heap.size w (putW3 (w4.setCell ⟨w.heap.size, 2, none⟩ (.slice na x.hops.length nc)) (w.heap.size + 1) x (.slice na x.hops.length nc)) := (hb4.setCell (p := ⟨w.heap.size, 2, none⟩) (Nat.le_refl _) _).grown G8 (by have := lt_of_heap q3; omega) (fun k hk => by simp at hk; omega)
  have FF := hide F
  have H3 := hide hown3
  have H5 := hide hb5
  clear F hown3 hb5 hown2 G8 hb4 hown' hb4' q0 q1 q2 q3 hb0 HC
  go_wp2_with fail
  (try simp only [Exit.inBlock, Exit.then])
  refine bodyPost_ret (results_cell_row rfl _ _ (w.heap.size + 1) 47 (wayC _ _) (0, 0) _ rfl FF.out Try.underlying47 rfl (by kernel_rfl)) rfl ?_
  exact ⟨_, rfl, H3.out, H5.out⟩

theorem below_al {B : Nat} {w W : World} (h : Below B w W) (hB : B ≤ w.heap.size) (o : Obj) : Below B w (W.alloc o) := h.alloc (Nat.le_trans hB h.size) o

set_option maxRecDepth 100000 in
set_option maxHeartbeats 2000000 in
theorem iwayTo_any (v : Value) (ps : List WP) (lo hi : Nat) (z : Int) (w : World) (hv : WaysOwn w lo hi v ps) (hhi : hi ≤ w.heap.size) (hn : totW ps ≤ 1048576) :
    Calls Try.prog 28 #[v, .int .i64 z] w fun e w' => ∃ u, e = .returned (.tuple #[.agg (wayC (wayToD (fstsW ps) z) u), .bool (wayToB (fstsW ps) z)]) ∧ w'.ownsRow w.heap.size 3 1 u (wayToD (fstsW ps) z).hops.length (flat intE (wayToD (fstsW ps) z).hops) ∧ Below w.heap.size w w' := by
  have hnl := totW_len ps
  obtain ⟨D, hD⟩ : ∃ D, D = wayToD (fstsW ps) z := ⟨_, rfl⟩
  obtain ⟨F, hF⟩ : ∃ F, F = wayToB (fstsW ps) z := ⟨_, rfl⟩
  rw [← hD, ← hF]
  have HD := hide hD
  have HF := hide hF
  clear hD hF
  obtain ⟨a1, c1, rfl⟩ := owns_lenS hv.row
  have HV := hide hv
  clear hv
  have BX : Below w.heap.size w (w.alloc (.cells #[.int .i64 0, .int .i64 0, .slice none 0 0] 47)) := (Below.refl _ _).alloc (Nat.le_refl _) _
  have hq := heap_alloc_new w (.cells #[.int .i64 0, .int .i64 0, .slice none 0 0] 47)
  obtain ⟨w0, hw0⟩ : ∃ W, W = w.alloc (.cells #[.int .i64 0, .int .i64 0, .slice none 0 0] 47) := ⟨_, rfl⟩
  rw [← hw0] at BX hq
  have hs0 := lt_of_heap hq
  have HQ := hide hq
  clear hq
  unfold wayC
  go_enter Try.func28, Try.ntmps28
  go_wp2
  rw [← hw0]
  clear hw0
  go_loopw [10] (fun i wr => ∃ k : Nat, k ≤ ps.length ∧ i = .int .i64 k ∧ Hid (∀ q ∈ ps.take k, q.1.to ≠ z) ∧ Below w0.heap.size w0 wr) (fun i _ => ps.length - (intOf i).toNat)
  case atStart => exact ⟨0, by omega, rfl, hide (by simp), Below.refl _ _⟩
  case round =>
    obtain ⟨k, hk, rfl, HNO, hnx⟩ := hrel
    have hsz := hnx.size
    have BWR : Below w.heap.size w wr := BX.trans (hnx.mono (by omega))
    have hz1 := (hnx.block _ hs0).trans HQ.out
    by_cases hlt : k < ps.length
    · obtain ⟨p, hp⟩ : ∃ p, ps[k]? = some p := ⟨ps[k], List.getElem?_eq_getElem hlt⟩
      obtain ⟨b, off, cp, hve, hbb, c0, c1, c2, _⟩ := HV.out.at.cells k p hp
      cases hve
      have hbw : b < w.heap.size := by omega
      have hno := HV.out.nears p (List.mem_of_getElem? hp)
      obtain ⟨pa, pc, hpn⟩ := owns_lenS hno.1
      have HCP := hide (fun W (hb : Below w.heap.size w W) => ownWay_any p.1 p.2 lo W (owns_below hno.1 hb (Nat.le_refl _)) (by have := totW_mem (List.mem_of_getElem? hp); omega))
      unfold wayC at HCP
      rw [hpn] at c2 HCP
      rw [← BWR.cell (p := ⟨b, off + k * 3, none⟩) hbw] at c0
      rw [← BWR.cell (p := ⟨b, off + k * 3 + 1, none⟩) hbw] at c1
      rw [← BWR.cell (p := ⟨b, off + k * 3 + 2, none⟩) hbw] at c2
      have hki : (0 : Int) ≤ (k : Int) := by omega
      have hkj : (k : Int) < (ps.length : Int) := by omega
      by_cases hzz : p.1.to = z
      · have hh := wayTo_hit hp HNO.out hzz
        have hDe : D = p.1 := HD.out.trans hh.1
        have hFe : F = true := HF.out.trans hh.2
        subst hDe hFe
        subst hzz
        clear hp hno hpn hh
        go_wp2_with fail
        refine (HCP.out _ (BWR.alloc (by omega) _)).mono ?_
        rintro e w2 ⟨v1, rfl, hn2', b2'⟩
        obtain ⟨na, nc, rfl⟩ := owns_lenS hn2'
        have hn2 := owns_baseS (b0 := wr.heap.size) hn2' (by simp)
        have b2 : Below wr.heap.size wr w2 := ((Below.refl _ _).alloc (Nat.le_refl _) _).trans (b2'.mono (by simp))
        clear hn2' b2'
        have b2s := b2.size
        have hz2 := (b2.block _ (lt_of_heap hz1)).trans hz1
        have u0 := cells_at hz2 0
        have u1 := cells_at hz2 1
        have u2 := cells_at hz2 2
        simp at u0 u1 u2
        have fu := frozen_at hz2
        have FF := hide (finW3 p.1 (.slice na p.1.hops.length nc) hz2)
        have G8 := grownW3 w2 w.heap.size p.1 (.slice na p.1.hops.length nc)
        have O3 := hide (owns_baseS (b0 := w.heap.size) (hn2.kept G8 (by
          cases hv : (Value.slice na p.1.hops.length nc).ownBlock with
          | none => exact .inl rfl
          | some g => exact .inr (fun e => by have := (hn2.lt g hv).1; simp at e; omega))) (by omega))
        have B2 : Below w.heap.size w w2 := BWR.trans (b2.mono (by omega))
        have BF := hide (B2.grown G8 B2.size (fun k hk => by simp at hk; omega))
        clear hz2 hn2 b2 G8 hz1
        go_wp2_with fail
        (try simp only [Exit.inBlock, Exit.then])
        refine bodyPost_ret (results_cell_row_tmpW rfl _ _ w.heap.size 47 (wayC p.1 (.slice na p.1.hops.length nc)) (0, 0) _ rfl FF.out Try.underlying47 rfl (by kernel_rfl)) rfl ?_
        exact ⟨_, rfl, O3.out, BF.out⟩
      · have HN := hide (take_all hp HNO.out hzz)
        have hd : (p.1.to == z) = false := by simpa using hzz
        clear hp hno hpn hz1
        go_wp2
        go_roundw
        case rel => exact ⟨k + 1, by omega, by go_num, HN, hnx.alloc (by omega) _⟩
        case measure => simp [intOf]; omega
    · have hh := wayTo_none (ps := ps) (z := z) (by have h := HNO.out; rw [List.take_of_length_le (by omega)] at h; exact h)
      have hDe : D = zeroWD := HD.out.trans hh.1
      have hFe : F = false := HF.out.trans hh.2
      subst hDe hFe
      have u0 := cells_at hz1 0
      have u1 := cells_at hz1 1
      have u2 := cells_at hz1 2
      simp at u0 u1 u2
      have fu := frozen_at hz1
      have FF := hide (finW3 zeroWD (.slice none 0 0) hz1)
      have G8 := hide (grownW3 wr w.heap.size zeroWD (.slice none 0 0))
      clear hz1 hh
      go_wp2_with fail
      (try simp only [Exit.inBlock, Exit.then])
      refine bodyPost_ret (results_cell_row_tmpW rfl _ _ w.heap.size 47 (wayC zeroWD (.slice none 0 0)) (0, 0) _ rfl FF.out Try.underlying47 rfl (by kernel_rfl)) rfl ?_
      exact ⟨.slice none 0 0, rfl, World.ownsRow_nil _ _ _ _, BWR.grown G8.out BWR.size (fun k hk => by simp at hk; omega)⟩
end Go.Proofs.Ytidoieolejkflaa
