/-
  spec.RoutesWithin: its walk.
  Routes to things: what is offered, as ways whose cost is the rank of the offer.
-/
import Derived.Test.YthmmpmbnpfhloaaDoorSh27
namespace Go.Proofs.YthmmpmbnpfhloaaDoor
open Go.RowKit

set_option linter.unusedSimpArgs false

set_option maxRecDepth 100000 in
set_option maxHeartbeats 8000000 in
theorem swithin_any (v u : Value) (ps : List RP) (al : List Int) (hi : Nat) (src : Int) (w : World) (hv : RecsIn w hi v ps) (ha : HopsAt w u al hi) (hhi : hi ≤ w.heap.size) (hn : tot ps ≤ 1048576) (hal : al.length ≤ 1048576) :
    Calls Tryd.prog 43 #[v, u, .int .i64 src] w fun e w' => ∃ x qs, e = .returned x ∧ IsBest (withinS (fsts ps) al src) (fstsW qs) ∧ WaysOwn w' w.heap.size w'.heap.size x qs ∧ Below w.heap.size w w' := by
  obtain ⟨a1, c1, rfl⟩ := owns_lenS hv.row
  obtain ⟨a2, c2, rfl⟩ := ha.shape
  have LIT := ways_lit w w.heap.size (Nat.le_refl _)
  have hs1 : (w.alloc (.cells #[] 93)).heap.size = w.heap.size + 1 := by simp
  have B1 : Below w.heap.size w (w.alloc (.cells #[] 93)) := (Below.refl _ _).alloc (Nat.le_refl _) _
  obtain ⟨w1, hw1⟩ : ∃ W, W = w.alloc (.cells #[] 93) := ⟨_, rfl⟩
  rw [← hw1] at LIT hs1 B1
  have LS := wls_lit w1 w1.heap.size (Nat.le_refl _)
  have B0 : Below w1.heap.size w1 (w1.alloc (.cells #[] 88)) := (Below.refl _ _).alloc (Nat.le_refl _) _
  obtain ⟨w0, hw0⟩ : ∃ W, W = w1.alloc (.cells #[] 88) := ⟨_, rfl⟩
  rw [← hw0] at LS B0
  have HWI := hide (fun area W (hb : Below w.heap.size w W) => swaysIn_any (.slice a1 ps.length c1) ps hi area src W (hv.below hb hhi) (Nat.le_trans hhi hb.size) hn)
  have HA := hide ha
  clear hv ha
  have HLIT := hide LIT
  have HLS := hide LS
  clear LIT LS
  have HS1 := hide hs1
  clear hs1
  go_enter Tryd.func43, Tryd.ntmps43
  go_wp2
  rw [← hw1, ← hw0, show w.heap.size + 1 = w1.heap.size from HS1.out.symm]
  clear hw1 hw0
  go_loopw [9, 8] (fun i o wr => ∃ (k : Nat) (y : Value) (ls : List LP), k ≤ al.length ∧ i = .int .i64 (k : Int) ∧ o = y ∧ WLs wr w1.heap.size wr.heap.size y ls ∧ Hid (AreaWays (fsts ps) src (al.take k) ls) ∧ Below w1.heap.size w1 wr) (fun i _ _ => al.length - (intOf i).toNat)
  case atStart => exact ⟨0, _, [], by omega, rfl, rfl, HLS.out, hide (by simp [AreaWays]), B0⟩
  case round =>
    obtain ⟨k, y, ls, hk, rfl, rfl, hls, HAW, hnx⟩ := hrel
    clear HLS B0
    obtain ⟨ya, yc, rfl⟩ := owns_lenS hls.row
    have hlen : ls.length = k := by have := HAW.out.len; rw [List.length_take, Nat.min_eq_left hk] at this; exact this
    have BW : Below w.heap.size w wr := B1.trans (hnx.mono B1.size)
    have hws := BW.size
    by_cases hlt : k < al.length
    · obtain ⟨area, har⟩ : ∃ a, al[k]? = some a := ⟨al[k], List.getElem?_eq_getElem hlt⟩
      obtain ⟨b, off, cap', hve, hbb, c0⟩ := HA.out.cell k area har
      cases hve
      rw [← BW.cell (p := ⟨b, off + k, none⟩) (by show b < w.heap.size; omega)] at c0
      have hki : (0 : Int) ≤ (k : Int) := by omega
      have hkj : (k : Int) < (al.length : Int) := by omega
      have HLS := hide hls
      have HAR := hide har
      have HLEN := hide hlen
      clear hls har hlen
      go_wp2_with fail
      refine (HWI.out area _ BW).mono ?_
      rintro e w2 ⟨uw, ws, rfl, hws2, how, b2⟩
      obtain ⟨wsa, wsc, rfl⟩ := owns_lenS how.row
      have hb2 := b2.size
      have HWE := hide (hws2.eq)
      have BA : Below w2.heap.size w2 (w2.alloc (.cells #[.slice wsa ws.length wsc] 88)) := (Below.refl _ _).alloc (Nat.le_refl _) _
      have OWA := hide ((owns_below HLS.out.row b2 (Nat.le_refl _)).alloc (.cells #[.slice wsa ws.length wsc] 88))
      have HOW := hide how
      clear hws2 how
      go_wp2_with (first
        | (at_builtin; refine append_struct6 encLP_len (by omega) (by omega) _ rfl _ _ 106 rfl w1.heap.size 88 Tryd.underlying106 (.slice none 0 0) rfl Tryd.infoWayS _ ls (.slice wsa ws.length wsc, ws) (fun q hq => by simp [encLP] at hq; subst hq; rfl) rfl OWA.out ⟨w2.heap.size, 0, none⟩ 1 rfl (news_struct (cs := encLP (.slice wsa ws.length wsc, ws))) (by have := HLEN.out; omega) (by simp; have := hnx.size; omega) ?_))
      intro v' w4 hown' hgrow hat
      have BB : Below wr.heap.size wr (w2.alloc (.cells #[.slice wsa ws.length wsc] 88)) := b2.trans (BA.mono hb2)
      have N1 := hide (HLS.out.push BB ((HOW.out.below BA (Nat.le_refl _)).wide hnx.size BA.size) (by simpa using hown') hgrow)
      have N2 := hide (HAW.out.push (p := (.slice wsa ws.length wsc, ws)) HAR.out HWE.out)
      have N3 := hide ((hnx.trans (BB.mono hnx.size)).grown hgrow (by have := BB.size; have := hnx.size; omega) (fun j hj => (HLS.out.row.lt j hj).1))
      obtain ⟨va, vc, rfl⟩ := owns_lenS hown'
      clear hown' hgrow hat BB OWA HOW HLS BA b2
      go_wp2
      go_roundw
      case rel => exact ⟨k + 1, _, ls ++ [(.slice wsa ws.length wsc, ws)], by omega, by go_num, rfl, N1.out, N2, N3.out⟩
      case measure => simp [intOf]; omega
    · have hkn : ¬ (k : Int) < (al.length : Int) := by omega
      have HAL := hide (show AreaWays (fsts ps) src al ls by have h := HAW.out; rw [List.take_of_length_le (by omega)] at h; exact h)
      have HO := hide ((HLIT.out.below hnx (Nat.le_refl _)).wide (Nat.le_refl _) hnx.size)
      have HLS := hide hls
      rename World => wb
      have hwb := hnx.size
      clear hls HAW hlen HLIT hnx
      go_wp2
      go_loopw [10, 7] (fun i o wr => ∃ (t : Nat) (x : Value) (qs : List WP), 1 ≤ t ∧ t ≤ 7 ∧ i = .int .i64 (t : Int) ∧ o = x ∧ WaysOwn wr w.heap.size wr.heap.size x qs ∧ Hid (IsBest (fun to d => to < (t : Int) ∧ withinS (fsts ps) al src to d) (fstsW qs)) ∧ Off x w1.heap.size wb.heap.size ∧ WLs wr w1.heap.size wb.heap.size (.slice ya ls.length yc) ls ∧ Below w.heap.size w wr ∧ wb.heap.size ≤ wr.heap.size) (fun i _ _ => 8 - (intOf i).toNat)
      case atStart => exact ⟨1, _, [], by omega, by omega, rfl, rfl, HO.out, hide (isBest_none (fun to d ⟨h1, h2⟩ => by have h3 := (withinS_good h2); have := h3.1.node; rw [h3.2] at this; omega)), fun b hb => by simp [Value.ownBlock] at hb; have := HS1.out; omega, HLS.out, BW, Nat.le_refl _⟩
      case round =>
        obtain ⟨t, x, qs, ht1, ht7, rfl, rfl, hown, HB, hoff, hls, hnx, hsz⟩ := hrel
        clear HO HLS BW hws
        obtain ⟨xa, xc, rfl⟩ := owns_lenS hown.row
        rename World => wt
        by_cases ht : t ≤ 6
        · have ht6 : (t : Int) ≤ 6 := by omega
          have HOWN := hide hown
          have HLS := hide hls
          have HOFF := hide hoff
          have hq6 : qs.length ≤ 6 := by
            have h := asc_tos HB.out.1 (fun d hd => (HB.out.good (fun to d h => withinS_good h.2) d hd).node)
            simpa [fstsW] using h
          have BXZ : BoxSt wt (wt.alloc (.cells #[.int .i64 0, .int .i64 0, .slice none 0 0] 93)) wt.heap.size zeroWD (.slice none 0 0) := ⟨heap_alloc_new _ _, World.ownsRow_nil _ _ _ _, (Below.refl _ _).alloc (Nat.le_refl _) _, by simp [zeroWD]⟩
          obtain ⟨wz, hwz⟩ : ∃ W, W = wt.alloc (.cells #[.int .i64 0, .int .i64 0, .slice none 0 0] 93) := ⟨_, rfl⟩
          rw [← hwz] at BXZ
          have HBX := hide BXZ
          clear hown hls hoff BXZ
          go_wp2
          rw [← hwz]
          clear hwz
          go_loopw [13, 12] (fun i f wr => ∃ (k : Nat) (F : Bool) (b : WayD) (bv : Value), k ≤ al.length ∧ i = .int .i64 (k : Int) ∧ f = .bool F ∧ BoxSt wt wr wt.heap.size b bv ∧ Hid (BestOf (t : Int) (withinS (fsts ps) (al.take k) src (t : Int)) (if F then some b else none))) (fun i _ _ => al.length - (intOf i).toNat)
          case atStart => exact ⟨0, false, _, _, by omega, rfl, rfl, HBX.out, hide (fun d ⟨_, a, h, _⟩ => by simp at h)⟩
          case round =>
            obtain ⟨k, F, b, bv, hk, rfl, rfl, hbx, HBO⟩ := hrel
            clear HBX
            have BWR : Below w.heap.size w wr := hnx.trans (hbx.bel.mono hnx.size)
            have hzlt := lt_of_heap hbx.box
            obtain ⟨bva, bvc, rfl⟩ := owns_lenS hbx.own
            by_cases hlt : k < al.length
            · obtain ⟨area, har⟩ : ∃ a, al[k]? = some a := ⟨al[k], List.getElem?_eq_getElem hlt⟩
              obtain ⟨p, hp, hpw⟩ := HAL.out.at har
              have hls2 := HLS.out.below hbx.bel hsz
              obtain ⟨g, cap', hve, cg, hgb, hgw⟩ := hls2.cell hp
              cases hve
              have hpo := hls2.ways p (List.mem_of_getElem? hp)
              obtain ⟨pa, pc, hpn⟩ := owns_lenS hpo.row
              rw [hpn] at cg
              have hki : (0 : Int) ≤ (k : Int) := by omega
              have hkj : (k : Int) < (al.length : Int) := by omega
              have hkl : (k : Int) < (ls.length : Int) := by rw [HAL.out.len]; omega
              have HWT := swayTo_any p.1 p.2 w1.heap.size wb.heap.size (t : Int) wr hpo (by omega) (by have := ways_tot hpw; omega)
              rw [hpn] at HWT
              have HBN := hide (bestOf_area togOk_D har HBO.out)
              rw [← hpw] at HBN
              have hfd := wayTo_find (fstsW p.2) (t : Int)
              obtain ⟨D, hD⟩ : ∃ D, D = wayToD (fstsW p.2) (t : Int) := ⟨_, rfl⟩
              obtain ⟨FB, hFB⟩ : ∃ F, F = wayToB (fstsW p.2) (t : Int) := ⟨_, rfl⟩
              rw [← hD, ← hFB] at HWT hfd
              have hD6 : D.hops.length ≤ 6 := by
                rcases hfd with ⟨_, h2⟩ | ⟨h1, h2⟩
                · have hm := (findW_some h2).1
                  rw [hpw] at hm
                  exact ((waysD_asc (fsts ps) area src).2 D hm).1.len
                · rw [hD]
                  unfold wayToD
                  unfold findW at h2
                  rw [h2]
                  simp [zeroWD]
              have HW := hide HWT
              have HFD := hide hfd
              have HBX := hide hbx
              unfold wayC at HW
              clear HWT hfd hbx hls2 hpo hp hpw hpn har hD hFB
              go_wp2_with fail
              refine HW.out.mono ?_
              rintro e w3 ⟨du, rfl, hdu, b3⟩
              obtain ⟨da, dc, rfl⟩ := owns_lenS hdu
              have hb3 := b3.size
              have hbx3 := HBX.out.below b3
              have BA : Below w3.heap.size w3 (w3.alloc (.cells #[.int .i64 D.to, .int .i64 D.cost, .slice da D.hops.length dc] 93)) := (Below.refl _ _).alloc (Nat.le_refl _) _
              have hx4 := heap_alloc_new w3 (.cells #[.int .i64 D.to, .int .i64 D.cost, .slice da D.hops.length dc] 93)
              obtain ⟨w4, hw4⟩ : ∃ W, W = w3.alloc (.cells #[.int .i64 D.to, .int .i64 D.cost, .slice da D.hops.length dc] 93) := ⟨_, rfl⟩
              rw [← hw4] at BA hx4
              have hbx4 := hbx3.below BA
              have hdu4 := owns_below hdu BA (Nat.le_refl _)
              have hs4 := BA.size
              have hl4 := lt_of_heap hx4
              have d0 := cells_at hx4 0
              have d1 := cells_at hx4 1
              have d2 := cells_at hx4 2
              simp at d0 d1 d2
              have hzb := hbx4.box
              unfold wayC at hzb
              have e0 := cells_at hzb 0
              have e1 := cells_at hzb 1
              have e2 := cells_at hzb 2
              simp at e0 e1 e2
              have fd := frozen_at hx4
              have fe := frozen_at hzb
              have HX4 := hide hx4
              have HDU := hide hdu4
              have HB4 := hide hbx4
              have hlast : Below w3.heap.size w3 w4 := BA
              clear hdu b3 hbx3 hbx4 hdu4 hx4 hzb BA HBX HW
              cases FB
              · have HN := hide (show BestOf (t : Int) (withinS (fsts ps) (al.take (k + 1)) src (t : Int)) (if F then some b else none) by
                  have h := HBN.out
                  rcases HFD.out with ⟨h1, _⟩ | ⟨_, h2⟩
                  · cases h1
                  · rw [h2] at h; exact h)
                rw [hw4] at HB4
                clear HX4 HDU HBN HFD hw4 d0 d1 d2 e0 e1 e2 fd fe hlast
                go_wp2
                go_roundw
                case rel => exact ⟨k + 1, F, b, _, by omega, by go_num, rfl, HB4.out, HN⟩
                case measure => simp [intOf]; omega
              · have hfound : findW (fstsW p.2) (t : Int) = some D := by
                  rcases HFD.out with ⟨_, h2⟩ | ⟨h1, _⟩
                  · exact h2
                  · cases h1
                cases F
                · have HN := hide (show BestOf (t : Int) (withinS (fsts ps) (al.take (k + 1)) src (t : Int)) (if true then some D else none) by
                    have h := HBN.out
                    rw [hfound] at h
                    exact h)
                  have HF := hide (HB4.out.put rfl (owns_baseS (b0 := wt.heap.size + 1) HDU.out (by omega)) hD6)
                  rw [hw4] at HF d0 d1 d2 e0 e1 e2 fd fe
                  clear HX4 HDU HBN HFD HB4 hw4 hfound hlast
                  go_wp2
                  go_roundw
                  case rel => exact ⟨k + 1, true, D, _, by omega, by go_num, rfl, HF.out, HN⟩
                  case measure => simp [intOf]; omega
                · have HTG := stog_any b D (.slice bva b.hops.length bvc) (.slice da D.hops.length dc) wt.heap.size wr.heap.size w4 HB4.out.own HDU.out (by have := HB4.out.len; omega) (by omega)
                  unfold wayC at HTG
                  obtain ⟨E, hE⟩ : ∃ E, E = togD b D := ⟨_, rfl⟩
                  rw [← hE] at HTG
                  have hE6 : E.hops.length ≤ 6 := by rw [hE]; exact tog_len HB4.out.len hD6 (by omega)
                  have HN := hide (show BestOf (t : Int) (withinS (fsts ps) (al.take (k + 1)) src (t : Int)) (if true then some E else none) by
                    have h := HBN.out
                    rw [hfound] at h
                    rw [hE]
                    exact h)
                  have HT := hide HTG
                  rw [hw4] at d0 d1 d2 e0 e1 e2 fd fe
                  clear HTG HBN HFD hfound hE HDU
                  go_wp2_with fail
                  rw [← hw4]
                  refine HT.out.mono ?_
                  rintro e w5 ⟨eu, rfl, heu, b5⟩
                  obtain ⟨ea, ec, rfl⟩ := owns_lenS heu
                  have hb5 := b5.size
                  have hx5 := (b5.block _ hl4).trans HX4.out
                  have hbx5 := HB4.out.below b5
                  have hzb5 := hbx5.box
                  unfold wayC at hzb5
                  clear d0 d1 d2 e0 e1 e2 fd fe
                  have d0 := cells_at hx5 0
                  have d1 := cells_at hx5 1
                  have d2 := cells_at hx5 2
                  simp at d0 d1 d2
                  have e0 := cells_at hzb5 0
                  have e1 := cells_at hzb5 1
                  have e2 := cells_at hzb5 2
                  simp at e0 e1 e2
                  have fd := frozen_at hx5
                  have fe := frozen_at hzb5
                  have hg14 := grownW3 w5 w3.heap.size E (.slice ea E.hops.length ec)
                  have HF := hide ((hbx5.other hg14 (by omega) hx5 rfl).put rfl (owns_baseS (b0 := wt.heap.size + 1) (owns_other heu hg14 (by omega)) (by omega)) hE6)
                  have hne : wt.heap.size ≠ w3.heap.size := by omega
                  clear HX4 HB4 HT hx5 hbx5 hzb5 heu b5 hg14 hw4 hlast
                  go_wp2
                  go_roundw
                  case rel => exact ⟨k + 1, true, E, _, by omega, by go_num, rfl, HF.out, HN⟩
                  case measure => simp [intOf]; omega
            · have hkn : ¬ (k : Int) < (al.length : Int) := by omega
              have HBT := hide (show BestOf (t : Int) (withinS (fsts ps) al src (t : Int)) (if F then some b else none) by
                have h := HBO.out
                rw [List.take_of_length_le (by omega)] at h
                exact h)
              cases F
              · have N1 := hide ((HOWN.out.below hbx.bel (Nat.le_refl _)).wide (Nat.le_refl _) hbx.bel.size)
                have N2 := hide (show IsBest (fun to d => to < ((t + 1 : Nat) : Int) ∧ withinS (fsts ps) al src to d) (fstsW qs) from by
                  have h := HB.out.skip HBT.out
                  rw [show ((t + 1 : Nat) : Int) = (t : Int) + 1 by omega]
                  exact h)
                have N3 := hide (HLS.out.below hbx.bel hsz)
                have hszr : wb.heap.size ≤ wr.heap.size := by have := hbx.bel.size; omega
                clear hbx HBO HBT
                go_wp2
                go_roundw
                case rel => exact ⟨t + 1, _, qs, by omega, by omega, by go_num, rfl, N1.out, N2, HOFF.out, N3.out, BWR, hszr⟩
                case measure => simp [intOf]; omega
              · have hzb := hbx.box
                unfold wayC at hzb
                have e0 := cells_at hzb 0
                have e1 := cells_at hzb 1
                have e2 := cells_at hzb 2
                simp at e0 e1 e2
                have N2 := hide (show IsBest (fun to d => to < ((t + 1 : Nat) : Int) ∧ withinS (fsts ps) al src to d) (fstsW (qs ++ [(b, .slice bva b.hops.length bvc)])) from by
                  have h := HB.out.push HBT.out
                  rw [show ((t + 1 : Nat) : Int) = (t : Int) + 1 by omega]
                  have e : fstsW (qs ++ [(b, .slice bva b.hops.length bvc)]) = fstsW qs ++ [b] := by simp [fstsW]
                  rw [e]
                  exact h)
                have BA : Below wr.heap.size wr (wr.alloc (.cells #[.int .i64 b.to, .int .i64 b.cost, .slice bva b.hops.length bvc] 93)) := (Below.refl _ _).alloc (Nat.le_refl _) _
                have BT : Below wt.heap.size wt (wr.alloc (.cells #[.int .i64 b.to, .int .i64 b.cost, .slice bva b.hops.length bvc] 93)) := hbx.bel.trans (BA.mono (by omega))
                have OW := hide ((owns_below HOWN.out.row hbx.bel (Nat.le_refl _)).alloc (.cells #[.int .i64 b.to, .int .i64 b.cost, .slice bva b.hops.length bvc] 93))
                have HHO := hide (show HopOwn (wr.alloc (.cells #[.int .i64 b.to, .int .i64 b.cost, .slice bva b.hops.length bvc] 93)) wt.heap.size (wr.alloc (.cells #[.int .i64 b.to, .int .i64 b.cost, .slice bva b.hops.length bvc] 93)).heap.size (b, .slice bva b.hops.length bvc) from ⟨hbx.own.alloc _, fun k hk => ((hbx.own.alloc _).lt k hk).2⟩)
                have HLS2 := hide (HLS.out.below BT hsz)
                have hws := hnx.size
                clear hbx HBO HBT hzb
                go_wp2_with (first
                  | (at_builtin; refine append_struct6 encW_len (by omega) (by omega) _ rfl _ _ 88 rfl w.heap.size 93 Tryd.underlying88 (.agg (wayC zeroWD (.slice none 0 0))) rfl Tryd.infoWay _ qs (b, .slice bva b.hops.length bvc) (encW_one _ _ _ _) rfl OW.out ⟨wr.heap.size, 0, none⟩ 1 rfl (news_struct (cs := encW (b, .slice bva b.hops.length bvc))) (by omega) (by simp; omega) ?_))
                intro v' w6 hown' hgrow hat
                have N1 := hide (HOWN.out.push BT hws HHO.out (by simpa using hown') hgrow)
                have N3 := hide (HLS2.out.keep (HOFF.out.kept hgrow))
                have N4 := hide ((hnx.trans (BT.mono hws)).grown hgrow (by have := BT.size; omega) (fun j hj => (HOWN.out.row.lt j hj).1))
                have N5 := hide (HOFF.out.next (x' := v') (B := wb.heap.size) (fun j hj => by
                  rcases hat with h1 | h1
                  · exact .inl (by rw [← h1]; exact hj)
                  · right
                    rw [h1] at hj
                    simp at hj
                    omega) (Nat.le_refl _))
                have hszr : wb.heap.size ≤ w6.heap.size := by have := BT.size; have := hgrow.size; omega
                obtain ⟨va, vc, rfl⟩ := owns_lenS hown'
                clear hown' hgrow hat BT OW HHO HLS2 BA
                go_wp2
                go_roundw
                case rel => exact ⟨t + 1, _, qs ++ [(b, .slice bva b.hops.length bvc)], by omega, by omega, by go_num, rfl, N1.out, N2, N5.out, N3.out, N4.out, hszr⟩
                case measure => simp [intOf]; omega
        · have ht6 : ¬ (t : Int) ≤ 6 := by omega
          have htt : (t : Int) = 7 := by omega
          have HE := hide (show IsBest (withinS (fsts ps) al src) (fstsW qs) from HB.out.congr (fun to d => ⟨fun h => h.2, fun h => ⟨by have h3 := withinS_good h; have := h3.1.node; rw [h3.2] at this; omega, h⟩⟩))
          have HO := hide hown
          have HN := hide hnx
          clear hown hnx HB hoff hls htt
          go_wp2
          go_ret
          first
            | exact ⟨_, qs, rfl, HE.out, HO.out, HN.out⟩
            | exact ⟨_, rfl, qs, HE.out, HO.out, HN.out⟩
end Go.Proofs.YthmmpmbnpfhloaaDoor
namespace Go.Proofs.YthmmpmbnpfhloaaDoor
open Go.RowKit

/-- the rank of an offer: near ones ahead of far ones -/
def rankF (far : Bool) (c d : Int) : Int := if far then 4000000000000 + c * 1000000 + d else 3000000000000 + (c + d)

/-- the route that a ranked way is -/
def rtOf (d : WayD) : RtD := if d.cost < 4000000000000 then ⟨true, d.to, 3, d.cost - 3000000000000, 0, d.hops⟩ else ⟨true, d.to, 4, (d.cost - 4000000000000) % 1000000, (d.cost - 4000000000000) / 1000000, d.hops⟩

/-- the way to who owns a thing -/
def ownerW (ds es : List WayD) (src o : Int) : Option WayD := if o = src then some ⟨src, 0, []⟩ else findW (ds ++ es) o

theorem findW_append (ds es : List WayD) (o : Int) : findW (ds ++ es) o = (findW ds o).or (findW es o) := by unfold findW; rw [List.find?_append]

def offersOf (ds es : List WayD) (src : Int) (r : RecD) (d : WayD) : Prop := r.kind = 3 ∧ r.cost < 60000 ∧ ∃ v, ownerW ds es src r.owner = some v ∧ d = ⟨r.key, rankF r.far r.cost v.cost, v.hops⟩

theorem offersOf_one {ds es : List WayD} {src : Int} {r : RecD} {d e : WayD} (h : offersOf ds es src r d) (h' : offersOf ds es src r e) : d = e := by
  obtain ⟨_, _, v, h3, rfl⟩ := h
  obtain ⟨_, _, v', h3', rfl⟩ := h'
  rw [h3] at h3'
  cases h3'
  rfl

/-- an offer as it is told -/
structure GoodT (d : WayD) : Prop where
  node : 1 ≤ d.to ∧ d.to ≤ 9
  rank : (3000000000000 ≤ d.cost ∧ d.cost ≤ 3000000061000) ∨ ∃ c k : Int, 0 ≤ c ∧ c ≤ 1000 ∧ 0 ≤ k ∧ k ≤ 60000 ∧ d.cost = 4000000000000 + c * 1000000 + k
  asc : d.hops.Pairwise (· < ·)
  hop6 : Hop6 d.hops

theorem GoodT.len {d : WayD} (h : GoodT d) : d.hops.length ≤ 6 := asc6_len h.asc h.hop6

/-- ways as they are told -/
def GoodL (ds : List WayD) : Prop := ∀ d ∈ ds, GoodW d

theorem ownerW_good {ds es : List WayD} {src o : Int} {v : WayD} (hd : GoodL ds) (he : GoodL es) (h : ownerW ds es src o = some v) : (0 ≤ v.cost ∧ v.cost ≤ 60000) ∧ v.hops.Pairwise (· < ·) ∧ Hop6 v.hops := by
  unfold ownerW at h
  split at h
  · cases h
    exact ⟨⟨by simp, by simp⟩, by simp, fun z hz => by simp at hz⟩
  · have hm := (findW_some h).1
    have hg : GoodW v := by
      rcases List.mem_append.1 hm with h1 | h1
      · exact hd v h1
      · exact he v h1
    exact ⟨hg.cost, hg.asc, hg.hop6⟩

theorem rec_thing {xs : List RecD} {r : RecD} (hs : storeB xs = true) (hr : r ∈ xs) (hk : r.kind = 3) (hc : r.cost < 60000) : (1 ≤ r.key ∧ r.key ≤ 9) ∧ (1 ≤ r.cost ∧ r.cost ≤ 1000) := by
  unfold storeB at hs
  simp only [Bool.and_eq_true] at hs
  have hok := allOk_mem hs.1.2 hr
  unfold recOkB at hok
  rw [if_neg (by omega), if_neg (by omega), if_pos hk] at hok
  simp only [Bool.and_eq_true, Bool.or_eq_true, inB, decide_eq_true_eq, beq_iff_eq] at hok
  omega

theorem offersOf_good {xs : List RecD} {ds es : List WayD} {src : Int} {r : RecD} {d : WayD} (hs : storeB xs = true) (hr : r ∈ xs) (hd : GoodL ds) (he : GoodL es) (h : offersOf ds es src r d) : GoodT d := by
  obtain ⟨h1, h2, v, h3, rfl⟩ := h
  have hg := ownerW_good hd he h3
  have hb := rec_thing hs hr h1 h2
  refine ⟨hb.1, ?_, hg.2.1, hg.2.2⟩
  show (3000000000000 ≤ rankF r.far r.cost v.cost ∧ rankF r.far r.cost v.cost ≤ 3000000061000) ∨ ∃ c k : Int, 0 ≤ c ∧ c ≤ 1000 ∧ 0 ≤ k ∧ k ≤ 60000 ∧ rankF r.far r.cost v.cost = 4000000000000 + c * 1000000 + k
  unfold rankF
  cases r.far
  · left
    rw [if_neg (by simp)]
    omega
  · right
    rw [if_pos rfl]
    exact ⟨r.cost, v.cost, by omega, by omega, by omega, by omega, rfl⟩

/-- an offer of a thing -/
def thingS (xs : List RecD) (ds es : List WayD) (src to : Int) (d : WayD) : Prop := d.to = to ∧ ∃ r ∈ xs, offersOf ds es src r d

theorem thingS_good {xs : List RecD} {ds es : List WayD} {src to : Int} {d : WayD} (hs : storeB xs = true) (hd : GoodL ds) (he : GoodL es) (h : thingS xs ds es src to d) : GoodT d ∧ d.to = to := by
  obtain ⟨h1, r, hr, h2⟩ := h
  exact ⟨offersOf_good hs hr hd he h2, h1⟩

/-- one way more in a list (no more asked of it than its hops) -/
theorem IsBest.putT {tog : WayD → WayD → WayD} (ht : TogOk tog) {S : Int → WayD → Prop} {ds es : List WayD} {w : WayD} (h : IsBest S ds) (hS : ∀ to w, S to w → Hop6 w.hops) (hasc : w.hops.Pairwise (· < ·)) (h6 : Hop6 w.hops) (he : AscW es) (hf : ∀ to, findW es to = if to = w.to then moreW tog (findW ds to) (some w) else findW ds to) : IsBest (fun to d => S to d ∨ (d = w ∧ w.to = to)) es := by
  refine ⟨he, fun to => ?_⟩
  rw [hf]
  by_cases e : to = w.to
  · rw [if_pos e]
    refine ((h.2 to).add ht (fun v hv => hS to v hv) e.symm hasc h6).congr (fun x => ?_)
    constructor
    · rintro (h1 | h1)
      · exact .inl h1
      · exact .inr ⟨h1, e.symm⟩
    · rintro (h1 | h1)
      · exact .inl h1
      · exact .inr h1.1
  · rw [if_neg e]
    refine (h.2 to).congr (fun x => ⟨.inl, ?_⟩)
    rintro (h1 | h1)
    · exact h1
    · exact absurd h1.2.symm e

theorem BestOf.goodT {to : Int} {S : WayD → Prop} {b : WayD} (h : BestOf to S (some b)) (hS : ∀ w, S w → GoodT w ∧ w.to = to) : GoodT b := by
  have h6 := h.hop6 (fun w hw => (hS w hw).1.hop6)
  obtain ⟨h1, ⟨u, hu, e1⟩, h3, h4, h5⟩ := h
  have hg := hS u hu
  exact ⟨by rw [h1, ← hg.2]; exact hg.1.node, by rw [← e1]; exact hg.1.rank, h4, h6⟩

theorem IsBest.goodT {S : Int → WayD → Prop} {ds : List WayD} (h : IsBest S ds) (hS : ∀ to w, S to w → GoodT w ∧ w.to = to) : ∀ w ∈ ds, GoodT w := by
  intro w hw
  have h1 := h.2 w.to
  rw [findW_of h.1 hw] at h1
  exact h1.goodT (hS w.to)

theorem asc_len_9 : ∀ {l : List Int} {a : Int}, l.Pairwise (· < ·) → (∀ z ∈ l, a ≤ z ∧ z ≤ 9) → (l.length : Int) ≤ 10 - a ∨ l = []
  | [], _, _, _ => .inr rfl
  | x :: xs, a, h, hr => by
    have h' := List.pairwise_cons.1 h
    have hx := hr x (by simp)
    rcases asc_len_9 (a := x + 1) h'.2 (fun z hz => ⟨by have := h'.1 z hz; omega, (hr z (by simp [hz])).2⟩) with h1 | h1
    · left; simp; omega
    · left; subst h1; simp; omega

theorem things_len {ds : List WayD} (h : AscW ds) (hg : ∀ w ∈ ds, 1 ≤ w.to ∧ w.to ≤ 9) : ds.length ≤ 9 := by
  have h1 : (ds.map (·.to)).Pairwise (· < ·) := by rw [List.pairwise_map]; exact h
  rcases asc_len_9 (a := 1) h1 (fun z hz => by
    obtain ⟨w, hw, rfl⟩ := List.mem_map.1 hz
    exact hg w hw) with h2 | h2
  · simp at h2; omega
  · have : ds = [] := by simpa using h2
    subst this; simp

/-- the routes to nodes of a kind -/
def nodesR (kind src : Int) (ds : List WayD) : List RtD := (ds.filter (fun d => d.to != src)).map (fun d => ⟨false, d.to, kind, d.cost, 0, d.hops⟩)

/-- all routes of a node, of a right store: told by what is within, beyond, and offered -/
def IsRoutes (xs : List RecD) (al : List Int) (border : Bool) (src : Int) (l : List RtD) : Prop :=
  ∃ ds es ts, IsBest (withinS xs al src) ds ∧ IsBest (beyondS xs al border src) es ∧ IsBest (thingS xs ds es src) ts ∧ l = nodesR 1 src ds ++ nodesR 2 src es ++ ts.map rtOf

theorem IsRoutes.unique {xs : List RecD} {al : List Int} {border : Bool} {src : Int} {l m : List RtD} (h : IsRoutes xs al border src l) (h' : IsRoutes xs al border src m) : l = m := by
  obtain ⟨ds, es, ts, h1, h2, h3, rfl⟩ := h
  obtain ⟨ds', es', ts', h1', h2', h3', rfl⟩ := h'
  have e1 := h1.unique h1'
  have e2 := h2.unique h2'
  subst e1
  subst e2
  rw [h3.unique h3']
end Go.Proofs.YthmmpmbnpfhloaaDoor
