/-
  spec.RoutesBeyond: its walk.
  slices.Index, slices.Contains at numbers; impl.realAreas: their contracts.
  spec.Beyond: its walk.
-/
import Derived.Test.YtmijnjnihhemgaaGreatQm21
import Derived.Test.YtmijnjnihhemgaaGreatQm23
import Derived.Test.YtmijnjnihhemgaaGreatQm10
import Derived.Test.YtmijnjnihhemgaaGreatQm6
namespace Go.Proofs.YtmijnjnihhemgaaGreat
open Go.RowKit
set_option linter.unusedSimpArgs false
set_option linter.unusedVariables false
set_option maxRecDepth 100000
set_option maxHeartbeats 8000000
theorem within_hasS {xs : List RecD} {al : List Int} {src : Int} {ds : List WayD} (h : IsBest (withinS xs al src) ds) (to : Int) : (wayToB ds to = true ∧ ∃ y, withinS xs al src to y) ∨ (wayToB ds to = false ∧ ∀ y, ¬ withinS xs al src to y) := by
 have hb := h.2 to
 rcases wayTo_find ds to with ⟨h1, h2⟩ | ⟨h1, h2⟩
 ·rw [h2] at hb
  obtain ⟨_, ⟨y, hy, _⟩, _⟩ := hb
  exact .inl ⟨h1, y, hy⟩
 ·rw [h2] at hb
  exact .inr ⟨h1, hb⟩
theorem best_totS {S : Int → WayD → Prop} {qs : List WP} (h : IsBest S (fstsW qs)) (hS : ∀ to w, S to w → GoodW w ∧ w.to = to) : totW qs ≤ 42 :=
 good_tot (by have h2 := asc_tos h.1 (fun d hd => (h.good hS d hd).node); simpa [fstsW] using h2) (fun d hd => (h.good hS d hd).len)
theorem bestV_congr {to : Int} {S T : WayD → Prop} {E : WayD} {fv : Value} (h : BestV to S E fv) (e : ∀ d, S d ↔ T d) : BestV to T E fv := by
 obtain ⟨F, h1, h2⟩ := h
 exact ⟨F, h1, h2.congr e⟩
theorem sbeyond_any (v u : Value) (ps : List RP) (al : List Int) (hi : Nat) (border : Bool) (src : Int) (w : World) (hv : RecsIn w hi v ps) (ha : HopsAt w u al hi) (hhi : hi ≤ w.heap.size) (hn : tot ps ≤ 1048576) (hal : al.length ≤ 1048576) :
  Calls Tryz.prog 108 #[v, u, .bool border, .int .i64 src] w fun e w' => ∃ x qs, e = .returned x ∧ IsBest (beyondS (fsts ps) al border src) (fstsW qs) ∧ WaysOwn w' w.heap.size w'.heap.size x qs ∧ Below w.heap.size w w' := by
 obtain ⟨a1, c1, rfl⟩ := owns_lenS hv.row
 obtain ⟨a2, c2, rfl⟩ := ha.shape
 have LIT := ways_lit w w.heap.size (Nat.le_refl _)
 have hs1 : (w.alloc (.cells #[] 77)).heap.size = w.heap.size + 1 := by simp
 have B1 : Below w.heap.size w (w.alloc (.cells #[] 77)) := (Below.refl _ _).alloc (Nat.le_refl _) _
 obtain ⟨w1, hw1⟩ : ∃ W, W = w.alloc (.cells #[] 77) := ⟨_, rfl⟩
 rw [← hw1] at LIT hs1 B1
 have HWN := hide (swithin_any (.slice a1 ps.length c1) (.slice a2 al.length c2) ps al hi src w1 (hv.below B1 hhi) (RowAt.later ha B1 hhi) (Nat.le_trans hhi B1.size) hn hal)
 have HSK := hide (fun W (hb : Below w.heap.size w W) => sstoreOk_any (.slice a1 ps.length c1) ps W hn (RecsAt.more ((hv.below hb hhi).at) (Nat.le_trans hhi hb.size)))
 have HWI := hide (fun area W (hb : Below w.heap.size w W) => swaysIn_any (.slice a1 ps.length c1) ps hi area src W (hv.below hb hhi) (Nat.le_trans hhi hb.size) hn)
 have HL7 := hide (fun (uw : Value) (ws : List WP) (lo2 hi2 lo : Nat) (area to : Int) (b0 : WayD) (bv0 : Value) (F0 : Bool) (W : World) (S0 : WayD → Prop) (hb : Below w.heap.size w W) hw hh2 hws hst hbo hS0 hb0 hlo hl0 => sl07_any (.slice a1 ps.length c1) uw ps ws hi lo2 hi2 lo area src to b0 bv0 F0 W S0 (hv.below hb hhi) (Nat.le_trans hhi hb.size) hn hw hh2 hws hst hbo hS0 hb0 hlo hl0)
 have HA := hide ha
 clear hv ha
 have HLIT := hide LIT
 have HS1 := hide hs1
 clear LIT hs1
 obtain ⟨SB, hSB⟩ : ∃ b, b = storeB (fsts ps) := ⟨_, rfl⟩
 rw [← hSB] at HSK
 have HSB := hide hSB
 clear hSB
 go_enter Tryz.func108, Tryz.ntmps108
 go_wp2_with fail
 rw [← hw1]
 clear hw1
 refine HWN.out.mono ?_
 rintro e wn ⟨un, ns, rfl, hbn, hon, bn⟩
 obtain ⟨nsa, nsc, rfl⟩ := owns_lenS hon.row
 have hbns := bn.size
 have hB1s := B1.size
 have BWN : Below w.heap.size w wn := B1.trans (bn.mono hB1s)
 have HLN := hide ((HLIT.out.below bn (Nat.le_refl _)))
 have hnt : totW ns ≤ 1048576 := by have := best_totS hbn (fun to d h => withinS_good h); omega
 have HNT := hide (fun (z : Int) (W : World) (hw : WaysOwn W w1.heap.size wn.heap.size (.slice nsa ns.length nsc) ns) (hh : wn.heap.size ≤ W.heap.size) => swayTo_any (.slice nsa ns.length nsc) ns w1.heap.size wn.heap.size z W hw hh hnt)
 have HON := hide hon
 have HHAS := hide (fun to => within_hasS hbn to)
 clear HWN HLIT bn hbn hon hnt
 go_wp2_with fail
 refine (HSK.out _ BWN).mono ?_
 rintro e ws0 ⟨rfl, bs⟩
 have hbs := bs.size
 have BWS : Below w.heap.size w ws0 := BWN.trans (bs.mono BWN.size)
 have BN0 : Below w1.heap.size w1 w1 := Below.refl _ _
 cases SB
 ·have HE := hide (show IsBest (beyondS (fsts ps) al border src) (fstsW []) from isBest_none (fun to d ⟨_, a, _, _, h⟩ => by have := (outS_area h).1; rw [← HSB.out] at this; cases this))
  have HO := hide ((HLN.out.below bs (by omega)).wide (Nat.le_refl _) (show w1.heap.size ≤ ws0.heap.size by omega))
  have HN := hide BWS
  clear HLN HNT HHAS HWI HL7 HSK bs BWS BWN HON
  go_wp2
  go_ret
  first
   | exact ⟨_, [], rfl, HE.out, HO.out, HN.out⟩
   | exact ⟨_, rfl, [], HE.out, HO.out, HN.out⟩
 have LS := wls_lit ws0 ws0.heap.size (Nat.le_refl _)
 have B0 : Below ws0.heap.size ws0 (ws0.alloc (.cells #[] 70)) := (Below.refl _ _).alloc (Nat.le_refl _) _
 obtain ⟨w0, hw0⟩ : ∃ W, W = ws0.alloc (.cells #[] 70) := ⟨_, rfl⟩
 rw [← hw0] at LS B0
 have HLS := hide LS
 have HLO := hide ((HLN.out.below bs (by omega)))
 have HBS := hide bs
 clear LS HSK HLN bs
 go_wp2
 rw [← hw0]
 clear hw0
 go_loopw [12, 11] (fun i o wr => ∃ (k : Nat) (y : Value) (ls : List LP), k ≤ al.length ∧ i = .int .i64 (k : Int) ∧ o = y ∧ WLs wr ws0.heap.size wr.heap.size y ls ∧ Hid (AreaWays (fsts ps) src (al.take k) ls) ∧ Below ws0.heap.size ws0 wr) (fun i _ _ => al.length - (intOf i).toNat)
 case atStart => exact ⟨0, _, [], by omega, rfl, rfl, HLS.out, hide (by simp [AreaWays]), B0⟩
 case round =>
  obtain ⟨k, y, ls, hk, rfl, rfl, hls, HAW, hnx⟩ := hrel
  clear HLS B0
  obtain ⟨ya, yc, rfl⟩ := owns_lenS hls.row
  have hlen : ls.length = k := by have := HAW.out.len; rw [List.length_take, Nat.min_eq_left hk] at this; exact this
  have BW : Below w.heap.size w wr := BWS.trans (hnx.mono BWS.size)
  have hws := BW.size
  by_cases hlt : k < al.length
  ·obtain ⟨area, har⟩ : ∃ a, al[k]? = some a := ⟨al[k], List.getElem?_eq_getElem hlt⟩
   obtain ⟨b, off, cap', hve, hbb, c0⟩ := HA.out.cell k area har
   cases hve
   rw [← BW.cell (p := ⟨b, off + k, none⟩) (by show b < w.heap.size; omega)] at c0
   have hki : (0 : Int) ≤ (k : Int) := by omega
   have hkj : (k : Int) < (al.length : Int) := by omega
   have HLS := hide hls
   have HAR := hide har
   have HLEN := hide hlen
   clear hls har hlen
   go_wp2_with fail
   refine (HWI.out area _ BW).mono ?_
   rintro e w2 ⟨uw, ws, rfl, hws2, how, b2⟩
   obtain ⟨wsa, wsc, rfl⟩ := owns_lenS how.row
   have hb2 := b2.size
   have HWE := hide (hws2.eq)
   have BA : Below w2.heap.size w2 (w2.alloc (.cells #[.slice wsa ws.length wsc] 70)) := (Below.refl _ _).alloc (Nat.le_refl _) _
   have OWA := hide ((owns_below HLS.out.row b2 (Nat.le_refl _)).alloc (.cells #[.slice wsa ws.length wsc] 70))
   have HOW := hide how
   clear hws2 how
   go_wp2_with (first
    | (at_builtin; refine append_struct6 encLP_len (by omega) (by omega) _ rfl _ _ 188 rfl ws0.heap.size 70 Tryz.underlying188 (.slice none 0 0) rfl Tryz.infoWayS _ ls (.slice wsa ws.length wsc, ws) (fun q hq => by simp [encLP] at hq; subst hq; rfl) rfl OWA.out ⟨w2.heap.size, 0, none⟩ 1 rfl (news_struct (cs := encLP (.slice wsa ws.length wsc, ws))) (by have := HLEN.out; omega) (by simp; have := hnx.size; omega) ?_))
   intro v' w4 hown' hgrow hat
   have BB : Below wr.heap.size wr (w2.alloc (.cells #[.slice wsa ws.length wsc] 70)) := b2.trans (BA.mono hb2)
   have N1 := hide (HLS.out.push BB ((HOW.out.below BA (Nat.le_refl _)).wide hnx.size BA.size) (by simpa using hown') hgrow)
   have N2 := hide (HAW.out.push (p := (.slice wsa ws.length wsc, ws)) HAR.out HWE.out)
   have N3 := hide ((hnx.trans (BB.mono hnx.size)).grown hgrow (by have := BB.size; have := hnx.size; omega) (fun j hj => (HLS.out.row.lt j hj).1))
   obtain ⟨va, vc, rfl⟩ := owns_lenS hown'
   clear hown' hgrow hat BB OWA HOW HLS BA b2
   go_wp2
   go_roundw
   case rel => exact ⟨k + 1, _, ls ++ [(.slice wsa ws.length wsc, ws)], by omega, by go_num, rfl, N1.out, N2, N3.out⟩
   case measure => simp [intOf]; omega
  ·have hkn : ¬ (k : Int) < (al.length : Int) := by omega
   have HAL := hide (show AreaWays (fsts ps) src al ls by have h := HAW.out; rw [List.take_of_length_le (by omega)] at h; exact h)
   have HO := hide ((HLO.out.below hnx (by omega)).wide (Nat.le_refl _) (show w1.heap.size ≤ wr.heap.size by have := hnx.size; omega))
   have HLS := hide hls
   rename World => wb
   have hwb := hnx.size
   have HNB := hide (HON.out.below (HBS.out.trans (hnx.mono hbs)) (Nat.le_refl _))
   clear hls HAW hlen HLO hnx HBS HON
   go_wp2
   go_loopw [13, 9] (fun i o wr => ∃ (t : Nat) (x : Value) (qs : List WP), 1 ≤ t ∧ t ≤ 7 ∧ i = .int .i64 (t : Int) ∧ o = x ∧ WaysOwn wr w.heap.size wr.heap.size x qs ∧ Hid (IsBest (fun to d => to < (t : Int) ∧ beyondS (fsts ps) al border src to d) (fstsW qs)) ∧ Off x w1.heap.size wb.heap.size ∧ WLs wr ws0.heap.size wb.heap.size (.slice ya ls.length yc) ls ∧ Below w.heap.size w wr ∧ WaysOwn wr w1.heap.size wn.heap.size (.slice nsa ns.length nsc) ns ∧ wb.heap.size ≤ wr.heap.size) (fun i _ _ => 8 - (intOf i).toNat)
   case atStart => exact ⟨1, _, [], by omega, by omega, rfl, rfl, HO.out, hide (isBest_none (fun to d ⟨h1, h2⟩ => by have h3 := (beyondS_good h2); have := h3.1.node; rw [h3.2] at this; omega)), fun b hb => by simp [Value.ownBlock] at hb; have := HS1.out; omega, HLS.out, BW, HNB.out, Nat.le_refl _⟩
   case round =>
    obtain ⟨t, x, qs, ht1, ht7, rfl, rfl, hown, HB, hoff, hls, hnx, hfr, hsz⟩ := hrel
    clear HO HLS BW hws HNB
    obtain ⟨xa, xc, rfl⟩ := owns_lenS hown.row
    rename World => wt
    by_cases ht : t ≤ 6
    ·have ht6 : (t : Int) ≤ 6 := by omega
     have HOWN := hide hown
     have HLS := hide hls
     have HOFF := hide hoff
     have HFR := hide hfr
     have hq6 : qs.length ≤ 6 := by
      have h := asc_tos HB.out.1 (fun d hd => (HB.out.good (fun to d h => beyondS_good h.2) d hd).node)
      simpa [fstsW] using h
     have HNW := hide (HNT.out (t : Int) wt hfr (by omega))
     have hh := HHAS.out (t : Int)
     obtain ⟨D, hD⟩ : ∃ D, D = wayToD (fstsW ns) (t : Int) := ⟨_, rfl⟩
     obtain ⟨FB, hFB⟩ : ∃ F, F = wayToB (fstsW ns) (t : Int) := ⟨_, rfl⟩
     rw [← hD, ← hFB] at HNW
     rw [← hFB] at hh
     have HH := hide hh
     unfold wayC at HNW
     clear hown hls hoff hfr hh hD hFB
     go_wp2_with fail
     refine HNW.out.mono ?_
     rintro e w3 ⟨du, rfl, hdu, b3⟩
     obtain ⟨da, dc, rfl⟩ := owns_lenS hdu
     have hb3 := b3.size
     have B4 : Below wt.heap.size wt (w3.alloc (.cells #[.int .i64 D.to, .int .i64 D.cost, .slice da D.hops.length dc] 77)) := b3.trans (((Below.refl w3.heap.size w3).alloc (Nat.le_refl _) _).mono hb3)
     have hs4 : (w3.alloc (.cells #[.int .i64 D.to, .int .i64 D.cost, .slice da D.hops.length dc] 77)).heap.size = w3.heap.size + 1 := by simp
     obtain ⟨w4, hw4⟩ : ∃ W, W = w3.alloc (.cells #[.int .i64 D.to, .int .i64 D.cost, .slice da D.hops.length dc] 77) := ⟨_, rfl⟩
     rw [← hw4] at B4 hs4
     have HS4 := hide hs4
     have hB4 := B4.size
     have HB4 := hide B4
     clear hdu b3 HNW B4 hs4
     cases FB
     case true =>
      have hyes : ∃ y, withinS (fsts ps) al src (t : Int) y := by
       rcases HH.out with ⟨_, h2⟩ | ⟨h1, _⟩
       ·exact h2
       ·cases h1
      have N1 := hide ((HOWN.out.below HB4.out (Nat.le_refl _)).wide (Nat.le_refl _) HB4.out.size)
      have N2 := hide (show IsBest (fun to d => to < ((t + 1 : Nat) : Int) ∧ beyondS (fsts ps) al border src to d) (fstsW qs) from by
       have h := HB.out.skip (S := beyondS (fsts ps) al border src) (t := (t : Int)) (fun d hd => by obtain ⟨y, hy⟩ := hyes; exact hd.1 y hy)
       rw [show ((t + 1 : Nat) : Int) = (t : Int) + 1 by omega]
       exact h)
      have N3 := hide (HLS.out.below HB4.out hsz)
      have N4 := hide (hnx.trans (HB4.out.mono hnx.size))
      have N5 := hide (HFR.out.below HB4.out (by omega))
      have hszr : wb.heap.size ≤ w4.heap.size := by omega
      rw [hw4] at N1 N3 N4 N5 hszr
      clear HB4 HS4 hyes HH HOWN HLS HFR hw4
      go_wp2
      go_roundw
      case rel => exact ⟨t + 1, _, qs, by omega, by omega, by go_num, rfl, N1.out, N2, HOFF.out, N3.out, N4.out, N5.out, hszr⟩
      case measure => simp [intOf]; omega
     have hno : ∀ y, ¬ withinS (fsts ps) al src (t : Int) y := by
      rcases HH.out with ⟨h1, _⟩ | ⟨_, h2⟩
      ·cases h1
      ·exact h2
     have HNO := hide hno
     have BXZ : BoxT (w4.alloc (.cells #[.int .i64 0, .int .i64 0, .slice none 0 0] 77)) w4.heap.size w4.heap.size zeroWD (.slice none 0 0) := ⟨heap_alloc_new _ _, World.ownsRow_nil _ _ _ _, by simp [zeroWD]⟩
     have BWZ : Below w4.heap.size w4 (w4.alloc (.cells #[.int .i64 0, .int .i64 0, .slice none 0 0] 77)) := (Below.refl _ _).alloc (Nat.le_refl _) _
     obtain ⟨wz, hwz⟩ : ∃ W, W = w4.alloc (.cells #[.int .i64 0, .int .i64 0, .slice none 0 0] 77) := ⟨_, rfl⟩
     rw [← hwz] at BXZ BWZ
     have HBX := hide BXZ
     have hlow : wt.heap.size ≤ w4.heap.size := hB4
     clear BXZ hno HH
     go_wp2
     rw [← hw4, show w3.heap.size + 1 = w4.heap.size from HS4.out.symm, ← hwz]
     clear hwz hw4
     go_loopw [18, 17] (fun i f wr => ∃ (k : Nat) (b : WayD) (bv : Value), k ≤ al.length ∧ i = .int .i64 (k : Int) ∧ BoxT wr w4.heap.size w4.heap.size b bv ∧ BestV (t : Int) (someS (fsts ps) (al.take k) border src (t : Int)) b f ∧ Below w4.heap.size w4 wr) (fun i _ _ => al.length - (intOf i).toNat)
     case atStart => exact ⟨0, _, _, by omega, rfl, HBX.out, BestV.of (F := false) (fun d ⟨a, h, _⟩ => by simp at h), BWZ⟩
     case round =>
      obtain ⟨k, b, bv, hk, rfl, hbx, hbv, hbel⟩ := hrel
      clear HBX BWZ
      obtain ⟨F, hf, HBO0⟩ := hbv
      rename_i fv0
      subst hf
      have HBO := hide HBO0
      clear HBO0
      have B4R : Below wt.heap.size wt wr := HB4.out.trans (hbel.mono hlow)
      have BWR : Below w.heap.size w wr := hnx.trans (B4R.mono hnx.size)
      have hzlt := lt_of_heap hbx.box
      obtain ⟨bva, bvc, rfl⟩ := owns_lenS hbx.own
      have hzb := hbx.box
      unfold wayC at hzb
      have e0 := cells_at hzb 0
      have e1 := cells_at hzb 1
      have e2 := cells_at hzb 2
      simp at e0 e1 e2
      by_cases hlt : k < al.length
      ·obtain ⟨area, har⟩ : ∃ a, al[k]? = some a := ⟨al[k], List.getElem?_eq_getElem hlt⟩
       obtain ⟨ba, boff, bcap, hvea, hbba, ca⟩ := HA.out.cell k area har
       cases hvea
       rw [← BWR.cell (p := ⟨ba, boff + k, none⟩) (by show ba < w.heap.size; omega)] at ca
       obtain ⟨p, hp, hpw⟩ := HAL.out.at har
       have hls2 := HLS.out.below B4R hsz
       obtain ⟨g, cap', hve, cg, hgb, hgw⟩ := hls2.cell hp
       cases hve
       have hpo := hls2.ways p (List.mem_of_getElem? hp)
       have hki : (0 : Int) ≤ (k : Int) := by omega
       have hkj : (k : Int) < (al.length : Int) := by omega
       have hkl : (k : Int) < (ls.length : Int) := by rw [HAL.out.len]; omega
       have HAR := hide har
       have hskip : byArea border area ∨ ¬ byArea border area := Classical.em _
       rcases hskip with hby | hby
       case inr =>
        have hbt : border = true := by
         cases border
         ·exact absurd (fun h => by cases h) hby
         ·rfl
        have hne : area ≠ 0 := fun h => hby (fun _ => h)
        have hd : (area != 0) = true := by simpa using hne
        have HN := hide (show BestV (t : Int) (someS (fsts ps) (al.take (k + 1)) border src (t : Int)) b (.bool F) from BestV.of (HBO.out.congr (fun d => by
         rw [someS_step HAR.out]
         exact ⟨.inl, by rintro (h | ⟨h, _⟩); exact h; exact absurd h hby⟩)))
        have N1 := hide hbx
        subst hbt
        clear hbx hby hne HBO hzb e0 e1 e2 hp hpw hls2 hpo har
        go_wp2
        go_roundw
        case rel => exact ⟨k + 1, b, _, by omega, by go_num, N1.out, HN.out, hbel⟩
        case measure => simp [intOf]; omega
       have BD : Below wr.heap.size wr wr.drew := (Below.refl _ _).drew
       have HCL := hide (HL7.out p.1 p.2 ws0.heap.size wb.heap.size w4.heap.size area (t : Int) b (.slice bva b.hops.length bvc) F wr.drew (someS (fsts ps) (al.take k) border src (t : Int)) (BWR.trans (BD.mono BWR.size)) (hpo.below BD (by omega)) (by show wb.heap.size ≤ wr.heap.size; omega) hpw HSB.out.symm HBO.out (fun d h => someS_good h) (owns_below hbx.own BD (Nat.le_refl _)) (by show w4.heap.size ≤ wr.heap.size; omega) hbx.len)
       unfold wayC at HCL
       have HST := hide (show ∀ d, (someS (fsts ps) (al.take k) border src (t : Int) d ∨ outS (fsts ps) (fsts ps) area src (t : Int) d) ↔ someS (fsts ps) (al.take (k + 1)) border src (t : Int) d from fun d => by
        rw [someS_step HAR.out]
        exact ⟨by rintro (h | h); exact .inl h; exact .inr ⟨hby, h⟩, by rintro (h | ⟨_, h⟩); exact .inl h; exact .inr h⟩)
       have HBXX := hide hbx
       have HBEL := hide hbel
       have hgz : g ≠ w4.heap.size := by omega
       have hbz : ba ≠ w4.heap.size := by omega
       have hgr2 : g < wr.heap.size := hgw
       have hbr2 : ba < wr.heap.size := by omega
       have hS0 : wr.drew.cell? ⟨g, k, none⟩ = some p.1 ∧ wr.drew.cell? ⟨ba, boff + k, none⟩ = some (.int .i64 area) := ⟨cg, ca⟩
       have e0' : wr.drew.cell? ⟨w4.heap.size, 0, none⟩ = some (.int .i64 b.to) := e0
       have e1' : wr.drew.cell? ⟨w4.heap.size, 1, none⟩ = some (.int .i64 b.cost) := e1
       have e2' : wr.drew.cell? ⟨w4.heap.size, 2, none⟩ = some (.slice bva b.hops.length bvc) := e2
       have harm : ∀ (bd : Bool), bd = border → True := fun _ _ => trivial
       have hda : border = false ∨ (border = true ∧ (area != 0) = false) := by
        cases border
        ·exact .inl rfl
        ·exact .inr ⟨rfl, by simpa using hby rfl⟩
       clear hbx hby HBO hp hpw hls2 hpo har hzb e0 e1 e2 BD hbel harm
       rcases hda with hbd | ⟨hbd, hdz⟩
       ·subst hbd
        go_wp2_with fail
        refine wp_region_noPanic ?_
        refine wp_region_start (S := fun W => W.cell? ⟨g, k, none⟩ = some p.1 ∧ W.cell? ⟨ba, boff + k, none⟩ = some (.int .i64 area)) (by kernel_rfl) 19 rfl hS0 ?_
        intro ops hops hSS
        refine bey_dag _ _ _ _ _ _ _ _ _ _ _ _ _ _ _ _ _ _ _ _ _ _ _ _ _ _ _ _ _ _ _ _ _ _ _ _ _ _ _ _ _ _ _ _ _ _ _ _ _ _ _ _ _ _ _ _ _ _ _ _ _ _ _ _ _ _ _ _ _ _ _ _ _ _ _ _ _ _ _ _ _ _ _ _ _ _ wr.drew _ p.1 (.bool F) g ls.length yc ba boff al.length c2 w4.heap.size k area src (t : Int) b bva b.hops.length bvc (fun W E u fv => BestV (t : Int) (someS (fsts ps) (al.take (k + 1)) false src (t : Int)) E fv ∧ (∃ l, W.ownsRow w4.heap.size 3 1 u l (flat intE E.hops) ∧ l = E.hops.length) ∧ E.hops.length ≤ 6 ∧ Below wr.heap.size wr W) _ ops hops (fun _ _ _ _ h => h) hki hkl hkj hSS e0' e1' e2' hgz hbz (hide (HCL.out.mono ?_)) ?_ ?_ ?_ ?_
        ·rintro e w5 ⟨E, u5, fv5, rfl, hb5, ho5, hl5, bl5⟩
         obtain ⟨ua, uc, rfl⟩ := owns_lenS ho5
         exact ⟨E, ua, E.hops.length, uc, fv5, rfl, bestV_congr hb5 HST.out, ⟨_, ho5, rfl⟩, hl5, ((Below.refl _ _).drew).trans bl5⟩
        ·rintro W E u5 fv5 ⟨_, _, _, hb⟩
         exact ⟨(hb.cell (p := ⟨g, k, none⟩) hgr2).trans hS0.1, (hb.cell (p := ⟨ba, boff + k, none⟩) hbr2).trans hS0.2⟩
        ·rintro W E u5 fv5 ⟨_, _, _, hb⟩
         have hx := (HBXX.out.below hb).box
         unfold wayC at hx
         have y0 := cells_at hx 0
         have y1 := cells_at hx 1
         have y2 := cells_at hx 2
         simp at y0 y1 y2
         exact ⟨_, _, _, y0, y1, y2⟩
        ·rintro W E u5 fv5 ⟨_, _, _, hb⟩ j
         exact frozen_at (HBXX.out.below hb).box j
        ·rintro W E ua ul uc fv5 ⟨hbv5, ⟨l, ho5, hl5⟩, h6, hb⟩
         refine NoPanic.normal ?_
         subst hl5
         obtain ⟨ua2, uc2, he2⟩ := owns_lenS ho5
         cases he2
         have N1 := hide ((HBXX.out.below hb).put (d := E) ho5 h6)
         have N2 := hide hbv5
         have hwr : w4.heap.size ≤ wr.heap.size := by omega
         have N3 := hide (((HBEL.out.trans (hb.mono hwr)).grown (grownW3 W w4.heap.size E (.slice ua E.hops.length uc)) (by have := hb.size; omega) (fun j hj => by simp at hj; omega)))
         clear hops ops hSS HCL HBXX HBEL hbv5 ho5 hb hS0 e0' e1' e2'
         go_wp2
         go_roundw
         case rel => exact ⟨k + 1, E, _, by omega, by go_num, N1.out, N2.out, N3.out⟩
         case measure => simp [intOf]; omega
       ·subst hbd
        go_wp2_with fail
        refine wp_region_noPanic ?_
        refine wp_region_start (S := fun W => W.cell? ⟨g, k, none⟩ = some p.1 ∧ W.cell? ⟨ba, boff + k, none⟩ = some (.int .i64 area)) (by kernel_rfl) 19 rfl hS0 ?_
        intro ops hops hSS
        refine bey_dag _ _ _ _ _ _ _ _ _ _ _ _ _ _ _ _ _ _ _ _ _ _ _ _ _ _ _ _ _ _ _ _ _ _ _ _ _ _ _ _ _ _ _ _ _ _ _ _ _ _ _ _ _ _ _ _ _ _ _ _ _ _ _ _ _ _ _ _ _ _ _ _ _ _ _ _ _ _ _ _ _ _ _ _ _ _ wr.drew _ p.1 (.bool F) g ls.length yc ba boff al.length c2 w4.heap.size k area src (t : Int) b bva b.hops.length bvc (fun W E u fv => BestV (t : Int) (someS (fsts ps) (al.take (k + 1)) true src (t : Int)) E fv ∧ (∃ l, W.ownsRow w4.heap.size 3 1 u l (flat intE E.hops) ∧ l = E.hops.length) ∧ E.hops.length ≤ 6 ∧ Below wr.heap.size wr W) _ ops hops (fun _ _ _ _ h => h) hki hkl hkj hSS e0' e1' e2' hgz hbz (hide (HCL.out.mono ?_)) ?_ ?_ ?_ ?_
        ·rintro e w5 ⟨E, u5, fv5, rfl, hb5, ho5, hl5, bl5⟩
         obtain ⟨ua, uc, rfl⟩ := owns_lenS ho5
         exact ⟨E, ua, E.hops.length, uc, fv5, rfl, bestV_congr hb5 HST.out, ⟨_, ho5, rfl⟩, hl5, ((Below.refl _ _).drew).trans bl5⟩
        ·rintro W E u5 fv5 ⟨_, _, _, hb⟩
         exact ⟨(hb.cell (p := ⟨g, k, none⟩) hgr2).trans hS0.1, (hb.cell (p := ⟨ba, boff + k, none⟩) hbr2).trans hS0.2⟩
        ·rintro W E u5 fv5 ⟨_, _, _, hb⟩
         have hx := (HBXX.out.below hb).box
         unfold wayC at hx
         have y0 := cells_at hx 0
         have y1 := cells_at hx 1
         have y2 := cells_at hx 2
         simp at y0 y1 y2
         exact ⟨_, _, _, y0, y1, y2⟩
        ·rintro W E u5 fv5 ⟨_, _, _, hb⟩ j
         exact frozen_at (HBXX.out.below hb).box j
        ·rintro W E ua ul uc fv5 ⟨hbv5, ⟨l, ho5, hl5⟩, h6, hb⟩
         refine NoPanic.normal ?_
         subst hl5
         obtain ⟨ua2, uc2, he2⟩ := owns_lenS ho5
         cases he2
         have N1 := hide ((HBXX.out.below hb).put (d := E) ho5 h6)
         have N2 := hide hbv5
         have hwr : w4.heap.size ≤ wr.heap.size := by omega
         have N3 := hide (((HBEL.out.trans (hb.mono hwr)).grown (grownW3 W w4.heap.size E (.slice ua E.hops.length uc)) (by have := hb.size; omega) (fun j hj => by simp at hj; omega)))
         clear hops ops hSS HCL HBXX HBEL hbv5 ho5 hb hS0 e0' e1' e2'
         go_wp2
         go_roundw
         case rel => exact ⟨k + 1, E, _, by omega, by go_num, N1.out, N2.out, N3.out⟩
         case measure => simp [intOf]; omega
      ·have hkn : ¬ (k : Int) < (al.length : Int) := by omega
       have HBT := hide (show BestOf (t : Int) (beyondS (fsts ps) al border src (t : Int)) (if F then some b else none) by
        have h := HBO.out
        rw [List.take_of_length_le (by omega)] at h
        exact h.congr (fun d => ⟨fun h => ⟨HNO.out, h⟩, fun h => h.2⟩))
       cases F
       ·have N1 := hide ((HOWN.out.below B4R (Nat.le_refl _)).wide (Nat.le_refl _) B4R.size)
        have N2 := hide (show IsBest (fun to d => to < ((t + 1 : Nat) : Int) ∧ beyondS (fsts ps) al border src to d) (fstsW qs) from by
         have h := HB.out.skip HBT.out
         rw [show ((t + 1 : Nat) : Int) = (t : Int) + 1 by omega]
         exact h)
        have N3 := hide (HLS.out.below B4R hsz)
        have N5 := hide (HFR.out.below B4R (by omega))
        have hszr : wb.heap.size ≤ wr.heap.size := by have := B4R.size; omega
        clear hbx HBO HBT hzb e0 e1 e2
        go_wp2
        go_roundw
        case rel => exact ⟨t + 1, _, qs, by omega, by omega, by go_num, rfl, N1.out, N2, HOFF.out, N3.out, BWR, N5.out, hszr⟩
        case measure => simp [intOf]; omega
       ·have N2 := hide (show IsBest (fun to d => to < ((t + 1 : Nat) : Int) ∧ beyondS (fsts ps) al border src to d) (fstsW (qs ++ [(b, .slice bva b.hops.length bvc)])) from by
         have h := HB.out.push HBT.out
         rw [show ((t + 1 : Nat) : Int) = (t : Int) + 1 by omega]
         have e : fstsW (qs ++ [(b, .slice bva b.hops.length bvc)]) = fstsW qs ++ [b] := by simp [fstsW]
         rw [e]
         exact h)
        have BA : Below wr.heap.size wr (wr.alloc (.cells #[.int .i64 b.to, .int .i64 b.cost, .slice bva b.hops.length bvc] 77)) := (Below.refl _ _).alloc (Nat.le_refl _) _
        have BT : Below wt.heap.size wt (wr.alloc (.cells #[.int .i64 b.to, .int .i64 b.cost, .slice bva b.hops.length bvc] 77)) := B4R.trans (BA.mono (by omega))
        have OW := hide ((owns_below HOWN.out.row B4R (Nat.le_refl _)).alloc (.cells #[.int .i64 b.to, .int .i64 b.cost, .slice bva b.hops.length bvc] 77))
        have HHO := hide (show HopOwn (wr.alloc (.cells #[.int .i64 b.to, .int .i64 b.cost, .slice bva b.hops.length bvc] 77)) wt.heap.size (wr.alloc (.cells #[.int .i64 b.to, .int .i64 b.cost, .slice bva b.hops.length bvc] 77)).heap.size (b, .slice bva b.hops.length bvc) from ⟨owns_baseS (hbx.own.alloc _) hlow, fun k hk => ((hbx.own.alloc _).lt k hk).2⟩)
        have HLS2 := hide (HLS.out.below BT hsz)
        have HNS2 := hide (HFR.out.below BT (by omega))
        have hws := hnx.size
        clear hbx HBO HBT hzb
        go_wp2_with (first
         | (at_builtin; refine append_struct6 encW_len (by omega) (by omega) _ rfl _ _ 70 rfl w.heap.size 77 Tryz.underlying70 (.agg (wayC zeroWD (.slice none 0 0))) rfl Tryz.infoWay _ qs (b, .slice bva b.hops.length bvc) (encW_one _ _ _ _) rfl OW.out ⟨wr.heap.size, 0, none⟩ 1 rfl (news_struct (cs := encW (b, .slice bva b.hops.length bvc))) (by omega) (by simp; omega) ?_))
        intro v' w6 hown' hgrow hat
        have N1 := hide (HOWN.out.push BT hws HHO.out (by simpa using hown') hgrow)
        have N3 := hide (HLS2.out.keep (fun j h1 h2 h3 => HOFF.out.kept hgrow j (by omega) h2 h3))
        have N6 := hide (HNS2.out.keep (fun j h1 h2 h3 => HOFF.out.kept hgrow j h1 (by omega) h3))
        have N4 := hide ((hnx.trans (BT.mono hws)).grown hgrow (by have := BT.size; omega) (fun j hj => (HOWN.out.row.lt j hj).1))
        have N5 := hide (HOFF.out.next (x' := v') (B := wb.heap.size) (fun j hj => by
         rcases hat with h1 | h1
         ·exact .inl (by rw [← h1]; exact hj)
         ·right
          rw [h1] at hj
          simp at hj
          omega) (Nat.le_refl _))
        have hszr : wb.heap.size ≤ w6.heap.size := by have := BT.size; have := hgrow.size; omega
        obtain ⟨va, vc, rfl⟩ := owns_lenS hown'
        clear hown' hgrow hat BT OW HHO HLS2 HNS2 BA
        go_wp2
        go_roundw
        case rel => exact ⟨t + 1, _, qs ++ [(b, .slice bva b.hops.length bvc)], by omega, by omega, by go_num, rfl, N1.out, N2, N5.out, N3.out, N4.out, N6.out, hszr⟩
        case measure => simp [intOf]; omega
    ·have ht6 : ¬ (t : Int) ≤ 6 := by omega
     have HE := hide (show IsBest (beyondS (fsts ps) al border src) (fstsW qs) from HB.out.congr (fun to d => ⟨fun h => h.2, fun h => ⟨by have h3 := beyondS_good h; have := h3.1.node; rw [h3.2] at this; omega, h⟩⟩))
     have HO := hide hown
     have HN := hide hnx
     clear hown hnx HB hoff hls hfr
     go_wp2
     go_ret
     first
      | exact ⟨_, qs, rfl, HE.out, HO.out, HN.out⟩
      | exact ⟨_, rfl, qs, HE.out, HO.out, HN.out⟩

structure HerW (W : World) (lo hi : Nat) (uh : Value) (hs : List WP) (un : Value) (ns : List WP) (ub : Value) (bs : List WP) : Prop where
 h : WaysOwn W lo hi uh hs
 n : WaysOwn W lo hi un ns
 b : WaysOwn W lo hi ub bs
theorem HerW.below {W W' : World} {lo hi B : Nat} {uh un ub : Value} {hs ns bs : List WP} (h : HerW W lo hi uh hs un ns ub bs) (hb : Below B W W') (hB : hi ≤ B) : HerW W' lo hi uh hs un ns ub bs := ⟨h.h.below hb hB, h.n.below hb hB, h.b.below hb hB⟩
theorem HerW.keep {W W' : World} {lo hi : Nat} {uh un ub : Value} {hs ns bs : List WP} (h : HerW W lo hi uh hs un ns ub bs) (hk : ∀ k, lo ≤ k → k < hi → k < W.heap.size → W'.heap[k]? = W.heap[k]?) : HerW W' lo hi uh hs un ns ub bs := ⟨h.h.keep hk, h.n.keep hk, h.b.keep hk⟩
def others (al : List Int) (area : Int) (k : Nat) : List Int := (al.take k).filter (fun a => a != area)
theorem others_step {al : List Int} {area a : Int} {k : Nat} (h : al[k]? = some a) : others al area (k + 1) = others al area k ++ (if a != area then [a] else []) := by
 obtain ⟨hk, e⟩ := List.getElem?_eq_some_iff.1 h
 unfold others
 rw [List.take_succ_eq_append_getElem hk, e, List.filter_append]
 congr 1
 cases hd : (a != area) <;> simp [List.filter, hd]
theorem others_len (al : List Int) (area : Int) (k : Nat) : (others al area k).length ≤ k := by
 unfold others
 exact Nat.le_trans (List.length_filter_le _ _) (by rw [List.length_take]; omega)
theorem stell_any (v u : Value) (ps : List RP) (al : List Int) (hi : Nat) (src area : Int) (w : World) (hv : RecsIn w hi v ps) (ha : HopsAt w u al hi) (hhi : hi ≤ w.heap.size) (hn : tot ps ≤ 1048576) (hal : al.length ≤ 1048576) :
  Calls Tryz.prog 133 #[v, u, .int .i64 src, .int .i64 area] w fun e w' => ∃ x qs, e = .returned x ∧ IsTold (fsts ps) al src area (fsts qs) ∧ RecsOwn w' w.heap.size w'.heap.size x qs ∧ Below w.heap.size w w' := by
 obtain ⟨a1, c1, rfl⟩ := owns_lenS hv.row
 obtain ⟨a2, c2, rfl⟩ := ha.shape
 have LIT := recs_lit w w.heap.size (Nat.le_refl _)
 have hs1 : (w.alloc (.cells #[] 39)).heap.size = w.heap.size + 1 := by simp
 have B1 : Below w.heap.size w (w.alloc (.cells #[] 39)) := (Below.refl _ _).alloc (Nat.le_refl _) _
 obtain ⟨w1, hw1⟩ : ∃ W, W = w.alloc (.cells #[] 39) := ⟨_, rfl⟩
 rw [← hw1] at LIT hs1 B1
 have HSK := hide (sstoreOk_any (.slice a1 ps.length c1) ps w1 hn (RecsAt.more ((hv.below B1 hhi).at) (Nat.le_trans hhi B1.size)))
 have HWI := hide (fun W (hb : Below w.heap.size w W) => swaysIn_any (.slice a1 ps.length c1) ps hi area src W (hv.below hb hhi) (Nat.le_trans hhi hb.size) hn)
 have HWN := hide (fun (u2 : Value) (l2 : List Int) W (hb : Below w.heap.size w W) (h2 : HopsAt W u2 l2 W.heap.size) (hl : l2.length ≤ 1048576) => swithin_any (.slice a1 ps.length c1) u2 ps l2 W.heap.size src W ((hv.below hb hhi).wide (Nat.le_trans hhi hb.size)) h2 (Nat.le_refl _) hn hl)
 have HWB := hide (fun W (hb : Below w.heap.size w W) => sbeyond_any (.slice a1 ps.length c1) (.slice a2 al.length c2) ps al hi true src W (hv.below hb hhi) (RowAt.later ha hb hhi) (Nat.le_trans hhi hb.size) hn hal)
 have HA := hide ha
 clear hv ha
 have HLIT := hide LIT
 have HS1 := hide hs1
 clear LIT hs1
 obtain ⟨SB, hSB⟩ : ∃ b, b = storeB (fsts ps) := ⟨_, rfl⟩
 rw [← hSB] at HSK
 have HSB := hide hSB
 clear hSB
 go_enter Tryz.func133, Tryz.ntmps133
 go_wp2_with fail
 rw [← hw1]
 clear hw1
 refine HSK.out.mono ?_
 rintro e w2 ⟨rfl, b2⟩
 have hb2 := b2.size
 have hB1s := B1.size
 have B2 : Below w.heap.size w w2 := B1.trans (b2.mono hB1s)
 have HL2 := hide (HLIT.out.below b2 (Nat.le_refl _))
 clear HSK HLIT b2
 cases SB
 ·have HE := hide (show IsTold (fsts ps) al src area (fsts []) from ⟨List.Pairwise.nil, fun r => ⟨fun h => by simp [fsts] at h, fun ⟨to, c, _, h⟩ => by have h9 := told_store h; rw [← HSB.out] at h9; cases h9⟩⟩)
  have HO := hide (HL2.out.wide (Nat.le_refl _) hb2)
  have HN := hide B2
  clear HL2 HWI HWN HWB B2
  go_wp2
  go_ret
  first
   | exact ⟨_, [], rfl, HE.out, HO.out, HN.out⟩
   | exact ⟨_, rfl, [], HE.out, HO.out, HN.out⟩
 have OI := own_litI w2 w2.heap.size w2.heap.size rfl (Nat.le_refl _)
 have BI : Below w2.heap.size w2 (w2.alloc (.cells #[] 3)) := (Below.refl _ _).alloc (Nat.le_refl _) _
 obtain ⟨w0, hw0⟩ : ∃ W, W = w2.alloc (.cells #[] 3) := ⟨_, rfl⟩
 rw [← hw0] at OI BI
 have HOI := hide OI
 clear OI
 go_wp2
 rw [← hw0]
 clear hw0
 go_loopw [11, 10] (fun i o wr => ∃ (k : Nat) (x : Value), k ≤ al.length ∧ i = .int .i64 (k : Int) ∧ o = x ∧ wr.ownsRow w2.heap.size 3 1 x (others al area k).length (flat intE (others al area k)) ∧ Below w2.heap.size w2 wr) (fun i _ _ => al.length - (intOf i).toNat)
 case atStart => exact ⟨0, _, by omega, rfl, rfl, HOI.out, BI⟩
 case round =>
  obtain ⟨k, x, hk, rfl, rfl, hown, hnx⟩ := hrel
  clear HOI BI
  obtain ⟨xa, xc, rfl⟩ := owns_lenS hown
  have hsz := hnx.size
  have hol := others_len al area k
  have BW : Below w.heap.size w wr := B2.trans (hnx.mono B2.size)
  have OW := hide hown
  clear hown
  by_cases hlt : k < al.length
  ·obtain ⟨a, har⟩ : ∃ a, al[k]? = some a := ⟨al[k], List.getElem?_eq_getElem hlt⟩
   obtain ⟨b, off, cap', hve, hbb, c0⟩ := HA.out.cell k a har
   cases hve
   have hbw : b < w.heap.size := by omega
   rw [← BW.cell (p := ⟨b, off + k, none⟩) hbw] at c0
   have hki : (0 : Int) ≤ (k : Int) := by omega
   have hkj : (k : Int) < (al.length : Int) := by omega
   have HST := hide (others_step (area := area) har)
   obtain ⟨C, hC⟩ : ∃ C, C = others al area k := ⟨_, rfl⟩
   rw [← hC] at OW HST hol ⊢
   clear hC har
   obtain ⟨dd, hdd⟩ : ∃ d, d = (a != area) := ⟨_, rfl⟩
   rw [← hdd] at HST
   have hd : (a != area) = dd := hdd.symm
   clear hdd
   cases dd
   ·have HOW := hide (show wr.ownsRow w2.heap.size 3 1 (.slice xa C.length xc) (others al area (k + 1)).length (flat intE (others al area (k + 1))) by rw [HST.out]; simpa using OW.out)
    clear OW HST
    go_wp2
    go_roundw
    case rel => exact ⟨k + 1, _, by omega, by go_num, rfl, HOW.out, hnx⟩
    case measure => simp [intOf]; omega
   ·go_wp2_with (first
     | (at_builtin; refine append_struct5 intE_len (by omega) (by omega) _ rfl _ _ 28 rfl w2.heap.size 3 Tryz.underlying28 (.int .i64 0) rfl Tryz.info3 _ C a (intE_one _) rfl (OW.out.alloc _) ⟨wr.heap.size, 0, none⟩ 1 rfl (news_struct (cs := intE a)) (by omega) (by simp; omega) ?_))
    intro v' w4 hown' hgrow
    have B4 : Below w2.heap.size w2 w4 := (hnx.alloc hsz _).grown hgrow (by simp; omega) (fun j hj => (OW.out.lt j hj).1)
    have O4 := hide (show w4.ownsRow w2.heap.size 3 1 v' (others al area (k + 1)).length (flat intE (others al area (k + 1))) by rw [HST.out]; simpa using hown')
    obtain ⟨va, vc, rfl⟩ := owns_lenS hown'
    clear hown' hgrow
    go_wp2
    go_roundw
    case rel => exact ⟨k + 1, _, by omega, by go_num, rfl, O4.out, B4⟩
    case measure => simp [intOf]; omega
  ·have hkn : ¬ (k : Int) < (al.length : Int) := by omega
   obtain ⟨C, hC⟩ : ∃ C, C = others al area k := ⟨_, rfl⟩
   have HCE := hide (show C = al.filter (fun a => a != area) by rw [hC]; unfold others; rw [List.take_of_length_le (by omega)])
   rw [← hC] at OW hol ⊢
   have HO := hide ((HL2.out.below hnx (by omega)).wide (Nat.le_refl _) (show w1.heap.size ≤ wr.heap.size by omega))
   rename World => wo
   clear hC HL2 hnx
   go_wp2_with fail
   refine (HWI.out _ BW).mono ?_
   rintro e wh ⟨uh, hs, rfl, hhs0, hoh, bh⟩
   obtain ⟨uha, uhc, rfl⟩ := owns_lenS hoh.row
   have hhs := hhs0.eq
   have hbh := bh.size
   have BWH : Below w.heap.size w wh := BW.trans (bh.mono BW.size)
   have OWH := hops_of (owns_below OW.out bh (Nat.le_refl _))
   have HO2 := hide ((HO.out.below bh (Nat.le_refl _)).wide (Nat.le_refl _) hbh)
   have HOH := hide hoh
   clear hhs0 hoh HO
   go_wp2_with fail
   refine (HWN.out _ C _ BWH OWH (by omega)).mono ?_
   rintro e wn ⟨un, ns, rfl, hbn, hon, bn⟩
   obtain ⟨una, unc, rfl⟩ := owns_lenS hon.row
   have hbns := bn.size
   have BWN : Below w.heap.size w wn := BWH.trans (bn.mono BWH.size)
   have HO3 := hide ((HO2.out.below bn (Nat.le_refl _)).wide (Nat.le_refl _) hbns)
   have HON := hide hon
   have HBN := hide hbn
   clear hon hbn OWH HO2
   go_wp2_with fail
   refine (HWB.out _ BWN).mono ?_
   rintro e wB ⟨ub, bs, rfl, hbb0, hob, bB⟩
   obtain ⟨uba, ubc, rfl⟩ := owns_lenS hob.row
   have hbB := bB.size
   have BWB : Below w.heap.size w wB := BWN.trans (bB.mono BWN.size)
   have HO4 := hide ((HO3.out.below bB (Nat.le_refl _)).wide (Nat.le_refl _) hbB)
   have HHER := hide (show HerW wB w1.heap.size wB.heap.size (.slice uha hs.length uhc) hs (.slice una ns.length unc) ns (.slice uba bs.length ubc) bs from ⟨(HOH.out.below (bn.trans (bB.mono hbns)) (Nat.le_refl _)).wide (by omega) (by omega), (HON.out.below bB (Nat.le_refl _)).wide (by omega) (by omega), hob.wide (by omega) (Nat.le_refl _)⟩)
   have HBB := hide hbb0
   have hht : totW hs ≤ 1048576 := by have := ways_tot hhs; omega
   have hnt : totW ns ≤ 1048576 := by have := best_totS HBN.out (fun to d h => withinS_good h); omega
   have hbt : totW bs ≤ 1048576 := by have := best_totS HBB.out (fun to d h => beyondS_good h); omega
   obtain ⟨uh, huh⟩ : ∃ v, v = Value.slice uha hs.length uhc := ⟨_, rfl⟩
   obtain ⟨un, hun⟩ : ∃ v, v = Value.slice una ns.length unc := ⟨_, rfl⟩
   obtain ⟨ub, hub⟩ : ∃ v, v = Value.slice uba bs.length ubc := ⟨_, rfl⟩
   have HTH := hide (fun (z : Int) (W : World) (h : HerW W w1.heap.size wB.heap.size uh hs un ns ub bs) (hh : wB.heap.size ≤ W.heap.size) => by have r := swayTo_any uh hs w1.heap.size wB.heap.size z W h.h hh hht; rw [hhs] at r; exact r)
   have HTN := hide (fun (z : Int) (W : World) (h : HerW W w1.heap.size wB.heap.size uh hs un ns ub bs) (hh : wB.heap.size ≤ W.heap.size) => swayTo_any un ns w1.heap.size wB.heap.size z W h.n hh hnt)
   have HTB := hide (fun (z : Int) (W : World) (h : HerW W w1.heap.size wB.heap.size uh hs un ns ub bs) (hh : wB.heap.size ≤ W.heap.size) => swayTo_any ub bs w1.heap.size wB.heap.size z W h.b hh hbt)
   rw [← huh, ← hun, ← hub] at HHER ⊢
   have HHER0 := HHER
   clear HHER hob hbb0 HOH HON bn bB bh HO3 hhs huh hun hub BW BWH BWN OW HWI HWN HWB
   go_wp2
   go_loopw [15, 9] (fun i o wr => ∃ (t : Nat) (x : Value) (qs : List RP), 1 ≤ t ∧ t ≤ 7 ∧ i = .int .i64 (t : Int) ∧ o = x ∧ RecsOwn wr w.heap.size wr.heap.size x qs ∧ Hid (ToldBelow (fsts ps) al src area (t : Int) (fsts qs)) ∧ Off x w1.heap.size wB.heap.size ∧ HerW wr w1.heap.size wB.heap.size uh hs un ns ub bs ∧ Below w.heap.size w wr ∧ wB.heap.size ≤ wr.heap.size) (fun i _ _ => 8 - (intOf i).toNat)
   case atStart => exact ⟨1, _, [], by omega, by omega, rfl, rfl, HO4.out, hide ToldBelow.none, fun b hb => by simp [Value.ownBlock] at hb; have := HS1.out; omega, HHER0.out, BWB, Nat.le_refl _⟩
   case round =>
    obtain ⟨t, x, qs, ht1, ht7, rfl, rfl, hown, HB, hoff, hher, hnx, hsz⟩ := hrel
    clear HO4 HHER0 BWB
    obtain ⟨xa, xc, rfl⟩ := owns_lenS hown.row
    rename World => wt
    by_cases ht : t ≤ 6
    ·have ht6 : (t : Int) ≤ 6 := by omega
     have HOWN := hide hown
     have HHER := hide hher
     have HOFF := hide hoff
     have hq6 : qs.length ≤ 6 := by have h := HB.out.len.1; simpa [fsts] using h
     have hnh := near_has (fsts ps) area src (t : Int)
     have HW1 := HTH.out (t : Int) wt hher hsz
     obtain ⟨D, hD⟩ : ∃ D, D = wayToD (waysD (fsts ps) area src) (t : Int) := ⟨_, rfl⟩
     obtain ⟨F1, hF1⟩ : ∃ F, F = wayToB (waysD (fsts ps) area src) (t : Int) := ⟨_, rfl⟩
     rw [← hD, ← hF1] at HW1
     rw [← hF1] at hnh
     have HNH := hide hnh
     have H1 := hide HW1
     unfold wayC at H1
     clear hown hher hoff hnh HW1 hD hF1
     go_wp2_with fail
     refine (H1.out).mono ?_
     rintro e w3 ⟨du, rfl, hdu, b3⟩
     obtain ⟨dua, duc, rfl⟩ := owns_lenS hdu
     have hb3 := b3.size
     have BT : Below wt.heap.size wt (w3.alloc (.cells #[.int .i64 D.to, .int .i64 D.cost, .slice dua D.hops.length duc] 77)) := b3.trans (((Below.refl w3.heap.size w3).alloc (Nat.le_refl _) _).mono hb3)
     clear hdu b3 H1
     cases F1
     case true =>
      have N1 := hide ((HOWN.out.below BT (Nat.le_refl _)).wide (Nat.le_refl _) BT.size)
      have N2 := hide (show ToldBelow (fsts ps) al src area ((t + 1 : Nat) : Int) (fsts qs) from by
       have h := HB.out.skip (t := (t : Int)) (fun c hc => by rcases HNH.out with ⟨_, h2⟩ | ⟨h1, _⟩; exact h2 hc.1; cases h1)
       rw [show ((t + 1 : Nat) : Int) = (t : Int) + 1 by omega]
       exact h)
      have N3 := hide (HHER.out.below BT hsz)
      have N4 := hide (hnx.trans (BT.mono hnx.size))
      have hszr : wB.heap.size ≤ (w3.alloc (.cells #[.int .i64 D.to, .int .i64 D.cost, .slice dua D.hops.length duc] 77)).heap.size := by have := BT.size; omega
      clear HOWN HHER BT
      go_wp2
      go_roundw
      case rel => exact ⟨t + 1, _, qs, by omega, by omega, by go_num, rfl, N1.out, N2, HOFF.out, N3.out, N4.out, hszr⟩
      case measure => simp [intOf]; omega
     have hnn : notNear (fsts ps) area src (t : Int) := by
      rcases HNH.out with ⟨h1, _⟩ | ⟨_, h2⟩
      ·cases h1
      ·exact h2
     have HNN := hide hnn
     clear hnn HNH
     by_cases hts : (t : Int) = src
     case pos =>
      have hd : ((t : Int) == src) = true := by simpa using hts
      have HTS := hide hts
      clear hts
      have N1 := hide ((HOWN.out.below BT (Nat.le_refl _)).wide (Nat.le_refl _) BT.size)
      have N2 := hide (show ToldBelow (fsts ps) al src area ((t + 1 : Nat) : Int) (fsts qs) from by
       have h := HB.out.skip (t := (t : Int)) (fun c hc => hc.2.1 HTS.out)
       rw [show ((t + 1 : Nat) : Int) = (t : Int) + 1 by omega]
       exact h)
      have N3 := hide (HHER.out.below BT hsz)
      have N4 := hide (hnx.trans (BT.mono hnx.size))
      have hszr : wB.heap.size ≤ (w3.alloc (.cells #[.int .i64 D.to, .int .i64 D.cost, .slice dua D.hops.length duc] 77)).heap.size := by have := BT.size; omega
      clear HOWN HHER BT
      go_wp2
      go_roundw
      case rel => exact ⟨t + 1, _, qs, by omega, by omega, by go_num, rfl, N1.out, N2, HOFF.out, N3.out, N4.out, hszr⟩
      case measure => simp [intOf]; omega
     have hd : ((t : Int) == src) = false := by simpa using hts
     have HTS := hide hts
     clear hts
     have hwn2 : ∀ d, withinS (fsts ps) C src (t : Int) d ↔ withinS (fsts ps) al src (t : Int) d := fun d => by rw [HCE.out]; exact withinS_others HNN.out d
     have hbh := best_has HBN.out (t : Int)
     have hbb := best_has HBB.out (t : Int)
     obtain ⟨E, hE⟩ : ∃ E, E = wayToD (fstsW ns) (t : Int) := ⟨_, rfl⟩
     obtain ⟨F2, hF2⟩ : ∃ F, F = wayToB (fstsW ns) (t : Int) := ⟨_, rfl⟩
     obtain ⟨w4, hw4⟩ : ∃ W, W = (w3.alloc (.cells #[.int .i64 D.to, .int .i64 D.cost, .slice dua D.hops.length duc] 77)) := ⟨_, rfl⟩
     rw [← hw4] at BT
     have HW2 := HTN.out (t : Int) w4 (HHER.out.below BT hsz) (by have := BT.size; omega)
     rw [← hE, ← hF2] at HW2 hbh
     have HBH := hide hbh
     have HBY := hide hbb
     have HWN2 := hide hwn2
     have H2 := hide HW2
     unfold wayC at H2
     clear hbh hbb hwn2 HW2 hE hF2
     go_wp2_with fail
     rw [← hw4]
     clear hw4
     refine (H2.out).mono ?_
     rintro e w5 ⟨eu, rfl, heu, b5⟩
     obtain ⟨eua, euc, rfl⟩ := owns_lenS heu
     have hb5 := b5.size
     have hwt4 : wt.heap.size ≤ w4.heap.size := BT.size
     have BT0 := BT
     have BT6 : Below wt.heap.size wt (w5.alloc (.cells #[.int .i64 E.to, .int .i64 E.cost, .slice eua E.hops.length euc] 77)) := BT.trans ((b5.trans (((Below.refl w5.heap.size w5).alloc (Nat.le_refl _) _).mono hb5)).mono BT.size)
     have hx6 := heap_alloc_new w5 (.cells #[.int .i64 E.to, .int .i64 E.cost, .slice eua E.hops.length euc] 77)
     have d1 := cells_at hx6 1
     simp at d1
     clear heu b5 H2 BT BT0
     have BT := BT6
     clear BT6
     cases F2
     case true =>
      have hbe : BestOf (t : Int) (withinS (fsts ps) al src (t : Int)) (some E) := by
       rcases HBH.out with ⟨_, h2⟩ | ⟨h1, _⟩
       ·exact h2.congr HWN2.out
       ·cases h1
      have HTO := hide (show toldTo (fsts ps) al src area (t : Int) E.cost from ⟨HNN.out, HTS.out, .inl ⟨E, hbe, rfl⟩⟩)
      clear hbe
      clear HBH HBY HWN2 hx6
      have BN : Below wt.heap.size wt ((w5.alloc (.cells #[.int .i64 E.to, .int .i64 E.cost, .slice eua E.hops.length euc] 77)).alloc (.cells #[.int .i64 area, .int .i64 2, .int .i64 src, .int .i64 (t : Int), .int .i64 0, .slice none 0 0, .int .i64 E.cost, .bool false] 39)) := BT.trans (((Below.refl _ _).alloc (Nat.le_refl _) _).mono BT.size)
      have OW := hide ((owns_below HOWN.out.row BT (Nat.le_refl _)).alloc (.cells #[.int .i64 area, .int .i64 2, .int .i64 src, .int .i64 (t : Int), .int .i64 0, .slice none 0 0, .int .i64 E.cost, .bool false] 39))
      have HHO := hide (show NearOwn ((w5.alloc (.cells #[.int .i64 E.to, .int .i64 E.cost, .slice eua E.hops.length euc] 77)).alloc (.cells #[.int .i64 area, .int .i64 2, .int .i64 src, .int .i64 (t : Int), .int .i64 0, .slice none 0 0, .int .i64 E.cost, .bool false] 39)) wt.heap.size ((w5.alloc (.cells #[.int .i64 E.to, .int .i64 E.cost, .slice eua E.hops.length euc] 77)).alloc (.cells #[.int .i64 area, .int .i64 2, .int .i64 src, .int .i64 (t : Int), .int .i64 0, .slice none 0 0, .int .i64 E.cost, .bool false] 39)).heap.size (tellR area src (t : Int) E.cost, Value.slice none 0 0) from ⟨World.ownsRow_nil _ _ _ _, fun k hk => by simp [Value.ownBlock] at hk⟩)
      have HKP := hide (show (HerW ((w5.alloc (.cells #[.int .i64 E.to, .int .i64 E.cost, .slice eua E.hops.length euc] 77)).alloc (.cells #[.int .i64 area, .int .i64 2, .int .i64 src, .int .i64 (t : Int), .int .i64 0, .slice none 0 0, .int .i64 E.cost, .bool false] 39)) w1.heap.size wB.heap.size uh hs un ns ub bs) from HHER.out.below BN hsz)
      have N2 := hide (show ToldBelow (fsts ps) al src area ((t + 1 : Nat) : Int) (fsts (qs ++ [(tellR area src (t : Int) E.cost, Value.slice none 0 0)])) from by
       have h := HB.out.push HTO.out
       rw [show ((t + 1 : Nat) : Int) = (t : Int) + 1 by omega]
       have e : fsts (qs ++ [(tellR area src (t : Int) E.cost, Value.slice none 0 0)]) = fsts qs ++ [tellR area src (t : Int) E.cost] := by simp [fsts]
       rw [e]
       exact h)
      have hws := hnx.size
      have HAS := hide (show (w5.alloc (.cells #[.int .i64 E.to, .int .i64 E.cost, .slice eua E.hops.length euc] 77)).heap.size = w5.heap.size + 1 by simp)
      have hBTs : wt.heap.size ≤ w5.heap.size + 1 := by have h := BT.size; rw [HAS.out] at h; exact h
      go_wp2_with (first
       | (at_builtin; refine append_struct6 encP_len (by omega) (by omega) _ rfl _ _ 29 rfl w.heap.size 39 Tryz.underlying29 (.agg (recC zeroRD (.slice none 0 0))) rfl Tryz.infoRec _ qs (tellR area src (t : Int) E.cost, Value.slice none 0 0) (encP_one _ _ _ _) rfl OW.out ⟨w5.heap.size + 1, 0, none⟩ 1 rfl (fun j u hj => by
         have h := news_struct (w := (w5.alloc (.cells #[.int .i64 E.to, .int .i64 E.cost, .slice eua E.hops.length euc] 77))) (cs := encP (tellR area src (t : Int) E.cost, Value.slice none 0 0)) (t := 39) j u hj
         rw [HAS.out] at h
         exact h) (by omega) (by simp; omega) ?_))
      intro v' w9 hown' hgrow hat
      have N1 := hide (HOWN.out.push BN hws HHO.out (by simpa using hown') hgrow)
      have N3 := hide (HKP.out.keep (HOFF.out.kept hgrow))
      have N4 := hide ((hnx.trans (BN.mono hws)).grown hgrow (by have := BN.size; omega) (fun j hj => (HOWN.out.row.lt j hj).1))
      have N5 := hide (HOFF.out.next (x' := v') (B := wB.heap.size) (fun j hj => by
       rcases hat with h1 | h1
       ·exact .inl (by rw [← h1]; exact hj)
       ·right
        rw [h1] at hj
        simp at hj
        have := BT.size
        first | omega | (simp at this; omega)) (Nat.le_refl _))
      have hszr : wB.heap.size ≤ w9.heap.size := by
       have h1 := hgrow.size
       simp at h1
       omega
      obtain ⟨va, vc, rfl⟩ := owns_lenS hown'
      clear hown' hgrow hat BN OW HHO HKP BT
      go_wp2
      go_roundw
      case rel => exact ⟨t + 1, _, qs ++ [(tellR area src (t : Int) E.cost, Value.slice none 0 0)], by omega, by omega, by go_num, rfl, N1.out, N2, N5.out, N3.out, N4.out, hszr⟩
      case measure => simp [intOf]; omega
     have hnw : ∀ d, ¬ withinS (fsts ps) al src (t : Int) d := fun d h => by
      rcases HBH.out with ⟨h1, _⟩ | ⟨_, h2⟩
      ·cases h1
      ·exact h2 d ((HWN2.out d).2 h)
     have HNW := hide hnw
     clear hnw HBH HWN2
     by_cases ha0 : area = 0
     case pos =>
      have hda : (area != 0) = false := by simpa using ha0
      have HA0 := hide ha0
      clear ha0
      have N1 := hide ((HOWN.out.below BT (Nat.le_refl _)).wide (Nat.le_refl _) BT.size)
      have N2 := hide (show ToldBelow (fsts ps) al src area ((t + 1 : Nat) : Int) (fsts qs) from by
       have h := HB.out.skip (t := (t : Int)) (fun c hc => by rcases hc.2.2 with ⟨w, h1, _⟩ | ⟨h1, _⟩; exact not_best HNW.out h1; exact h1 HA0.out)
       rw [show ((t + 1 : Nat) : Int) = (t : Int) + 1 by omega]
       exact h)
      have N3 := hide (HHER.out.below BT hsz)
      have N4 := hide (hnx.trans (BT.mono hnx.size))
      have hszr : wB.heap.size ≤ (w5.alloc (.cells #[.int .i64 E.to, .int .i64 E.cost, .slice eua E.hops.length euc] 77)).heap.size := by have := BT.size; omega
      clear hx6 d1
      clear HOWN HHER BT
      go_wp2
      go_roundw
      case rel => exact ⟨t + 1, _, qs, by omega, by omega, by go_num, rfl, N1.out, N2, HOFF.out, N3.out, N4.out, hszr⟩
      case measure => simp [intOf]; omega
     have hda : (area != 0) = true := by simpa using ha0
     have HA0 := hide ha0
     clear ha0
     obtain ⟨G, hG⟩ : ∃ G, G = wayToD (fstsW bs) (t : Int) := ⟨_, rfl⟩
     obtain ⟨F3, hF3⟩ : ∃ F, F = wayToB (fstsW bs) (t : Int) := ⟨_, rfl⟩
     obtain ⟨w6, hw6⟩ : ∃ W, W = (w5.alloc (.cells #[.int .i64 E.to, .int .i64 E.cost, .slice eua E.hops.length euc] 77)) := ⟨_, rfl⟩
     rw [← hw6] at BT hx6
     have HW3 := HTB.out (t : Int) w6 (HHER.out.below BT hsz) (by have := BT.size; omega)
     rw [← hG, ← hF3] at HW3
     rw [← hG, ← hF3] at HBY
     have H3 := hide HW3
     unfold wayC at H3
     have hz6 := lt_of_heap hx6
     have HX6 := hide hx6
     clear HW3 hG hF3 hx6 d1
     go_wp2_with fail
     rw [← hw6]
     clear hw6
     refine (H3.out).mono ?_
     rintro e w7 ⟨gu, rfl, hgu, b7⟩
     obtain ⟨gua, guc, rfl⟩ := owns_lenS hgu
     have hb7 := b7.size
     have hx7 := (b7.block _ hz6).trans HX6.out
     have BT7 : Below wt.heap.size wt w7 := BT.trans (b7.mono BT.size)
     have hwt3 : wt.heap.size ≤ w5.heap.size := by omega
     have BT8 : Below wt.heap.size wt (putW3 w7 w5.heap.size G (.slice gua G.hops.length guc)) := BT7.grown (grownW3 w7 w5.heap.size G (.slice gua G.hops.length guc)) BT7.size (fun j hj => by simp at hj; omega)
     have d0 := cells_at hx7 0
     have d1 := cells_at hx7 1
     have d2 := cells_at hx7 2
     simp at d0 d1 d2
     have fd := frozen_at hx7
     clear hgu b7 H3 HX6 hx7 BT BT7
     have BT := BT8
     clear BT8
     cases F3
     case false =>
      have N1 := hide ((HOWN.out.below BT (Nat.le_refl _)).wide (Nat.le_refl _) BT.size)
      have N2 := hide (show ToldBelow (fsts ps) al src area ((t + 1 : Nat) : Int) (fsts qs) from by
       have h := HB.out.skip (t := (t : Int)) (fun c hc => by rcases hc.2.2 with ⟨w, h1, _⟩ | ⟨_, w, h1, _⟩; exact not_best HNW.out h1; rcases HBY.out with ⟨h2, _⟩ | ⟨_, h2⟩; cases h2; exact not_best h2 h1)
       rw [show ((t + 1 : Nat) : Int) = (t : Int) + 1 by omega]
       exact h)
      have N3 := hide (HHER.out.below BT hsz)
      have N4 := hide (hnx.trans (BT.mono hnx.size))
      have hszr : wB.heap.size ≤ (putW3 w7 w5.heap.size G (.slice gua G.hops.length guc)).heap.size := by have := BT.size; omega
      clear HOWN HHER BT
      go_wp2
      go_roundw
      case rel => exact ⟨t + 1, _, qs, by omega, by omega, by go_num, rfl, N1.out, N2, HOFF.out, N3.out, N4.out, hszr⟩
      case measure => simp [intOf]; omega
     have hbe : BestOf (t : Int) (beyondS (fsts ps) al true src (t : Int)) (some G) := by
      rcases HBY.out with ⟨_, h2⟩ | ⟨h1, _⟩
      ·exact h2
      ·cases h1
     have HTO := hide (show toldTo (fsts ps) al src area (t : Int) G.cost from ⟨HNN.out, HTS.out, .inr ⟨HA0.out, G, hbe, rfl⟩⟩)
     clear hbe
     clear HBY HNW
     have BN : Below wt.heap.size wt ((putW3 w7 w5.heap.size G (.slice gua G.hops.length guc)).alloc (.cells #[.int .i64 area, .int .i64 2, .int .i64 src, .int .i64 (t : Int), .int .i64 0, .slice none 0 0, .int .i64 G.cost, .bool false] 39)) := BT.trans (((Below.refl _ _).alloc (Nat.le_refl _) _).mono BT.size)
     have OW := hide ((owns_below HOWN.out.row BT (Nat.le_refl _)).alloc (.cells #[.int .i64 area, .int .i64 2, .int .i64 src, .int .i64 (t : Int), .int .i64 0, .slice none 0 0, .int .i64 G.cost, .bool false] 39))
     have HHO := hide (show NearOwn ((putW3 w7 w5.heap.size G (.slice gua G.hops.length guc)).alloc (.cells #[.int .i64 area, .int .i64 2, .int .i64 src, .int .i64 (t : Int), .int .i64 0, .slice none 0 0, .int .i64 G.cost, .bool false] 39)) wt.heap.size ((putW3 w7 w5.heap.size G (.slice gua G.hops.length guc)).alloc (.cells #[.int .i64 area, .int .i64 2, .int .i64 src, .int .i64 (t : Int), .int .i64 0, .slice none 0 0, .int .i64 G.cost, .bool false] 39)).heap.size (tellR area src (t : Int) G.cost, Value.slice none 0 0) from ⟨World.ownsRow_nil _ _ _ _, fun k hk => by simp [Value.ownBlock] at hk⟩)
     have HKP := hide (show (HerW ((putW3 w7 w5.heap.size G (.slice gua G.hops.length guc)).alloc (.cells #[.int .i64 area, .int .i64 2, .int .i64 src, .int .i64 (t : Int), .int .i64 0, .slice none 0 0, .int .i64 G.cost, .bool false] 39)) w1.heap.size wB.heap.size uh hs un ns ub bs) from HHER.out.below BN hsz)
     have N2 := hide (show ToldBelow (fsts ps) al src area ((t + 1 : Nat) : Int) (fsts (qs ++ [(tellR area src (t : Int) G.cost, Value.slice none 0 0)])) from by
      have h := HB.out.push HTO.out
      rw [show ((t + 1 : Nat) : Int) = (t : Int) + 1 by omega]
      have e : fsts (qs ++ [(tellR area src (t : Int) G.cost, Value.slice none 0 0)]) = fsts qs ++ [tellR area src (t : Int) G.cost] := by simp [fsts]
      rw [e]
      exact h)
     have hws := hnx.size
     have HAS := hide (show (putW3 w7 w5.heap.size G (.slice gua G.hops.length guc)).heap.size = w7.heap.size by simp)
     have hBTs : wt.heap.size ≤ w7.heap.size := by have h := BT.size; rw [HAS.out] at h; exact h
     go_wp2_with (first
      | (at_builtin; refine append_struct6 encP_len (by omega) (by omega) _ rfl _ _ 29 rfl w.heap.size 39 Tryz.underlying29 (.agg (recC zeroRD (.slice none 0 0))) rfl Tryz.infoRec _ qs (tellR area src (t : Int) G.cost, Value.slice none 0 0) (encP_one _ _ _ _) rfl OW.out ⟨w7.heap.size, 0, none⟩ 1 rfl (fun j u hj => by
        have h := news_struct (w := (putW3 w7 w5.heap.size G (.slice gua G.hops.length guc))) (cs := encP (tellR area src (t : Int) G.cost, Value.slice none 0 0)) (t := 39) j u hj
        rw [HAS.out] at h
        exact h) (by omega) (by simp; omega) ?_))
     intro v' w9 hown' hgrow hat
     have N1 := hide (HOWN.out.push BN hws HHO.out (by simpa using hown') hgrow)
     have N3 := hide (HKP.out.keep (HOFF.out.kept hgrow))
     have N4 := hide ((hnx.trans (BN.mono hws)).grown hgrow (by have := BN.size; omega) (fun j hj => (HOWN.out.row.lt j hj).1))
     have N5 := hide (HOFF.out.next (x' := v') (B := wB.heap.size) (fun j hj => by
      rcases hat with h1 | h1
      ·exact .inl (by rw [← h1]; exact hj)
      ·right
       rw [h1] at hj
       simp at hj
       have := BT.size
       first | omega | (simp at this; omega)) (Nat.le_refl _))
     have hszr : wB.heap.size ≤ w9.heap.size := by
      have h1 := hgrow.size
      simp at h1
      omega
     obtain ⟨va, vc, rfl⟩ := owns_lenS hown'
     clear hown' hgrow hat BN OW HHO HKP BT
     go_wp2
     go_roundw
     case rel => exact ⟨t + 1, _, qs ++ [(tellR area src (t : Int) G.cost, Value.slice none 0 0)], by omega, by omega, by go_num, rfl, N1.out, N2, N5.out, N3.out, N4.out, hszr⟩
     case measure => simp [intOf]; omega
    ·have ht6 : ¬ (t : Int) ≤ 6 := by omega
     have htt : (t : Int) = 7 := by omega
     have HE := hide (show IsTold (fsts ps) al src area (fsts qs) from ToldBelow.all (by have h := HB.out; rw [htt] at h; exact h))
     have HO := hide hown
     have HN := hide hnx
     clear hown hnx HB hoff hher htt
     go_wp2
     go_ret
     first
      | exact ⟨_, qs, rfl, HE.out, HO.out, HN.out⟩
      | exact ⟨_, rfl, qs, HE.out, HO.out, HN.out⟩
end Go.Proofs.YtmijnjnihhemgaaGreat
