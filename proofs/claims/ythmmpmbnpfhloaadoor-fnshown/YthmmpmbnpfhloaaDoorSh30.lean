/-
  spec.RoutesBeyond: its walk.
-/
import Derived.Test.YthmmpmbnpfhloaaDoorSh28
import Derived.Test.YthmmpmbnpfhloaaDoorSh29
namespace Go.Proofs.YthmmpmbnpfhloaaDoor
open Go.RowKit

set_option linter.unusedSimpArgs false

theorem within_hasS {xs : List RecD} {al : List Int} {src : Int} {ds : List WayD} (h : IsBest (withinS xs al src) ds) (to : Int) : (wayToB ds to = true ∧ ∃ y, withinS xs al src to y) ∨ (wayToB ds to = false ∧ ∀ y, ¬ withinS xs al src to y) := by
  have hb := h.2 to
  rcases wayTo_find ds to with ⟨h1, h2⟩ | ⟨h1, h2⟩
  · rw [h2] at hb
    obtain ⟨_, ⟨y, hy, _⟩, _⟩ := hb
    exact .inl ⟨h1, y, hy⟩
  · rw [h2] at hb
    exact .inr ⟨h1, hb⟩

theorem best_totS {S : Int → WayD → Prop} {qs : List WP} (h : IsBest S (fstsW qs)) (hS : ∀ to w, S to w → GoodW w ∧ w.to = to) : totW qs ≤ 42 :=
  good_tot (by have h2 := asc_tos h.1 (fun d hd => (h.good hS d hd).node); simpa [fstsW] using h2) (fun d hd => (h.good hS d hd).len)

theorem bestV_congr {to : Int} {S T : WayD → Prop} {E : WayD} {fv : Value} (h : BestV to S E fv) (e : ∀ d, S d ↔ T d) : BestV to T E fv := by
  obtain ⟨F, h1, h2⟩ := h
  exact ⟨F, h1, h2.congr e⟩

set_option maxRecDepth 100000 in
set_option maxHeartbeats 8000000 in
theorem sbeyond_any (v u : Value) (ps : List RP) (al : List Int) (hi : Nat) (border : Bool) (src : Int) (w : World) (hv : RecsIn w hi v ps) (ha : HopsAt w u al hi) (hhi : hi ≤ w.heap.size) (hn : tot ps ≤ 1048576) (hal : al.length ≤ 1048576) :
    Calls Tryd.prog 44 #[v, u, .bool border, .int .i64 src] w fun e w' => ∃ x qs, e = .returned x ∧ IsBest (beyondS (fsts ps) al border src) (fstsW qs) ∧ WaysOwn w' w.heap.size w'.heap.size x qs ∧ Below w.heap.size w w' := by
  obtain ⟨a1, c1, rfl⟩ := owns_lenS hv.row
  obtain ⟨a2, c2, rfl⟩ := ha.shape
  have LIT := ways_lit w w.heap.size (Nat.le_refl _)
  have hs1 : (w.alloc (.cells #[] 93)).heap.size = w.heap.size + 1 := by simp
  have B1 : Below w.heap.size w (w.alloc (.cells #[] 93)) := (Below.refl _ _).alloc (Nat.le_refl _) _
  obtain ⟨w1, hw1⟩ : ∃ W, W = w.alloc (.cells #[] 93) := ⟨_, rfl⟩
  rw [← hw1] at LIT hs1 B1
  have HWN := hide (swithin_any (.slice a1 ps.length c1) (.slice a2 al.length c2) ps al hi src w1 (hv.below B1 hhi) (RowAt.later ha B1 hhi) (Nat.le_trans hhi B1.size) hn hal)
  have HSK := hide (fun W (hb : Below w.heap.size w W) => sstoreOk_any (.slice a1 ps.length c1) ps W hn (RecsAt.more ((hv.below hb hhi).at) (Nat.le_trans hhi hb.size)))
  have HWI := hide (fun area W (hb : Below w.heap.size w W) => swaysIn_any (.slice a1 ps.length c1) ps hi area src W (hv.below hb hhi) (Nat.le_trans hhi hb.size) hn)
  have HL7 := hide (fun (uw : Value) (ws : List WP) (lo2 hi2 lo : Nat) (area to : Int) (b0 : WayD) (bv0 : Value) (F0 : Bool) (W : World) (S0 : WayD → Prop) (hb : Below w.heap.size w W) hw hh2 hws hst hbo hS0 hb0 hlo hl0 => sl07_any (.slice a1 ps.length c1) uw ps ws hi lo2 hi2 lo area src to b0 bv0 F0 W S0 (hv.below hb hhi) (Nat.le_trans hhi hb.size) hn hw hh2 hws hst hbo hS0 hb0 hlo hl0)
  have HA := hide ha
  clear hv ha
  have HLIT := hide LIT
  have HS1 := hide hs1
  clear LIT hs1
  obtain ⟨SB, hSB⟩ : ∃ b, b = storeB (fsts ps) := ⟨_, rfl⟩
  rw [← hSB] at HSK
  have HSB := hide hSB
  clear hSB
  go_enter Tryd.func44, Tryd.ntmps44
  go_wp2_with fail
  rw [← hw1]
  clear hw1
  refine HWN.out.mono ?_
  rintro e wn ⟨un, ns, rfl, hbn, hon, bn⟩
  obtain ⟨nsa, nsc, rfl⟩ := owns_lenS hon.row
  have hbns := bn.size
  have hB1s := B1.size
  have BWN : Below w.heap.size w wn := B1.trans (bn.mono hB1s)
  have HLN := hide ((HLIT.out.below bn (Nat.le_refl _)))
  have hnt : totW ns ≤ 1048576 := by have := best_totS hbn (fun to d h => withinS_good h); omega
  have HNT := hide (fun (z : Int) (W : World) (hw : WaysOwn W w1.heap.size wn.heap.size (.slice nsa ns.length nsc) ns) (hh : wn.heap.size ≤ W.heap.size) => swayTo_any (.slice nsa ns.length nsc) ns w1.heap.size wn.heap.size z W hw hh hnt)
  have HON := hide hon
  have HHAS := hide (fun to => within_hasS hbn to)
  clear HWN HLIT bn hbn hon hnt
  go_wp2_with fail
  refine (HSK.out _ BWN).mono ?_
  rintro e ws0 ⟨rfl, bs⟩
  have hbs := bs.size
  have BWS : Below w.heap.size w ws0 := BWN.trans (bs.mono BWN.size)
  have BN0 : Below w1.heap.size w1 w1 := Below.refl _ _
  cases SB
  · have HE := hide (show IsBest (beyondS (fsts ps) al border src) (fstsW []) from isBest_none (fun to d ⟨_, a, _, _, h⟩ => by have := (outS_area h).1; rw [← HSB.out] at this; cases this))
    have HO := hide ((HLN.out.below bs (by omega)).wide (Nat.le_refl _) (show w1.heap.size ≤ ws0.heap.size by omega))
    have HN := hide BWS
    clear HLN HNT HHAS HWI HL7 HSK bs BWS BWN HON
    go_wp2
    go_ret
    first
      | exact ⟨_, [], rfl, HE.out, HO.out, HN.out⟩
      | exact ⟨_, rfl, [], HE.out, HO.out, HN.out⟩
  have LS := wls_lit ws0 ws0.heap.size (Nat.le_refl _)
  have B0 : Below ws0.heap.size ws0 (ws0.alloc (.cells #[] 88)) := (Below.refl _ _).alloc (Nat.le_refl _) _
  obtain ⟨w0, hw0⟩ : ∃ W, W = ws0.alloc (.cells #[] 88) := ⟨_, rfl⟩
  rw [← hw0] at LS B0
  have HLS := hide LS
  have HLO := hide ((HLN.out.below bs (by omega)))
  have HBS := hide bs
  clear LS HSK HLN bs
  go_wp2
  rw [← hw0]
  clear hw0
  go_loopw [12, 11] (fun i o wr => ∃ (k : Nat) (y : Value) (ls : List LP), k ≤ al.length ∧ i = .int .i64 (k : Int) ∧ o = y ∧ WLs wr ws0.heap.size wr.heap.size y ls ∧ Hid (AreaWays (fsts ps) src (al.take k) ls) ∧ Below ws0.heap.size ws0 wr) (fun i _ _ => al.length - (intOf i).toNat)
  case atStart => exact ⟨0, _, [], by omega, rfl, rfl, HLS.out, hide (by simp [AreaWays]), B0⟩
  case round =>
    obtain ⟨k, y, ls, hk, rfl, rfl, hls, HAW, hnx⟩ := hrel
    clear HLS B0
    obtain ⟨ya, yc, rfl⟩ := owns_lenS hls.row
    have hlen : ls.length = k := by have := HAW.out.len; rw [List.length_take, Nat.min_eq_left hk] at this; exact this
    have BW : Below w.heap.size w wr := BWS.trans (hnx.mono BWS.size)
    have hws := BW.size
    by_cases hlt : k < al.length
    · obtain ⟨area, har⟩ : ∃ a, al[k]? = some a := ⟨al[k], List.getElem?_eq_getElem hlt⟩
      obtain ⟨b, off, cap', hve, hbb, c0⟩ := HA.out.cell k area har
      cases hve
      rw [← BW.cell (p := ⟨b, off + k, none⟩) (by show b < w.heap.size; omega)] at c0
      have hki : (0 : Int) ≤ (k : Int) := by omega
      have hkj : (k : Int) < (al.length : Int) := by omega
      have HLS := hide hls
      have HAR := hide har
      have HLEN := hide hlen
      clear hls har hlen
      go_wp2_with fail
      refine (HWI.out area _ BW).mono ?_
      rintro e w2 ⟨uw, ws, rfl, hws2, how, b2⟩
      obtain ⟨wsa, wsc, rfl⟩ := owns_lenS how.row
      have hb2 := b2.size
      have HWE := hide (hws2.eq)
      have BA : Below w2.heap.size w2 (w2.alloc (.cells #[.slice wsa ws.length wsc] 88)) := (Below.refl _ _).alloc (Nat.le_refl _) _
      have OWA := hide ((owns_below HLS.out.row b2 (Nat.le_refl _)).alloc (.cells #[.slice wsa ws.length wsc] 88))
      have HOW := hide how
      clear hws2 how
      go_wp2_with (first
        | (at_builtin; refine append_struct6 encLP_len (by omega) (by omega) _ rfl _ _ 106 rfl ws0.heap.size 88 Tryd.underlying106 (.slice none 0 0) rfl Tryd.infoWayS _ ls (.slice wsa ws.length wsc, ws) (fun q hq => by simp [encLP] at hq; subst hq; rfl) rfl OWA.out ⟨w2.heap.size, 0, none⟩ 1 rfl (news_struct (cs := encLP (.slice wsa ws.length wsc, ws))) (by have := HLEN.out; omega) (by simp; have := hnx.size; omega) ?_))
      intro v' w4 hown' hgrow hat
      have BB : Below wr.heap.size wr (w2.alloc (.cells #[.slice wsa ws.length wsc] 88)) := b2.trans (BA.mono hb2)
      have N1 := hide (HLS.out.push BB ((HOW.out.below BA (Nat.le_refl _)).wide hnx.size BA.size) (by simpa using hown') hgrow)
      have N2 := hide (HAW.out.push (p := (.slice wsa ws.length wsc, ws)) HAR.out HWE.out)
      have N3 := hide ((hnx.trans (BB.mono hnx.size)).grown hgrow (by have := BB.size; have := hnx.size; omega) (fun j hj => (HLS.out.row.lt j hj).1))
      obtain ⟨va, vc, rfl⟩ := owns_lenS hown'
      clear hown' hgrow hat BB OWA HOW HLS BA b2
      go_wp2
      go_roundw
      case rel => exact ⟨k + 1, _, ls ++ [(.slice wsa ws.length wsc, ws)], by omega, by go_num, rfl, N1.out, N2, N3.out⟩
      case measure => simp [intOf]; omega
    · have hkn : ¬ (k : Int) < (al.length : Int) := by omega
      have HAL := hide (show AreaWays (fsts ps) src al ls by have h := HAW.out; rw [List.take_of_length_le (by omega)] at h; exact h)
      have HO := hide ((HLO.out.below hnx (by omega)).wide (Nat.le_refl _) (show w1.heap.size ≤ wr.heap.size by have := hnx.size; omega))
      have HLS := hide hls
      rename World => wb
      have hwb := hnx.size
      have HNB := hide (HON.out.below (HBS.out.trans (hnx.mono hbs)) (Nat.le_refl _))
      clear hls HAW hlen HLO hnx HBS HON
      go_wp2
      go_loopw [13, 9] (fun i o wr => ∃ (t : Nat) (x : Value) (qs : List WP), 1 ≤ t ∧ t ≤ 7 ∧ i = .int .i64 (t : Int) ∧ o = x ∧ WaysOwn wr w.heap.size wr.heap.size x qs ∧ Hid (IsBest (fun to d => to < (t : Int) ∧ beyondS (fsts ps) al border src to d) (fstsW qs)) ∧ Off x w1.heap.size wb.heap.size ∧ WLs wr ws0.heap.size wb.heap.size (.slice ya ls.length yc) ls ∧ Below w.heap.size w wr ∧ WaysOwn wr w1.heap.size wn.heap.size (.slice nsa ns.length nsc) ns ∧ wb.heap.size ≤ wr.heap.size) (fun i _ _ => 8 - (intOf i).toNat)
      case atStart => exact ⟨1, _, [], by omega, by omega, rfl, rfl, HO.out, hide (isBest_none (fun to d ⟨h1, h2⟩ => by have h3 := (beyondS_good h2); have := h3.1.node; rw [h3.2] at this; omega)), fun b hb => by simp [Value.ownBlock] at hb; have := HS1.out; omega, HLS.out, BW, HNB.out, Nat.le_refl _⟩
      case round =>
        obtain ⟨t, x, qs, ht1, ht7, rfl, rfl, hown, HB, hoff, hls, hnx, hfr, hsz⟩ := hrel
        clear HO HLS BW hws HNB
        obtain ⟨xa, xc, rfl⟩ := owns_lenS hown.row
        rename World => wt
        by_cases ht : t ≤ 6
        · have ht6 : (t : Int) ≤ 6 := by omega
          have HOWN := hide hown
          have HLS := hide hls
          have HOFF := hide hoff
          have HFR := hide hfr
          have hq6 : qs.length ≤ 6 := by
            have h := asc_tos HB.out.1 (fun d hd => (HB.out.good (fun to d h => beyondS_good h.2) d hd).node)
            simpa [fstsW] using h
          have HNW := hide (HNT.out (t : Int) wt hfr (by omega))
          have hh := HHAS.out (t : Int)
          obtain ⟨D, hD⟩ : ∃ D, D = wayToD (fstsW ns) (t : Int) := ⟨_, rfl⟩
          obtain ⟨FB, hFB⟩ : ∃ F, F = wayToB (fstsW ns) (t : Int) := ⟨_, rfl⟩
          rw [← hD, ← hFB] at HNW
          rw [← hFB] at hh
          have HH := hide hh
          unfold wayC at HNW
          clear hown hls hoff hfr hh hD hFB
          go_wp2_with fail
          refine HNW.out.mono ?_
          rintro e w3 ⟨du, rfl, hdu, b3⟩
          obtain ⟨da, dc, rfl⟩ := owns_lenS hdu
          have hb3 := b3.size
          have B4 : Below wt.heap.size wt (w3.alloc (.cells #[.int .i64 D.to, .int .i64 D.cost, .slice da D.hops.length dc] 93)) := b3.trans (((Below.refl w3.heap.size w3).alloc (Nat.le_refl _) _).mono hb3)
          have hs4 : (w3.alloc (.cells #[.int .i64 D.to, .int .i64 D.cost, .slice da D.hops.length dc] 93)).heap.size = w3.heap.size + 1 := by simp
          obtain ⟨w4, hw4⟩ : ∃ W, W = w3.alloc (.cells #[.int .i64 D.to, .int .i64 D.cost, .slice da D.hops.length dc] 93) := ⟨_, rfl⟩
          rw [← hw4] at B4 hs4
          have HS4 := hide hs4
          have hB4 := B4.size
          have HB4 := hide B4
          clear hdu b3 HNW B4 hs4
          cases FB
          case true =>
            have hyes : ∃ y, withinS (fsts ps) al src (t : Int) y := by
              rcases HH.out with ⟨_, h2⟩ | ⟨h1, _⟩
              · exact h2
              · cases h1
            have N1 := hide ((HOWN.out.below HB4.out (Nat.le_refl _)).wide (Nat.le_refl _) HB4.out.size)
            have N2 := hide (show IsBest (fun to d => to < ((t + 1 : Nat) : Int) ∧ beyondS (fsts ps) al border src to d) (fstsW qs) from by
              have h := HB.out.skip (S := beyondS (fsts ps) al border src) (t := (t : Int)) (fun d hd => by obtain ⟨y, hy⟩ := hyes; exact hd.1 y hy)
              rw [show ((t + 1 : Nat) : Int) = (t : Int) + 1 by omega]
              exact h)
            have N3 := hide (HLS.out.below HB4.out hsz)
            have N4 := hide (hnx.trans (HB4.out.mono hnx.size))
            have N5 := hide (HFR.out.below HB4.out (by omega))
            have hszr : wb.heap.size ≤ w4.heap.size := by omega
            rw [hw4] at N1 N3 N4 N5 hszr
            clear HB4 HS4 hyes HH HOWN HLS HFR hw4
            go_wp2
            go_roundw
            case rel => exact ⟨t + 1, _, qs, by omega, by omega, by go_num, rfl, N1.out, N2, HOFF.out, N3.out, N4.out, N5.out, hszr⟩
            case measure => simp [intOf]; omega
          have hno : ∀ y, ¬ withinS (fsts ps) al src (t : Int) y := by
            rcases HH.out with ⟨h1, _⟩ | ⟨_, h2⟩
            · cases h1
            · exact h2
          have HNO := hide hno
          have BXZ : BoxT (w4.alloc (.cells #[.int .i64 0, .int .i64 0, .slice none 0 0] 93)) w4.heap.size w4.heap.size zeroWD (.slice none 0 0) := ⟨heap_alloc_new _ _, World.ownsRow_nil _ _ _ _, by simp [zeroWD]⟩
          have BWZ : Below w4.heap.size w4 (w4.alloc (.cells #[.int .i64 0, .int .i64 0, .slice none 0 0] 93)) := (Below.refl _ _).alloc (Nat.le_refl _) _
          obtain ⟨wz, hwz⟩ : ∃ W, W = w4.alloc (.cells #[.int .i64 0, .int .i64 0, .slice none 0 0] 93) := ⟨_, rfl⟩
          rw [← hwz] at BXZ BWZ
          have HBX := hide BXZ
          have hlow : wt.heap.size ≤ w4.heap.size := hB4
          clear BXZ hno HH
          go_wp2
          rw [← hw4, show w3.heap.size + 1 = w4.heap.size from HS4.out.symm, ← hwz]
          clear hwz hw4
          go_loopw [18, 17] (fun i f wr => ∃ (k : Nat) (b : WayD) (bv : Value), k ≤ al.length ∧ i = .int .i64 (k : Int) ∧ BoxT wr w4.heap.size w4.heap.size b bv ∧ BestV (t : Int) (someS (fsts ps) (al.take k) border src (t : Int)) b f ∧ Below w4.heap.size w4 wr) (fun i _ _ => al.length - (intOf i).toNat)
          case atStart => exact ⟨0, _, _, by omega, rfl, HBX.out, BestV.of (F := false) (fun d ⟨a, h, _⟩ => by simp at h), BWZ⟩
          case round =>
            obtain ⟨k, b, bv, hk, rfl, hbx, hbv, hbel⟩ := hrel
            clear HBX BWZ
            obtain ⟨F, hf, HBO0⟩ := hbv
            rename_i fv0
            subst hf
            have HBO := hide HBO0
            clear HBO0
            have B4R : Below wt.heap.size wt wr := HB4.out.trans (hbel.mono hlow)
            have BWR : Below w.heap.size w wr := hnx.trans (B4R.mono hnx.size)
            have hzlt := lt_of_heap hbx.box
            obtain ⟨bva, bvc, rfl⟩ := owns_lenS hbx.own
            have hzb := hbx.box
            unfold wayC at hzb
            have e0 := cells_at hzb 0
            have e1 := cells_at hzb 1
            have e2 := cells_at hzb 2
            simp at e0 e1 e2
            by_cases hlt : k < al.length
            · obtain ⟨area, har⟩ : ∃ a, al[k]? = some a := ⟨al[k], List.getElem?_eq_getElem hlt⟩
              obtain ⟨ba, boff, bcap, hvea, hbba, ca⟩ := HA.out.cell k area har
              cases hvea
              rw [← BWR.cell (p := ⟨ba, boff + k, none⟩) (by show ba < w.heap.size; omega)] at ca
              obtain ⟨p, hp, hpw⟩ := HAL.out.at har
              have hls2 := HLS.out.below B4R hsz
              obtain ⟨g, cap', hve, cg, hgb, hgw⟩ := hls2.cell hp
              cases hve
              have hpo := hls2.ways p (List.mem_of_getElem? hp)
              have hki : (0 : Int) ≤ (k : Int) := by omega
              have hkj : (k : Int) < (al.length : Int) := by omega
              have hkl : (k : Int) < (ls.length : Int) := by rw [HAL.out.len]; omega
              have HAR := hide har
              have hskip : byArea border area ∨ ¬ byArea border area := Classical.em _
              rcases hskip with hby | hby
              case inr =>
                have hbt : border = true := by
                  cases border
                  · exact absurd (fun h => by cases h) hby
                  · rfl
                have hne : area ≠ 0 := fun h => hby (fun _ => h)
                have hd : (area != 0) = true := by simpa using hne
                have HN := hide (show BestV (t : Int) (someS (fsts ps) (al.take (k + 1)) border src (t : Int)) b (.bool F) from BestV.of (HBO.out.congr (fun d => by
                  rw [someS_step HAR.out]
                  exact ⟨.inl, by rintro (h | ⟨h, _⟩); exact h; exact absurd h hby⟩)))
                have N1 := hide hbx
                subst hbt
                clear hbx hby hne HBO hzb e0 e1 e2 hp hpw hls2 hpo har
                go_wp2
                go_roundw
                case rel => exact ⟨k + 1, b, _, by omega, by go_num, N1.out, HN.out, hbel⟩
                case measure => simp [intOf]; omega
              have BD : Below wr.heap.size wr wr.drew := (Below.refl _ _).drew
              have HCL := hide (HL7.out p.1 p.2 ws0.heap.size wb.heap.size w4.heap.size area (t : Int) b (.slice bva b.hops.length bvc) F wr.drew (someS (fsts ps) (al.take k) border src (t : Int)) (BWR.trans (BD.mono BWR.size)) (hpo.below BD (by omega)) (by show wb.heap.size ≤ wr.heap.size; omega) hpw HSB.out.symm HBO.out (fun d h => someS_good h) (owns_below hbx.own BD (Nat.le_refl _)) (by show w4.heap.size ≤ wr.heap.size; omega) hbx.len)
              unfold wayC at HCL
              have HST := hide (show ∀ d, (someS (fsts ps) (al.take k) border src (t : Int) d ∨ outS (fsts ps) (fsts ps) area src (t : Int) d) ↔ someS (fsts ps) (al.take (k + 1)) border src (t : Int) d from fun d => by
                rw [someS_step HAR.out]
                exact ⟨by rintro (h | h); exact .inl h; exact .inr ⟨hby, h⟩, by rintro (h | ⟨_, h⟩); exact .inl h; exact .inr h⟩)
              have HBXX := hide hbx
              have HBEL := hide hbel
              have hgz : g ≠ w4.heap.size := by omega
              have hbz : ba ≠ w4.heap.size := by omega
              have hgr2 : g < wr.heap.size := hgw
              have hbr2 : ba < wr.heap.size := by omega
              have hS0 : wr.drew.cell? ⟨g, k, none⟩ = some p.1 ∧ wr.drew.cell? ⟨ba, boff + k, none⟩ = some (.int .i64 area) := ⟨cg, ca⟩
              have e0' : wr.drew.cell? ⟨w4.heap.size, 0, none⟩ = some (.int .i64 b.to) := e0
              have e1' : wr.drew.cell? ⟨w4.heap.size, 1, none⟩ = some (.int .i64 b.cost) := e1
              have e2' : wr.drew.cell? ⟨w4.heap.size, 2, none⟩ = some (.slice bva b.hops.length bvc) := e2
              have harm : ∀ (bd : Bool), bd = border → True := fun _ _ => trivial
              have hda : border = false ∨ (border = true ∧ (area != 0) = false) := by
                cases border
                · exact .inl rfl
                · exact .inr ⟨rfl, by simpa using hby rfl⟩
              clear hbx hby HBO hp hpw hls2 hpo har hzb e0 e1 e2 BD hbel harm
              rcases hda with hbd | ⟨hbd, hdz⟩
              · subst hbd
                go_wp2_with fail
                refine wp_region_noPanic ?_
                refine wp_region_start (S := fun W => W.cell? ⟨g, k, none⟩ = some p.1 ∧ W.cell? ⟨ba, boff + k, none⟩ = some (.int .i64 area)) (by kernel_rfl) 19 rfl hS0 ?_
                intro ops hops hSS
                refine bey_dag _ _ _ _ _ _ _ _ _ _ _ _ _ _ _ _ _ _ _ _ _ _ _ _ _ _ _ _ _ _ _ _ _ _ _ _ _ _ _ _ _ _ _ _ _ _ _ _ _ _ _ _ _ _ _ _ _ _ _ _ _ _ _ _ _ _ _ _ _ _ _ _ _ _ _ _ _ _ _ _ _ _ _ _ _ _ wr.drew _ p.1 (.bool F) g ls.length yc ba boff al.length c2 w4.heap.size k area src (t : Int) b bva b.hops.length bvc (fun W E u fv => BestV (t : Int) (someS (fsts ps) (al.take (k + 1)) false src (t : Int)) E fv ∧ (∃ l, W.ownsRow w4.heap.size 3 1 u l (flat intE E.hops) ∧ l = E.hops.length) ∧ E.hops.length ≤ 6 ∧ Below wr.heap.size wr W) _ ops hops (fun _ _ _ _ h => h) hki hkl hkj hSS e0' e1' e2' hgz hbz (hide (HCL.out.mono ?_)) ?_ ?_ ?_ ?_
                · rintro e w5 ⟨E, u5, fv5, rfl, hb5, ho5, hl5, bl5⟩
                  obtain ⟨ua, uc, rfl⟩ := owns_lenS ho5
                  exact ⟨E, ua, E.hops.length, uc, fv5, rfl, bestV_congr hb5 HST.out, ⟨_, ho5, rfl⟩, hl5, ((Below.refl _ _).drew).trans bl5⟩
                · rintro W E u5 fv5 ⟨_, _, _, hb⟩
                  exact ⟨(hb.cell (p := ⟨g, k, none⟩) hgr2).trans hS0.1, (hb.cell (p := ⟨ba, boff + k, none⟩) hbr2).trans hS0.2⟩
                · rintro W E u5 fv5 ⟨_, _, _, hb⟩
                  have hx := (HBXX.out.below hb).box
                  unfold wayC at hx
                  have y0 := cells_at hx 0
                  have y1 := cells_at hx 1
                  have y2 := cells_at hx 2
                  simp at y0 y1 y2
                  exact ⟨_, _, _, y0, y1, y2⟩
                · rintro W E u5 fv5 ⟨_, _, _, hb⟩ j
                  exact frozen_at (HBXX.out.below hb).box j
                · rintro W E ua ul uc fv5 ⟨hbv5, ⟨l, ho5, hl5⟩, h6, hb⟩
                  refine NoPanic.normal ?_
                  subst hl5
                  obtain ⟨ua2, uc2, he2⟩ := owns_lenS ho5
                  cases he2
                  have N1 := hide ((HBXX.out.below hb).put (d := E) ho5 h6)
                  have N2 := hide hbv5
                  have hwr : w4.heap.size ≤ wr.heap.size := by omega
                  have N3 := hide (((HBEL.out.trans (hb.mono hwr)).grown (grownW3 W w4.heap.size E (.slice ua E.hops.length uc)) (by have := hb.size; omega) (fun j hj => by simp at hj; omega)))
                  clear hops ops hSS HCL HBXX HBEL hbv5 ho5 hb hS0 e0' e1' e2'
                  go_wp2
                  go_roundw
                  case rel => exact ⟨k + 1, E, _, by omega, by go_num, N1.out, N2.out, N3.out⟩
                  case measure => simp [intOf]; omega
              · subst hbd
                go_wp2_with fail
                refine wp_region_noPanic ?_
                refine wp_region_start (S := fun W => W.cell? ⟨g, k, none⟩ = some p.1 ∧ W.cell? ⟨ba, boff + k, none⟩ = some (.int .i64 area)) (by kernel_rfl) 19 rfl hS0 ?_
                intro ops hops hSS
                refine bey_dag _ _ _ _ _ _ _ _ _ _ _ _ _ _ _ _ _ _ _ _ _ _ _ _ _ _ _ _ _ _ _ _ _ _ _ _ _ _ _ _ _ _ _ _ _ _ _ _ _ _ _ _ _ _ _ _ _ _ _ _ _ _ _ _ _ _ _ _ _ _ _ _ _ _ _ _ _ _ _ _ _ _ _ _ _ _ wr.drew _ p.1 (.bool F) g ls.length yc ba boff al.length c2 w4.heap.size k area src (t : Int) b bva b.hops.length bvc (fun W E u fv => BestV (t : Int) (someS (fsts ps) (al.take (k + 1)) true src (t : Int)) E fv ∧ (∃ l, W.ownsRow w4.heap.size 3 1 u l (flat intE E.hops) ∧ l = E.hops.length) ∧ E.hops.length ≤ 6 ∧ Below wr.heap.size wr W) _ ops hops (fun _ _ _ _ h => h) hki hkl hkj hSS e0' e1' e2' hgz hbz (hide (HCL.out.mono ?_)) ?_ ?_ ?_ ?_
                · rintro e w5 ⟨E, u5, fv5, rfl, hb5, ho5, hl5, bl5⟩
                  obtain ⟨ua, uc, rfl⟩ := owns_lenS ho5
                  exact ⟨E, ua, E.hops.length, uc, fv5, rfl, bestV_congr hb5 HST.out, ⟨_, ho5, rfl⟩, hl5, ((Below.refl _ _).drew).trans bl5⟩
                · rintro W E u5 fv5 ⟨_, _, _, hb⟩
                  exact ⟨(hb.cell (p := ⟨g, k, none⟩) hgr2).trans hS0.1, (hb.cell (p := ⟨ba, boff + k, none⟩) hbr2).trans hS0.2⟩
                · rintro W E u5 fv5 ⟨_, _, _, hb⟩
                  have hx := (HBXX.out.below hb).box
                  unfold wayC at hx
                  have y0 := cells_at hx 0
                  have y1 := cells_at hx 1
                  have y2 := cells_at hx 2
                  simp at y0 y1 y2
                  exact ⟨_, _, _, y0, y1, y2⟩
                · rintro W E u5 fv5 ⟨_, _, _, hb⟩ j
                  exact frozen_at (HBXX.out.below hb).box j
                · rintro W E ua ul uc fv5 ⟨hbv5, ⟨l, ho5, hl5⟩, h6, hb⟩
                  refine NoPanic.normal ?_
                  subst hl5
                  obtain ⟨ua2, uc2, he2⟩ := owns_lenS ho5
                  cases he2
                  have N1 := hide ((HBXX.out.below hb).put (d := E) ho5 h6)
                  have N2 := hide hbv5
                  have hwr : w4.heap.size ≤ wr.heap.size := by omega
                  have N3 := hide (((HBEL.out.trans (hb.mono hwr)).grown (grownW3 W w4.heap.size E (.slice ua E.hops.length uc)) (by have := hb.size; omega) (fun j hj => by simp at hj; omega)))
                  clear hops ops hSS HCL HBXX HBEL hbv5 ho5 hb hS0 e0' e1' e2'
                  go_wp2
                  go_roundw
                  case rel => exact ⟨k + 1, E, _, by omega, by go_num, N1.out, N2.out, N3.out⟩
                  case measure => simp [intOf]; omega
            · have hkn : ¬ (k : Int) < (al.length : Int) := by omega
              have HBT := hide (show BestOf (t : Int) (beyondS (fsts ps) al border src (t : Int)) (if F then some b else none) by
                have h := HBO.out
                rw [List.take_of_length_le (by omega)] at h
                exact h.congr (fun d => ⟨fun h => ⟨HNO.out, h⟩, fun h => h.2⟩))
              cases F
              · have N1 := hide ((HOWN.out.below B4R (Nat.le_refl _)).wide (Nat.le_refl _) B4R.size)
                have N2 := hide (show IsBest (fun to d => to < ((t + 1 : Nat) : Int) ∧ beyondS (fsts ps) al border src to d) (fstsW qs) from by
                  have h := HB.out.skip HBT.out
                  rw [show ((t + 1 : Nat) : Int) = (t : Int) + 1 by omega]
                  exact h)
                have N3 := hide (HLS.out.below B4R hsz)
                have N5 := hide (HFR.out.below B4R (by omega))
                have hszr : wb.heap.size ≤ wr.heap.size := by have := B4R.size; omega
                clear hbx HBO HBT hzb e0 e1 e2
                go_wp2
                go_roundw
                case rel => exact ⟨t + 1, _, qs, by omega, by omega, by go_num, rfl, N1.out, N2, HOFF.out, N3.out, BWR, N5.out, hszr⟩
                case measure => simp [intOf]; omega
              · have N2 := hide (show IsBest (fun to d => to < ((t + 1 : Nat) : Int) ∧ beyondS (fsts ps) al border src to d) (fstsW (qs ++ [(b, .slice bva b.hops.length bvc)])) from by
                  have h := HB.out.push HBT.out
                  rw [show ((t + 1 : Nat) : Int) = (t : Int) + 1 by omega]
                  have e : fstsW (qs ++ [(b, .slice bva b.hops.length bvc)]) = fstsW qs ++ [b] := by simp [fstsW]
                  rw [e]
                  exact h)
                have BA : Below wr.heap.size wr (wr.alloc (.cells #[.int .i64 b.to, .int .i64 b.cost, .slice bva b.hops.length bvc] 93)) := (Below.refl _ _).alloc (Nat.le_refl _) _
                have BT : Below wt.heap.size wt (wr.alloc (.cells #[.int .i64 b.to, .int .i64 b.cost, .slice bva b.hops.length bvc] 93)) := B4R.trans (BA.mono (by omega))
                have OW := hide ((owns_below HOWN.out.row B4R (Nat.le_refl _)).alloc (.cells #[.int .i64 b.to, .int .i64 b.cost, .slice bva b.hops.length bvc] 93))
                have HHO := hide (show HopOwn (wr.alloc (.cells #[.int .i64 b.to, .int .i64 b.cost, .slice bva b.hops.length bvc] 93)) wt.heap.size (wr.alloc (.cells #[.int .i64 b.to, .int .i64 b.cost, .slice bva b.hops.length bvc] 93)).heap.size (b, .slice bva b.hops.length bvc) from ⟨owns_baseS (hbx.own.alloc _) hlow, fun k hk => ((hbx.own.alloc _).lt k hk).2⟩)
                have HLS2 := hide (HLS.out.below BT hsz)
                have HNS2 := hide (HFR.out.below BT (by omega))
                have hws := hnx.size
                clear hbx HBO HBT hzb
                go_wp2_with (first
                  | (at_builtin; refine append_struct6 encW_len (by omega) (by omega) _ rfl _ _ 88 rfl w.heap.size 93 Tryd.underlying88 (.agg (wayC zeroWD (.slice none 0 0))) rfl Tryd.infoWay _ qs (b, .slice bva b.hops.length bvc) (encW_one _ _ _ _) rfl OW.out ⟨wr.heap.size, 0, none⟩ 1 rfl (news_struct (cs := encW (b, .slice bva b.hops.length bvc))) (by omega) (by simp; omega) ?_))
                intro v' w6 hown' hgrow hat
                have N1 := hide (HOWN.out.push BT hws HHO.out (by simpa using hown') hgrow)
                have N3 := hide (HLS2.out.keep (fun j h1 h2 h3 => HOFF.out.kept hgrow j (by omega) h2 h3))
                have N6 := hide (HNS2.out.keep (fun j h1 h2 h3 => HOFF.out.kept hgrow j h1 (by omega) h3))
                have N4 := hide ((hnx.trans (BT.mono hws)).grown hgrow (by have := BT.size; omega) (fun j hj => (HOWN.out.row.lt j hj).1))
                have N5 := hide (HOFF.out.next (x' := v') (B := wb.heap.size) (fun j hj => by
                  rcases hat with h1 | h1
                  · exact .inl (by rw [← h1]; exact hj)
                  · right
                    rw [h1] at hj
                    simp at hj
                    omega) (Nat.le_refl _))
                have hszr : wb.heap.size ≤ w6.heap.size := by have := BT.size; have := hgrow.size; omega
                obtain ⟨va, vc, rfl⟩ := owns_lenS hown'
                clear hown' hgrow hat BT OW HHO HLS2 HNS2 BA
                go_wp2
                go_roundw
                case rel => exact ⟨t + 1, _, qs ++ [(b, .slice bva b.hops.length bvc)], by omega, by omega, by go_num, rfl, N1.out, N2, N5.out, N3.out, N4.out, N6.out, hszr⟩
                case measure => simp [intOf]; omega
        · have ht6 : ¬ (t : Int) ≤ 6 := by omega
          have HE := hide (show IsBest (beyondS (fsts ps) al border src) (fstsW qs) from HB.out.congr (fun to d => ⟨fun h => h.2, fun h => ⟨by have h3 := beyondS_good h; have := h3.1.node; rw [h3.2] at this; omega, h⟩⟩))
          have HO := hide hown
          have HN := hide hnx
          clear hown hnx HB hoff hls hfr
          go_wp2
          go_ret
          first
            | exact ⟨_, qs, rfl, HE.out, HO.out, HN.out⟩
            | exact ⟨_, rfl, qs, HE.out, HO.out, HN.out⟩
end Go.Proofs.YthmmpmbnpfhloaaDoor
