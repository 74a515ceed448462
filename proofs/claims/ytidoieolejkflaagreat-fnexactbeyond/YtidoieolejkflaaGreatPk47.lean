/-
  impl.RoutesBeyond: its contract.
  slices.Insert at lists of records, one record put in: its three roads.
-/
import Derived.Test.YtidoieolejkflaaGreatPk36
import Derived.Test.YtidoieolejkflaaGreatPk30
import Derived.Test.YtidoieolejkflaaGreatPk20
import Derived.Maps.AppendAt
namespace Go.Proofs.YtidoieolejkflaaGreat
open Go.RowKit

set_option linter.unusedSimpArgs false

/-- the ways beyond, to nodes that are not within, by some areas -/
def byS (xs : List RecD) (al L : List Int) (src to : Int) (d : WayD) : Prop := (∀ y, ¬ withinS xs al src to y) ∧ ∃ a ∈ L, outS xs xs a src to d

theorem byS_good {xs : List RecD} {al L : List Int} {src to : Int} {d : WayD} (h : byS xs al L src to d) : GoodW d ∧ d.to = to := by
  obtain ⟨_, a, _, h2⟩ := h
  exact outS_good (fun _ h => h) h2

theorem byS_step {xs : List RecD} {al L : List Int} {src to a : Int} {k : Nat} (h : L[k]? = some a) (d : WayD) : byS xs al (L.take (k + 1)) src to d ↔ byS xs al (L.take k) src to d ∨ ((∀ y, ¬ withinS xs al src to y) ∧ outS xs xs a src to d) := by
  obtain ⟨hk, e⟩ := List.getElem?_eq_some_iff.1 h
  unfold byS
  rw [List.take_succ_eq_append_getElem hk, e]
  constructor
  · rintro ⟨h0, b, h2, h3⟩
    rcases List.mem_append.1 h2 with h5 | h5
    · exact .inl ⟨h0, b, h5, h3⟩
    · have : b = a := by simpa using h5
      subst this
      exact .inr ⟨h0, h3⟩
  · rintro (⟨h0, b, h2, h3⟩ | ⟨h0, h3⟩)
    · exact ⟨h0, b, List.mem_append.2 (.inl h2), h3⟩
    · exact ⟨h0, a, List.mem_append.2 (.inr (by simp)), h3⟩

theorem byS_all {xs : List RecD} {al : List Int} {border : Bool} {src : Int} (to : Int) (d : WayD) : byS xs al (outAreas al border) src to d ↔ beyondS xs al border src to d := by
  constructor
  · rintro ⟨h0, a, h2, h3⟩
    have h4 := outAreas_mem.1 h2
    exact ⟨h0, a, h4.1.1, h4.2, h3⟩
  · rintro ⟨h0, a, h2, h3, h4⟩
    have h5 := outS_area h4
    exact ⟨h0, a, outAreas_mem.2 ⟨⟨h2, h5.2.1, h5.2.2⟩, h3⟩, h4⟩

/-- what wayTo tells of the ways within -/
theorem within_has {xs : List RecD} {al : List Int} {src : Int} {ds : List WayD} (h : IsBest (withinS xs al src) ds) (to : Int) : (wayToB ds to = true ∧ ∃ y, withinS xs al src to y) ∨ (wayToB ds to = false ∧ ∀ y, ¬ withinS xs al src to y) := by
  have hb := h.2 to
  rcases wayTo_find ds to with ⟨h1, h2⟩ | ⟨h1, h2⟩
  · rw [h2] at hb
    obtain ⟨_, ⟨y, hy, _⟩, _⟩ := hb
    exact .inl ⟨h1, y, hy⟩
  · rw [h2] at hb
    exact .inr ⟨h1, hb⟩

theorem best_tot {S : Int → WayD → Prop} {qs : List WP} (h : IsBest S (fstsW qs)) (hS : ∀ to w, S to w → GoodW w ∧ w.to = to) : totW qs ≤ 42 :=
  good_tot (by have h2 := asc_tos h.1 (fun d hd => (h.good hS d hd).node); simpa [fstsW] using h2) (fun d hd => (h.good hS d hd).len)

set_option maxRecDepth 100000 in
set_option maxHeartbeats 8000000 in
theorem ibeyond_any (v u : Value) (ps : List RP) (al : List Int) (hi : Nat) (border : Bool) (src : Int) (w : World) (hv : RecsIn w hi v ps) (ha : HopsAt w u al hi) (hhi : hi ≤ w.heap.size) (hn : tot ps ≤ 1048576) (hal : al.length ≤ 1048576) :
    Calls Tryz.prog 17 #[v, u, .bool border, .int .i64 src] w fun e w' => ∃ x qs, e = .returned x ∧ IsBest (beyondS (fsts ps) al border src) (fstsW qs) ∧ WaysOwn w' w.heap.size w'.heap.size x qs ∧ Below w.heap.size w w' := by
  have hnl := tot_len ps
  obtain ⟨a1, c1, rfl⟩ := owns_lenS hv.row
  obtain ⟨a2, c2, rfl⟩ := ha.shape
  have HWI := hide (iwithin_any (.slice a1 ps.length c1) (.slice a2 al.length c2) ps al hi src w hv ha hhi hn hal)
  have HAO := hide (fun W (hb : Below w.heap.size w W) => areasOut_any (.slice a2 al.length c2) al border hi W hal (RowAt.later ha hb hhi) (Nat.le_trans hhi hb.size))
  have HWO := hide (fun area W (hb : Below w.heap.size w W) => waysOut_any (.slice a1 ps.length c1) ps hi area src W (hv.below hb hhi) (Nat.le_trans hhi hb.size) hn)
  clear hv ha
  obtain ⟨L, hL⟩ : ∃ L, L = outAreas al border := ⟨_, rfl⟩
  have hLl : L.length ≤ 3 := by rw [hL]; exact outAreas_len al border
  have HFIN := hide (show ∀ to d, byS (fsts ps) al L src to d ↔ beyondS (fsts ps) al border src to d from fun to d => by rw [hL]; exact byS_all to d)
  rw [← hL] at HAO
  clear hL
  go_enter Tryz.func17, Tryz.ntmps17
  go_wp2_with fail
  refine HWI.out.mono ?_
  rintro e w1 ⟨uw, ws, rfl, hbw, how, b1⟩
  obtain ⟨wsa, wsc, rfl⟩ := owns_lenS how.row
  have hb1 := b1.size
  have hwt : totW ws ≤ 1048576 := by have := best_tot hbw (fun to d h => withinS_good h); omega
  have HWT := hide (fun (z : Int) (W : World) (hb : Below w1.heap.size w1 W) => iwayTo_any (.slice wsa ws.length wsc) ws w.heap.size w1.heap.size z W (how.below hb (Nat.le_refl _)) hb.size hwt)
  have HHAS := hide (fun to => within_has hbw to)
  have BX : Below w1.heap.size w1 (w1.alloc (.cells #[] 46)) := (Below.refl _ _).alloc (Nat.le_refl _) _
  have LIT := lit_own w1 w1.heap.size (Nat.le_refl _)
  have hs0 : (w1.alloc (.cells #[] 46)).heap.size = w1.heap.size + 1 := by simp
  obtain ⟨w0, hw0⟩ : ∃ W, W = w1.alloc (.cells #[] 46) := ⟨_, rfl⟩
  rw [← hw0] at BX LIT hs0
  have BX0 : Below w.heap.size w w0 := b1.trans (BX.mono hb1)
  have HLIT := hide LIT
  have HS0 := hide hs0
  clear LIT hs0 HWI how hbw hwt
  go_wp2_with fail
  rw [← hw0]
  clear hw0
  refine (HAO.out _ BX0).mono ?_
  rintro e w2 ⟨ra, rfl, hra, b2⟩
  obtain ⟨raa, rac, rfl⟩ := owns_lenS hra.row
  have b2s := b2.size
  have hx0 := BX.size
  have B2 : Below w1.heap.size w1 w2 := BX.trans (b2.mono hx0)
  have HO1 := hide ((HLIT.out.below b2 (Nat.le_refl _)).wide (Nat.le_refl _) b2s)
  have HRA := hide hra
  clear hra HLIT HAO b2
  go_wp2
  go_loopw [26, 10] (fun i o wr => ∃ (k : Nat) (x : Value) (qs : List WP), k ≤ L.length ∧ i = .int .i64 (k : Int) ∧ o = x ∧ WaysOwn wr w1.heap.size wr.heap.size x qs ∧ Hid (IsBest (byS (fsts ps) al (L.take k) src) (fstsW qs)) ∧ Off x w0.heap.size w2.heap.size ∧ IntsOwn wr w0.heap.size w2.heap.size (.slice raa L.length rac) L ∧ Below w1.heap.size w1 wr ∧ w2.heap.size ≤ wr.heap.size) (fun i _ _ => L.length - (intOf i).toNat)
  case atStart => exact ⟨0, _, [], by omega, rfl, rfl, HO1.out, hide (isBest_none (fun to d ⟨_, a, h, _⟩ => by simp at h)), fun b hb => by simp [Value.ownBlock] at hb; have := HS0.out; omega, HRA.out, B2, Nat.le_refl _⟩
  case round =>
    obtain ⟨k, x, qs, hk, rfl, rfl, hown, HB, hoff, hra, hnx, hsz⟩ := hrel
    clear HO1 HRA B2
    obtain ⟨xa, xc, rfl⟩ := owns_lenS hown.row
    rename World => wa
    have BWA : Below w.heap.size w wa := b1.trans (hnx.mono hb1)
    by_cases hlt : k < L.length
    · obtain ⟨area, har⟩ : ∃ a, L[k]? = some a := ⟨L[k], List.getElem?_eq_getElem hlt⟩
      obtain ⟨b, off, cap', hve, hbb, c0⟩ := hra.at.cell k area har
      cases hve
      have hki : (0 : Int) ≤ (k : Int) := by omega
      have hkj : (k : Int) < (L.length : Int) := by omega
      have HOWN := hide hown
      have HOFF := hide hoff
      have HRA := hide hra
      have HAR := hide har
      clear hown hoff hra har
      go_wp2_with fail
      refine (HWO.out area _ BWA).mono ?_
      rintro e w3 ⟨uo, os, rfl, hos, hol, hoo, b3⟩
      obtain ⟨osa, osc, rfl⟩ := owns_lenS hoo.row
      have hb3 := b3.size
      have ST0 := PutSt.start HOWN.out HB.out HOFF.out hsz hnx.size b3 hoo
      have RA3 := HRA.out.below b3 hsz
      have B3 : Below w1.heap.size w1 w3 := hnx.trans (b3.mono hnx.size)
      have HOS := hide (show ∀ d, d ∈ fstsW os ↔ ∃ r ∈ fsts ps, tellsOf (fsts ps) area src r d from fun d => by
        have h := hos d
        rw [List.take_of_length_le (by simp [fsts])] at h
        exact h)
      have HST0 := hide ST0
      have HRA3 := hide RA3
      clear hos hoo ST0 RA3 HOWN HOFF HRA HB b3
      go_wp2
      go_loopw [35, 10] (fun i o wr => ∃ (j : Nat) (x : Value) (qs : List WP), j ≤ os.length ∧ i = .int .i64 (j : Int) ∧ o = x ∧ PutSt wr w1.heap.size w0.heap.size w2.heap.size wa.heap.size w3.heap.size (fun to d => byS (fsts ps) al (L.take k) src to d ∨ ((∀ y, ¬ withinS (fsts ps) al src to y) ∧ d.to = to ∧ d ∈ (fstsW os).take j)) x qs (.slice osa os.length osc) os j ∧ IntsOwn wr w0.heap.size w2.heap.size (.slice (some ⟨b, off, none⟩) L.length rac) L ∧ Below w1.heap.size w1 wr ∧ w3.heap.size ≤ wr.heap.size) (fun i _ _ => os.length - (intOf i).toNat)
      case atStart => exact ⟨0, _, qs, by omega, rfl, rfl, { HST0.out with best := HST0.out.best.congr (fun to d => ⟨.inl, by rintro (h | ⟨_, _, h⟩); exact h; simp at h⟩) }, HRA3.out, B3, Nat.le_refl _⟩
      case round =>
        obtain ⟨j, y, qs2, hj, rfl, rfl, st, hra2, hnx2, hsz2⟩ := hrel
        clear HST0 HRA3 B3
        obtain ⟨ya, yc, rfl⟩ := owns_lenS st.own.row
        have hgd0 : ∀ d ∈ fstsW os, GoodW d := fun d hd => by
          obtain ⟨r, hr, ht⟩ := (HOS.out d).1 hd
          exact tellsOf_good hr ht
        have hS : ∀ to d, (byS (fsts ps) al (L.take k) src to d ∨ ((∀ y, ¬ withinS (fsts ps) al src to y) ∧ d.to = to ∧ d ∈ (fstsW os).take j)) → GoodW d ∧ d.to = to := by
          rintro to d (h | ⟨_, h1, h2⟩)
          · exact byS_good h
          · exact ⟨hgd0 d (List.mem_of_mem_take h2), h1⟩
        by_cases hjl : j < os.length
        · obtain ⟨r, hr⟩ : ∃ r, os[j]? = some r := ⟨os[j], List.getElem?_eq_getElem hjl⟩
          obtain ⟨bo, offo, cpo, hve, hbbo, c0, c1, c2, _⟩ := st.from_.at.cells j r hr
          cases hve
          have hgr : GoodW r.1 := hgd0 r.1 (by simp only [fstsW, List.mem_map]; exact ⟨r, List.mem_of_getElem? hr, rfl⟩)
          have hji : (0 : Int) ≤ (j : Int) := by omega
          have hjj : (j : Int) < (os.length : Int) := by omega
          obtain ⟨rra, rrc, hrn⟩ := owns_lenS (st.from_.nears r (List.mem_of_getElem? hr)).1
          rw [hrn] at c2
          have hgd := st.good hS
          have BA : Below wr.heap.size wr (wr.alloc (.cells #[.int .i64 r.1.to, .int .i64 r.1.cost, .slice rra r.1.hops.length rrc] 46)) := (Below.refl _ _).alloc (Nat.le_refl _) _
          have hxb := heap_alloc_new wr (.cells #[.int .i64 r.1.to, .int .i64 r.1.cost, .slice rra r.1.hops.length rrc] 46)
          obtain ⟨w4, hw4⟩ : ∃ W, W = wr.alloc (.cells #[.int .i64 r.1.to, .int .i64 r.1.cost, .slice rra r.1.hops.length rrc] 46) := ⟨_, rfl⟩
          rw [← hw4] at BA hxb
          have hs4 := BA.size
          have hl4 := lt_of_heap hxb
          have HW := HWT.out r.1.to w4 (hnx2.trans (BA.mono hnx2.size))
          have hh := HHAS.out r.1.to
          obtain ⟨D, hD⟩ : ∃ D, D = wayToD (fstsW ws) r.1.to := ⟨_, rfl⟩
          obtain ⟨FB, hFB⟩ : ∃ F, F = wayToB (fstsW ws) r.1.to := ⟨_, rfl⟩
          rw [← hD, ← hFB] at HW
          rw [← hFB] at hh
          have HWW := hide HW
          have HH := hide hh
          have HST := hide st
          have HRX := hide hra2
          have HRR := hide hr
          have HRN := hide hrn
          have HGD := hide hgd
          have HGR := hide hgr
          have HSS := hide hS
          have HXB := hide hxb
          have HBA := hide BA
          unfold wayC at HWW
          clear HW hh st hra2 hr hrn hgd hgr hS hxb BA hgd0 hD hFB
          go_wp2_with fail
          rw [← hw4]
          clear hw4
          refine HWW.out.mono ?_
          rintro e w5 ⟨du, rfl, hdu, b5⟩
          obtain ⟨da, dc, rfl⟩ := owns_lenS hdu
          have hb5 := b5.size
          have BC : Below w5.heap.size w5 (w5.alloc (.cells #[.int .i64 D.to, .int .i64 D.cost, .slice da D.hops.length dc] 46)) := (Below.refl _ _).alloc (Nat.le_refl _) _
          have hxb5 := (b5.block _ hl4).trans HXB.out
          have hxb6 := (BC.block _ (lt_of_heap hxb5)).trans hxb5
          have d0 := cells_at hxb6 0
          have d1 := cells_at hxb6 1
          have d2 := cells_at hxb6 2
          simp at d0 d1 d2
          obtain ⟨w6, hw6⟩ : ∃ W, W = w5.alloc (.cells #[.int .i64 D.to, .int .i64 D.cost, .slice da D.hops.length dc] 46) := ⟨_, rfl⟩
          rw [← hw6] at BC
          have B6 : Below wr.heap.size wr w6 := HBA.out.trans ((b5.mono hs4).trans (BC.mono (by omega)))
          have st6 := HST.out.below B6
          have ra6 := HRX.out.below B6 (by omega)
          have N6 : Below w1.heap.size w1 w6 := hnx2.trans (B6.mono hnx2.size)
          have hs6 := B6.size
          clear hdu b5 BC hxb5 hxb6 HST HRX HWW HXB HBA B6
          cases FB
          · have hno : ∀ y, ¬ withinS (fsts ps) al src r.1.to y := by
              rcases HH.out with ⟨h1, _⟩ | ⟨_, h2⟩
              · cases h1
              · exact h2
            have hT : ∀ to d, ((byS (fsts ps) al (L.take k) src to d ∨ ((∀ y, ¬ withinS (fsts ps) al src to y) ∧ d.to = to ∧ d ∈ (fstsW os).take j)) ∨ (d = r.1 ∧ r.1.to = to)) ↔ (byS (fsts ps) al (L.take k) src to d ∨ ((∀ y, ¬ withinS (fsts ps) al src to y) ∧ d.to = to ∧ d ∈ (fstsW os).take (j + 1))) := by
              intro to d
              rw [take_mem_step (fstsW_at HRR.out)]
              constructor
              · rintro ((h | ⟨h0, h1, h2⟩) | ⟨h1, h2⟩)
                · exact .inl h
                · exact .inr ⟨h0, h1, .inl h2⟩
                · exact .inr ⟨by rw [← h2]; exact hno, by rw [h1]; exact h2, .inr h1⟩
              · rintro (h | ⟨h0, h1, h2 | h2⟩)
                · exact .inl (.inl h)
                · exact .inl (.inr ⟨h0, h1, h2⟩)
                · exact .inr ⟨h2, by rw [← h2]; exact h1⟩
            have HPW := putWay_any (.slice ya qs2.length yc) qs2 w1.heap.size r w6 st6.own N6.size (by have := HGD.out; omega) (fun p hp => by have := HGD.out.2 p hp; omega) (by have := HGR.out.len; omega) st6.best.1 (st6.hop HRR.out) (st6.apartR HRR.out)
            unfold wayC at HPW
            rw [HRN.out] at HPW
            have HNX := hide (fun (W' : World) (x' : Value) (qs' : List WP) (hp : PutD (fstsW qs2) r.1 (fstsW qs')) (ho : WaysOwn W' w1.heap.size W'.heap.size x' qs') (hf : FromPut w6.heap.size qs2 r qs') hn (hg : w6.grownBy W' (Value.slice ya qs2.length yc).ownBlock) => (⟨st6.put HRR.out HSS.out HGR.out hT hp ho hf hn hg, ra6.keep (st6.offR.kept hg), N6.grown hg N6.size (fun b hb => (st6.own.row.lt b hb).1), hg.size⟩ : _ ∧ _ ∧ _ ∧ _))
            have HP := hide HPW
            clear HPW hT hno HH HRR HRN HGD HGR HSS st6 ra6 N6
            go_wp2_with fail
            rw [← hw6]
            clear hw6
            refine HP.out.mono ?_
            rintro e w7 ⟨x', qs', rfl, hp, ho, hf, hn', hg⟩
            obtain ⟨n1, n2, n3, n4⟩ := HNX.out w7 x' qs' hp ho hf hn' hg
            obtain ⟨x'a, x'c, rfl⟩ := owns_lenS ho.row
            have N1 := hide n1
            have N2 := hide n2
            have N3 := hide n3
            clear n1 n2 n3 hp ho hf hn' hg HNX HP
            go_wp2
            go_roundw
            case rel => exact ⟨j + 1, _, qs', by omega, by go_num, rfl, N1.out, N2.out, N3.out, by omega⟩
            case measure => simp [intOf]; omega
          · have hyes : ∃ y, withinS (fsts ps) al src r.1.to y := by
              rcases HH.out with ⟨_, h2⟩ | ⟨h1, _⟩
              · exact h2
              · cases h1
            have N1 := hide (st6.pass HRR.out (T := fun to d => byS (fsts ps) al (L.take k) src to d ∨ ((∀ y, ¬ withinS (fsts ps) al src to y) ∧ d.to = to ∧ d ∈ (fstsW os).take (j + 1))) (fun to d => by
              rw [take_mem_step (fstsW_at HRR.out)]
              constructor
              · rintro (h | ⟨h0, h1, h2⟩)
                · exact .inl h
                · exact .inr ⟨h0, h1, .inl h2⟩
              · rintro (h | ⟨h0, h1, h2 | h2⟩)
                · exact .inl h
                · exact .inr ⟨h0, h1, h2⟩
                · obtain ⟨y, hy⟩ := hyes
                  exact absurd (by rw [← h1, h2]; exact hy) (h0 y)))
            have N2 := hide ra6
            have N3 := hide N6
            have hsf : w3.heap.size ≤ w6.heap.size := by omega
            rw [hw6] at N1 N2 N3 hsf
            clear st6 ra6 N6 hyes HH HRR HRN HGD HGR HSS hw6
            go_wp2
            go_roundw
            case rel => exact ⟨j + 1, _, qs2, by omega, by go_num, rfl, N1.out, N2.out, N3.out, hsf⟩
            case measure => simp [intOf]; omega
        · have hjn : ¬ (j : Int) < (os.length : Int) := by omega
          have HBX := hide (show IsBest (byS (fsts ps) al (L.take (k + 1)) src) (fstsW qs2) from st.best.congr (fun to d => by
            rw [byS_step HAR.out, show (fstsW os).take j = fstsW os from List.take_of_length_le (by simp [fstsW]; omega), HOS.out]
            rfl))
          have HOX := hide st.own
          have HFX := hide st.offR
          have HRX := hide hra2
          have HNX := hide hnx2
          have hsf : w2.heap.size ≤ wr.heap.size := by omega
          clear st hra2 hnx2 hS hgd0
          go_wp2
          go_roundw
          case rel => exact ⟨k + 1, _, qs2, by omega, by go_num, rfl, HOX.out, HBX, HFX.out, HRX.out, HNX.out, hsf⟩
          case measure => simp [intOf]; omega
    · have hkn : ¬ (k : Int) < (L.length : Int) := by omega
      have HE := hide (show IsBest (beyondS (fsts ps) al border src) (fstsW qs) from by
        have h := HB.out
        rw [List.take_of_length_le (by omega)] at h
        exact h.congr HFIN.out)
      have HO := hide (hown.wide (lo' := w.heap.size) hb1 (Nat.le_refl _))
      have HN := hide BWA
      clear hown hnx HB hoff hra BWA
      go_wp2
      go_ret
      first
        | exact ⟨_, qs, rfl, HE.out, HO.out, HN.out⟩
        | exact ⟨_, rfl, qs, HE.out, HO.out, HN.out⟩
end Go.Proofs.YtidoieolejkflaaGreat
namespace Go.Proofs.YtidoieolejkflaaGreat
open Go.RowKit

set_option linter.unusedSimpArgs false
set_option linter.unusedVariables false

set_option maxRecDepth 100000 in
set_option maxHeartbeats 4000000 in
theorem insC_shift (base g cap n m i vb : Nat) (ps : List RP) (r : RP) (w : World) (hnp : n = ps.length) (hm : m = 1) (hrow : w.ownsRow base 71 8 (.slice (some ⟨g, 0, none⟩) n cap) n (flat encP ps)) (hi : i < n) (hroom : n + m ≤ cap)
    (hvb : w.heap[vb]? = some (.cells (encP r).toArray 71 (0, 0))) (hne : vb ≠ g) (hone : ∀ p ∈ ps, ∃ a k c, p.2 = .slice a k c) (hr1 : ∀ u ∈ encP r, u.oneCell' = true) :
    Calls Tryz.prog 122 #[.slice (some ⟨g, 0, none⟩) n cap, .int .i64 (i : Int), .slice (some ⟨vb, 0, none⟩) m 1] w fun e w' => ∃ v, e = .returned v ∧ w'.ownsRow base 71 8 v (n + m) (flat encP (ps.take i ++ [r] ++ ps.drop i)) ∧ w.grownBy w' (some g) ∧ (v.ownBlock = some g ∨ v.ownBlock = some w.heap.size) := by
  have hnl : (flat encP ps).length = n * 8 := hrow.1
  have hui := Tryz.underlying102
  have hus := Tryz.underlying31
  obtain ⟨i0, hi0, hz0, hzs, hzb⟩ := info_parts Tryz.infoRec
  have hsz : (Tryz.prog.info? 71).map (·.size) = some 8 := by rw [hi0]; simp [hzs]

  rcases hrow.2 with ⟨h0, _⟩ | ⟨g', cap', cur, hv, hbg, hg, hnc, hcm, hcs, htk⟩
  · simp at h0
  simp at hv
  obtain ⟨rfl, rfl⟩ := hv
  have hmx : maxLen = 9223372036854775807 ∨ maxLen ≤ 9223372036854775807 := by unfold maxLen; omega
  have hc63 : cap ≤ 9223372036854775807 := by omega
  have hD : (flat encP (ps.drop i)).length = (n - i) * 8 := by rw [flat_len encP_len, List.length_drop, ← hnp]
  have hclen : cur.toList.length = cap * 8 := by simpa using hcs
  have hRl : (encP r).length = 8 := encP_len r
  have hov : ∀ lb cb, (callFunc 147 #[.slice (some ⟨vb, 0, none⟩) m 1, .slice (some ⟨g, (i + m) * 8, none⟩) lb cb]).run Tryz.prog w = .ok (.value (.bool false)) w := fun lb cb => by
    rw [run_callFunc_extern Tryz.func147 (by kernel_rfl) (by kernel_rfl) (by kernel_rfl) (e := Extern.SlicesOverlaps.overlaps #[31, 31] #[4]) (by kernel_rfl),
      Lib.run_overlaps_apart w 31 4 71 hus 8 (by intro w; simp [Go.sizeOf, typeInfo, hi0, hzs]) ⟨vb, 0, none⟩ ⟨g, (i + m) * 8, none⟩ m 1 lb cb hne 71 71 8 cur.size (by simp [World.shape?, hvb, hRl]) (by simp [World.shape?, hg]) (by omega) (frozen_at hvb 0) (frozen_at hvb 8)]
    rfl
  have hcell : ∀ (W : World), W.heap = w.heap → ∀ j u, (flat encP (ps.drop i))[j]? = some u → W.cell? ((⟨g, i * 8, none⟩ : Addr).add j) = some u := fun W hW j u hj => by
    rw [add8]
    simp only [World.cell?, hW, hg]
    rw [← flat_drop ps i (by omega), ← htk, List.getElem?_drop] at hj
    have h2 : i * 8 + j < n * 8 := by
      have h3 := (List.getElem?_eq_some_iff.1 hj).1
      rw [List.length_take] at h3
      omega
    rw [List.getElem?_take_of_lt h2] at hj
    simpa using hj
  have hcp1 : ∀ (W : World), W.heap = w.heap → ∀ ty dc sc, (Builtin.copy_ #[102, 102] ty #[.slice (some ⟨g, (i + m) * 8, none⟩) (n + m - (i + m)) dc, .slice (some ⟨g, i * 8, none⟩) (n + m - i) sc]).run Tryz.prog W = .ok (goInt (Nat.min (n + m - i) (n + m - (i + m)))) (W.setRow g (cur.toList.take ((i + m) * 8) ++ flat encP (ps.drop i) ++ cur.toList.drop ((i + m) * 8 + (flat encP (ps.drop i)).length)).toArray) := fun W hW ty dc sc =>
    run_copy_rowS W 102 102 ty 71 g ((i + m) * 8) (n + m - (i + m)) dc ⟨g, i * 8, none⟩ (n + m - i) sc 8 cur 71 (flat encP (ps.drop i)) hui hsz (by rw [hW]; exact hg)
      (by rw [hD]; congr 1; have : Nat.min (n + m - i) (n + m - (i + m)) = n + m - (i + m) := Nat.min_eq_right (by omega); omega) (hcell W hW) (by rw [hD]; omega) (flat_oneCell _ (fun p hp => hone p (List.mem_of_mem_drop hp)))
  obtain ⟨c1, hc1⟩ : ∃ c1, c1 = cur.toList.take ((i + m) * 8) ++ flat encP (ps.drop i) ++ cur.toList.drop ((i + m) * 8 + (flat encP (ps.drop i)).length) := ⟨_, rfl⟩
  rw [← hc1] at hcp1
  have hc1l : c1.length = cap * 8 := by rw [hc1]; simp only [List.length_append, List.length_take, List.length_drop, hclen, hD]; omega
  have hcp2 : ∀ (W : World), W.heap = (w.setRow g c1.toArray).heap → ∀ ty dc, (Builtin.copy_ #[102, 31] ty #[.slice (some ⟨g, i * 8, none⟩) (n + m - i) dc, .slice (some ⟨vb, 0, none⟩) m 1]).run Tryz.prog W = .ok (goInt (Nat.min m (n + m - i))) (W.setRow g (c1.take (i * 8) ++ encP r ++ c1.drop (i * 8 + (encP r).length)).toArray) := fun W hW ty dc => by
    have h := run_copy_rowS (P := Tryz.prog) W 102 31 ty 71 g (i * 8) (n + m - i) dc ⟨vb, 0, none⟩ m 1 8 c1.toArray 71 (encP r) hui hsz (by rw [hW]; exact setRow_heap w g cur _ 71 _ hg)
      (by rw [hRl]; have : Nat.min m (n + m - i) = m := Nat.min_eq_left (by omega); omega) (fun j u hj => by
        rw [add8]
        simp only [World.cell?, hW]
        rw [setRow_other w g vb _ hne, hvb]
        simpa using hj) (by rw [hRl]; simp only [List.size_toArray, hc1l]; omega) hr1
    simpa using h
  have hfin : c1.take (i * 8) ++ encP r ++ c1.drop (i * 8 + (encP r).length) = flat encP (ps.take i) ++ encP r ++ flat encP (ps.drop i) ++ cur.toList.drop (i * 8 + 8 + (n - i) * 8) := by
    have h := seg_len cur.toList (flat encP (ps.drop i)) (encP r) (i * 8) ((n - i) * 8) hD hRl (by omega)
    rw [show i * 8 + 8 = (i + m) * 8 by omega, ← hc1] at h
    rw [h]
    congr 3
    · rw [← flat_take ps i (by omega), ← htk, List.take_take, Nat.min_eq_left (by omega)]
    · omega
  have hdone : ∀ W : World, W.heap = ((w.setRow g c1.toArray).setRow g (c1.take (i * 8) ++ encP r ++ c1.drop (i * 8 + (encP r).length)).toArray).heap → W.os = w.os → W.tape = w.tape → W.output = w.output → W.ownsRow base 71 8 (.slice (some ⟨g, 0, none⟩) (n + m) cap) (n + m) (flat encP (ps.take i ++ [r] ++ ps.drop i)) ∧ w.grownBy W (some g) ∧ ((Value.slice (some ⟨g, 0, none⟩) (n + m) cap).ownBlock = some g ∨ (Value.slice (some ⟨g, 0, none⟩) (n + m) cap).ownBlock = some w.heap.size) := by
    intro W hW h1 h2 h3
    have hAl : (flat encP (ps.take i)).length = i * 8 := by rw [flat_len encP_len, List.length_take, Nat.min_eq_left (by omega)]
    refine ⟨⟨?_, .inr ⟨g, cap, (flat encP (ps.take i) ++ encP r ++ flat encP (ps.drop i) ++ cur.toList.drop (i * 8 + 8 + (n - i) * 8)).toArray, rfl, hbg, ?_, hroom, hcm, ?_, ?_⟩⟩, ⟨h1, h2, h3, ?_, ?_⟩, .inl rfl⟩
    · rw [flat_len encP_len, ins_len ps r i (by omega)]; omega
    · rw [hW, hfin]
      exact setRow_heap _ g c1.toArray _ 71 _ (setRow_heap w g cur _ 71 _ hg)
    · simp only [List.size_toArray, List.length_append, List.length_drop, hclen, hD, hRl, hAl]; omega
    · rw [flat_ins]
      exact take_of_parts (by rw [hAl, hRl, hD]; omega)
    · rw [hW]; simp
    · intro k _ hk
      have hkg : k ≠ g := fun e => hk (by rw [e])
      rw [hW, setRow_other _ g k _ hkg, setRow_other _ g k _ hkg]
  have hz1 : ¬ ((m : Int) = 0) := by omega
  have hz2 : ¬ ((i : Int) = (n : Int)) := by omega
  have hw1 : IntKind.i64.wrap ((i : Int) + (m : Int)) = (i : Int) + (m : Int) := by rw [IntKind.wrap_i64]; omega
  have hw2 : IntKind.i64.wrap ((n : Int) + (m : Int)) = (n : Int) + (m : Int) := by rw [IntKind.wrap_i64]; omega
  have hb1 : (0 : Int) ≤ (i : Int) + (m : Int) := by omega
  have hin : i ≤ n := by omega
  have htn : ((i : Int) + (m : Int)).toNat = i + m := by omega
  have htn2 : ((n : Int) + (m : Int)).toNat = n + m := by omega
  have hb2 : ¬ (cap = i + m) := by omega
  have hb3 : (i : Int) ≤ (n : Int) + (m : Int) := by omega
  have hb4 : ¬ (cap = i) := by omega
  have hb5 : ¬ ((cap : Int) < (n : Int) + (m : Int)) := by omega
  have HD := hide hdone
  have HC1 := hide (hcp1 w.drew rfl)
  have mixed : Tryz.prog.follows .mixedOrders = true := by kernel_rfl
  have HC2 := hide (hcp2 (w.drew.setRow g c1.toArray) rfl)
  have HOV := hide hov
  clear hdone hcp1 hcp2 hfin hc1 hcell hD hclen hRl hnl hov hc1l htk hcs hg hrow hvb hone hr1 hmx hsz hi0 hz0 hzs hzb hm hnp
  go_enter Tryz.func122, Tryz.ntmps122
  go_wp2_with (simp only [HOV.out])
  go_region_law_o (refine step_copy_runI rfl _ _ 102 102 rfl (.slice (some ⟨g, (i + m) * 8, none⟩) (n + m - (i + m)) (cap - (i + m))) (.slice (some ⟨g, i * 8, none⟩) (n + m - i) (cap - i)) (by simp [Act.eval, Act.put]) (by simp [Act.eval, Act.put]) (HC1.out 3 (cap - (i + m)) (cap - i)) ?_)
  go_wp2_with (refine wpList_copy_runI _ rfl _ _ 102 31 rfl (.slice (some ⟨g, i * 8, none⟩) (n + m - i) (cap - i)) (.slice (some ⟨vb, 0, none⟩) m 1) rfl rfl (HC2.out 3 (cap - i)) ?_)
  go_ret
  exact ⟨_, rfl, HD.out _ (by rw [← List.append_assoc]; rfl) rfl rfl rfl⟩

theorem runC_append_end (base n m vb : Nat) (v : Value) (ps : List RP) (r : RP) (w : World) (hnp : n = ps.length) (hm : m = 1) (hbase : base ≤ w.heap.size) (hn : n ≤ 1048576) (hrow : w.ownsRow base 71 8 v n (flat encP ps))
    (hvb : w.heap[vb]? = some (.cells (encP r).toArray 71 (0, 0))) (hr1 : ∀ u ∈ encP r, u.oneCell' = true) : ∃ v' w', (∀ ty, (Builtin.append_ #[102, 31] ty #[v, .slice (some ⟨vb, 0, none⟩) m 1]).run Tryz.prog w = .ok v' w') ∧ w'.ownsRow base 71 8 v' (n + m) (flat encP (ps.take n ++ [r] ++ ps.drop n)) ∧ w.grownBy w' v.ownBlock ∧ (v'.ownBlock = v.ownBlock ∨ v'.ownBlock = some w.heap.size) := by
  obtain ⟨i0, hi0, hz0, hzs, hzb⟩ := info_parts Tryz.infoRec
  obtain ⟨a, c, hv⟩ := owns_lenS hrow
  obtain ⟨v', w', h1, h2, h3, _, h4⟩ := run_append_own_at (P := Tryz.prog) w base 102 102 71 i0 _ 8 i0.bytes Tryz.underlying102 hi0 hz0 hzs rfl rfl (by omega) v n (flat encP ps) hrow ⟨vb, 0, none⟩ m 1 (encP r) (by rw [encP_len, hm]) (fun j u hj => by
    rw [add8, Nat.zero_add, cells_at hvb]
    simpa using hj) hr1 (by unfold maxLen; omega) (by rw [hzb]; omega) hbase
  refine ⟨v', w', fun ty => ?_, ?_, h3, h4⟩
  · rw [hv, append_types w 102 31 ty 71 i0 Tryz.underlying102 Tryz.underlying31 hi0, ← hv]
    exact h1
  · rw [flat_ins, hnp, List.take_length, List.drop_length]
    rw [hnp] at h2
    simpa [flat] using h2

set_option maxRecDepth 100000 in
set_option maxHeartbeats 4000000 in
theorem insC_end (base n m vb : Nat) (v : Value) (ps : List RP) (r : RP) (w : World) (hnp : n = ps.length) (hm : m = 1) (hbase : base ≤ w.heap.size) (hn : n ≤ 1048576) (hrow : w.ownsRow base 71 8 v n (flat encP ps))
    (hvb : w.heap[vb]? = some (.cells (encP r).toArray 71 (0, 0))) (hr1 : ∀ u ∈ encP r, u.oneCell' = true) :
    Calls Tryz.prog 122 #[v, .int .i64 (n : Int), .slice (some ⟨vb, 0, none⟩) m 1] w fun e w' => ∃ v', e = .returned v' ∧ w'.ownsRow base 71 8 v' (n + m) (flat encP (ps.take n ++ [r] ++ ps.drop n)) ∧ w.grownBy w' v.ownBlock ∧ (v'.ownBlock = v.ownBlock ∨ v'.ownBlock = some w.heap.size) := by
  obtain ⟨v', w', h1, h2, h3, h4⟩ := runC_append_end base n m vb v ps r w hnp hm hbase hn hrow hvb hr1
  obtain ⟨va, vc, hve⟩ := owns_lenS h2
  subst hve
  have HR := hide h1
  generalize ps.take n ++ [r] ++ ps.drop n = l at *
  have H2 := hide h2
  have H3 := hide h3
  have H4 := hide h4
  have hz1 : ¬ ((m : Int) = 0) := by omega
  clear h1 h2 h3 h4 hvb hr1 hm hnp
  rcases hrow.2 with ⟨h0, hn0⟩ | ⟨g, cap, cur, hv, hbg, hg, hnc, hcm, hcs, htk⟩
  · subst h0
    clear hrow
    subst hn0
    go_enter Tryz.func122, Tryz.ntmps122
    go_wp2_with (at_builtin; refine Lib.wpList_append_run _ rfl _ _ _ _ rfl _ _ rfl rfl _ _ (HR.out _) ?_)
    go_ret
    exact ⟨_, rfl, (by simpa using H2.out), H3.out, (by simpa [Value.ownBlock] using H4.out)⟩
  · subst hv
    have hc63 : cap ≤ 9223372036854775807 := by unfold maxLen at hcm; omega
    clear hrow hg hcs htk
    go_enter Tryz.func122, Tryz.ntmps122
    go_wp2_with (at_builtin; refine Lib.wpList_append_run _ rfl _ _ _ _ rfl _ _ rfl rfl _ _ (HR.out _) ?_)
    all_goals (go_ret; exact ⟨_, rfl, H2.out, H3.out, H4.out⟩)

set_option maxRecDepth 100000 in
set_option maxHeartbeats 4000000 in
theorem insC_grow (base g cap n m i vb : Nat) (ps : List RP) (r : RP) (w : World) (hnp : n = ps.length) (hm : m = 1) (hbase : base ≤ w.heap.size) (hn : n ≤ 1048576) (hrow : w.ownsRow base 71 8 (.slice (some ⟨g, 0, none⟩) n cap) n (flat encP ps)) (hi : i < n) (hroom : cap < n + m)
    (hvb : w.heap[vb]? = some (.cells (encP r).toArray 71 (0, 0))) (hone : ∀ p ∈ ps, ∃ a k c, p.2 = .slice a k c) (hr1 : ∀ u ∈ encP r, u.oneCell' = true) :
    Calls Tryz.prog 122 #[.slice (some ⟨g, 0, none⟩) n cap, .int .i64 (i : Int), .slice (some ⟨vb, 0, none⟩) m 1] w fun e w' => ∃ v, e = .returned v ∧ w'.ownsRow base 71 8 v (n + m) (flat encP (ps.take i ++ [r] ++ ps.drop i)) ∧ w.grownBy w' (some g) ∧ (v.ownBlock = some g ∨ v.ownBlock = some w.heap.size) := by
  have hnl : (flat encP ps).length = n * 8 := hrow.1
  have hui := Tryz.underlying102
  have hus := Tryz.underlying31
  obtain ⟨i0, hi0, hz0, hzs, hzb⟩ := info_parts Tryz.infoRec
  have hsz : (Tryz.prog.info? 71).map (·.size) = some 8 := by rw [hi0]; simp [hzs]

  rcases hrow.2 with ⟨h0, _⟩ | ⟨g', cap', cur, hv, hbg, hg, hnc, hcm, hcs, htk⟩
  · simp at h0
  simp at hv
  obtain ⟨rfl, rfl⟩ := hv
  have hc63 : cap ≤ 9223372036854775807 := by unfold maxLen at hcm; omega
  have hgw := lt_of_heap hg
  have hvw := lt_of_heap hvb
  have hD : (flat encP (ps.drop i)).length = (n - i) * 8 := by rw [flat_len encP_len, List.length_drop, ← hnp]
  have hAl : (flat encP (ps.take i)).length = i * 8 := by rw [flat_len encP_len, List.length_take, Nat.min_eq_left (by omega)]
  have hRl : (encP r).length = 8 := encP_len r
  have hkk : (n : Int) + (m : Int) - (i : Int) = ((n + m - i : Nat) : Int) := by omega
  have hik : i + (n + m - i) = n + m := by omega
  have hcellw : ∀ (j : Nat) (u : Value), (flat encP ps)[j]? = some u → w.cell? ⟨g, j, none⟩ = some u := fun j u hj => by
    have h2 : j < n * 8 := by rw [← hnl]; exact (List.getElem?_eq_some_iff.1 hj).1
    rw [← htk, List.getElem?_take_of_lt h2] at hj
    rw [cells_at hg]
    simpa using hj
  have hold : (Builtin.firstCells i0.size i (.slice (some ⟨g, 0, none⟩) i cap)).run Tryz.prog w.drew = .ok (flat encP (ps.take i)).toArray w.drew := by
    rw [hzs]
    exact run_firstCells_some w.drew 8 i ⟨g, 0, none⟩ i cap (flat encP (ps.take i)) hAl (fun j v hj => by
      rw [add8, Nat.zero_add]
      refine hcellw j v ?_
      rw [← flat_take ps i (by omega), List.getElem?_take] at hj
      split at hj
      · exact hj
      · cases hj)
  have hrz0 := Lib.run_append_grow_zeros (P := Tryz.prog) w 102 3 102 71 i0 _ .i64 .i64 hui Tryz.underlying3 hi0 hz0 (some ⟨g, 0, none⟩) i cap (flat encP (ps.take i)) hold (n + m - i) (by omega) (by rw [hzs]; omega) (by omega) (by omega) (by rw [hzb]; omega) (by rw [hzb, hik]; exact growslice_fits hroom (by omega))
  rw [hik] at hrz0
  have hGn := grownCap_ge w (n + m) cap 71
  have hGm := grownCap_le_maxLen w (n + m) cap 71 (by unfold maxLen; omega)
  obtain ⟨G, hG⟩ : ∃ G, G = grownCap w (n + m) cap 71 := ⟨_, rfl⟩
  rw [← hG] at hrz0 hGn hGm
  obtain ⟨ROW, hROW⟩ : ∃ ROW : Array Value, ROW = (flat encP (ps.take i)).toArray ++ Builtin.zeroCells (Value.agg (recC zeroRD (.slice none 0 0))).cells (n + m - i) ++ Builtin.zeroCells (Value.agg (recC zeroRD (.slice none 0 0))).cells (G - (n + m)) := ⟨_, rfl⟩
  rw [← hROW] at hrz0
  have hRs : ROW.size = G * 8 := by
    rw [hROW]
    simp only [Array.size_append, List.size_toArray, size_zeroCells, hAl, show (Value.agg (recC zeroRD (.slice none 0 0))).cells.size = 8 from rfl]
    omega
  have hRt : ROW.toList.take (i * 8) = flat encP (ps.take i) := by
    rw [hROW]
    simp only [Array.toList_append, List.append_assoc]
    rw [← hAl]
    exact List.take_left
  obtain ⟨N, hN⟩ : ∃ N, N = w.heap.size := ⟨_, rfl⟩
  obtain ⟨W1, hW1⟩ : ∃ W1, W1 = w.drew.alloc (.cells ROW 71) := ⟨_, rfl⟩
  rw [← hW1, ← hN] at hrz0
  have hrz : ∀ ty, (Builtin.append_ #[102, 3] ty #[.slice (some ⟨g, 0, none⟩) i cap, .int .i64 ((n : Int) + (m : Int) - (i : Int))]).run Tryz.prog w = .ok (.slice (some ⟨N, 0, none⟩) (n + m) G) W1 := fun ty => by
    rw [hkk]
    exact hrz0
  have g1 : W1.heap[N]? = some (.cells ROW 71 (0, 0)) := by rw [hW1, hN]; exact heap_alloc_new w.drew _
  have b1 : ∀ k, k < N → W1.heap[k]? = w.heap[k]? := fun k hk => by rw [hW1]; exact Below.heap_alloc _ _ _ (by rw [hN] at hk; exact hk)
  have s1 : W1.heap.size = N + 1 := by rw [hW1, hN]; simp
  have hcpA : ∀ ty dc, (Builtin.copy_ #[102, 31] ty #[.slice (some ⟨N, i * 8, none⟩) (n + m - i) dc, .slice (some ⟨vb, 0, none⟩) m 1]).run Tryz.prog W1 = .ok (goInt (Nat.min m (n + m - i))) (W1.setRow N (ROW.toList.take (i * 8) ++ encP r ++ ROW.toList.drop (i * 8 + (encP r).length)).toArray) := fun ty dc =>
    run_copy_rowS W1 102 31 ty 71 N (i * 8) (n + m - i) dc ⟨vb, 0, none⟩ m 1 8 ROW 71 (encP r) hui hsz g1
      (by rw [hRl]; have : Nat.min m (n + m - i) = m := Nat.min_eq_left (by omega); omega) (fun j u hj => by
        rw [add8, Nat.zero_add]
        simp only [World.cell?]
        rw [b1 vb (by omega), hvb]
        simpa using hj) (by rw [hRl, hRs]; omega) hr1
  obtain ⟨c1, hc1⟩ : ∃ c1, c1 = ROW.toList.take (i * 8) ++ encP r ++ ROW.toList.drop (i * 8 + (encP r).length) := ⟨_, rfl⟩
  rw [← hc1] at hcpA
  have hc1l : c1.length = G * 8 := by
    rw [hc1]
    simp only [List.length_append, List.length_take, List.length_drop, Array.length_toList, hRs, hRl]
    omega
  have hc1t : c1.take ((i + m) * 8) = flat encP (ps.take i) ++ encP r := by
    rw [hc1, hRt]
    rw [List.take_append_of_le_length (by simp only [List.length_append, hAl, hRl]; omega), List.take_of_length_le (by simp only [List.length_append, hAl, hRl]; omega)]
  obtain ⟨W2, hW2⟩ : ∃ W2, W2 = W1.setRow N c1.toArray := ⟨_, rfl⟩
  rw [← hW2] at hcpA
  have g2 : W2.heap[N]? = some (.cells c1.toArray 71 (0, 0)) := by rw [hW2]; exact setRow_heap W1 N ROW _ 71 _ g1
  have b2 : ∀ k, k < N → W2.heap[k]? = w.heap[k]? := fun k hk => by rw [hW2, setRow_other W1 N k _ (by omega)]; exact b1 k hk
  have s2 : W2.heap.size = N + 1 := by rw [hW2]; simpa using s1
  have hcpB0 := fun dc sc => run_copy_rowS (P := Tryz.prog) W2.drew 102 102 3 71 N ((i + m) * 8) (n + m - (i + m)) dc ⟨g, i * 8, none⟩ (n - i) sc 8 c1.toArray 71 (flat encP (ps.drop i)) hui hsz g2
      (by rw [hD]; congr 1; have : Nat.min (n - i) (n + m - (i + m)) = n - i := Nat.min_eq_left (by omega); omega) (fun j u hj => by
        rw [add8]
        have h2 := hcellw (i * 8 + j) u (by rw [← flat_drop ps i (by omega), List.getElem?_drop] at hj; exact hj)
        simp only [World.cell?] at h2 ⊢
        rw [show W2.drew.heap[g]? = w.heap[g]? from b2 g (by omega)]
        exact h2) (by rw [hD]; simp only [List.size_toArray, hc1l]; omega) (flat_oneCell _ (fun p hp => hone p (List.mem_of_mem_drop hp)))
  obtain ⟨c2, hc2⟩ : ∃ c2, c2 = c1.take ((i + m) * 8) ++ flat encP (ps.drop i) ++ c1.drop ((i + m) * 8 + (flat encP (ps.drop i)).length) := ⟨_, rfl⟩
  simp only [← hc2] at hcpB0
  obtain ⟨W3, hW3⟩ : ∃ W3, W3 = W2.drew.setRow N c2.toArray := ⟨_, rfl⟩
  rw [← hW3] at hcpB0
  have g3 : W3.heap[N]? = some (.cells c2.toArray 71 (0, 0)) := by rw [hW3]; exact setRow_heap W2.drew N c1.toArray _ 71 _ g2
  have b3 : ∀ k, k < N → W3.heap[k]? = w.heap[k]? := fun k hk => by rw [hW3, setRow_other W2.drew N k _ (by omega)]; exact b2 k hk
  have s3 : W3.heap.size = N + 1 := by rw [hW3]; simpa using s2
  have hfin : W3.ownsRow base 71 8 (.slice (some ⟨N, 0, none⟩) (n + m) G) (n + m) (flat encP (ps.take i ++ [r] ++ ps.drop i)) ∧ w.grownBy W3 (some g) := by
    refine ⟨⟨?_, .inr ⟨N, G, c2.toArray, rfl, by rw [hN]; exact hbase, g3, hGn, hGm, ?_, ?_⟩⟩, ⟨?_, ?_, ?_, by omega, fun k hk _ => b3 k (by omega)⟩⟩
    · rw [flat_len encP_len, ins_len ps r i (by omega)]; omega
    · rw [hc2, hc1t]
      simp only [List.size_toArray, List.length_append, List.length_drop, hc1l, hD, hRl, hAl]
      omega
    · rw [flat_ins, hc2, hc1t]
      exact take_of_parts (by rw [hAl, hRl, hD]; omega)
    · rw [hW3, hW2, hW1]; rfl
    · rw [hW3, hW2, hW1]; rfl
    · rw [hW3, hW2, hW1]; rfl
  have hz1 : ¬ ((m : Int) = 0) := by omega
  have hz2 : ¬ ((i : Int) = (n : Int)) := by omega
  have hz3 : (cap : Int) < (n : Int) + (m : Int) := by omega
  have hw1 : IntKind.i64.wrap ((i : Int) + (m : Int)) = (i : Int) + (m : Int) := by rw [IntKind.wrap_i64]; omega
  have hw2 : IntKind.i64.wrap ((n : Int) + (m : Int)) = (n : Int) + (m : Int) := by rw [IntKind.wrap_i64]; omega
  have hw3 : IntKind.i64.wrap ((n : Int) + (m : Int) - (i : Int)) = (n : Int) + (m : Int) - (i : Int) := by rw [IntKind.wrap_i64]; omega
  have hb1 : (0 : Int) ≤ (i : Int) + (m : Int) := by omega
  have hin : i ≤ n := by omega
  have htn : ((i : Int) + (m : Int)).toNat = i + m := by omega
  have hb3 : (i : Int) ≤ (n : Int) := by omega
  have hGi : ¬ (G = i) := by omega
  have hGim : ¬ (G = i + m) := by omega
  have hci : ¬ (cap = i) := by omega
  have hG63 : G ≤ 9223372036854775807 := by unfold maxLen at hGm; omega
  have HD := hide hfin
  have HNW := hide hN
  have HA := hide hrz
  have HC1 := hide hcpA
  have HC2 := hide hcpB0
  have mixed : Tryz.prog.follows .mixedOrders = true := by kernel_rfl
  clear hfin hrz hcpA hcpB0 hrz0 g1 g2 g3 b1 b2 b3 s1 s2 s3 hW1 hW2 hW3 hc1 hc2 hc1l hc1t hROW hRs hRt hold hcellw hkk hik hN hG hGm hD hAl hRl hnl htk hcs hg hrow hvb hone hr1 hsz hi0 hz0 hzs hzb hm hnp
  go_enter Tryz.func122, Tryz.ntmps122
  go_wp2_with (first
    | (at_builtin; refine Lib.wpList_append_run _ rfl _ _ _ _ rfl _ _ rfl rfl _ _ (HA.out _) ?_)
    | (refine wpList_copy_runI _ rfl _ _ 102 31 rfl (.slice (some ⟨N, i * 8, none⟩) (n + m - i) (G - i)) (.slice (some ⟨vb, 0, none⟩) m 1) rfl rfl (HC1.out 3 (G - i)) ?_))
  go_region_law_o (refine step_copy_runI rfl _ _ 102 102 rfl (.slice (some ⟨N, (i + m) * 8, none⟩) (n + m - (i + m)) (G - (i + m))) (.slice (some ⟨g, i * 8, none⟩) (n - i) (cap - i)) (by simp [Act.eval, Act.put]) (by simp [Act.eval, Act.put]) (HC2.out (G - (i + m)) (cap - i)) ?_)
  go_wp2
  go_ret
  exact ⟨_, rfl, HD.out.1, HD.out.2, .inr (by rw [← HNW.out]; rfl)⟩

end Go.Proofs.YtidoieolejkflaaGreat
