/-
  impl.RoutesBeyond: its contract.
  impl.RoutesOf over a right store: its contract.
  The best offer of a thing, as the specification collects it.
-/
import Derived.Test.YtakiifededfjlaaGreatRm24
import Derived.Test.YtakiifededfjlaaGreatRm25
import Derived.Test.YtakiifededfjlaaGreatRm20
import Derived.Test.YtakiifededfjlaaGreatRm18
import Derived.Test.YtakiifededfjlaaGreatRm21
namespace Go.Proofs.YtakiifededfjlaaGreat
open Go.RowKit
set_option linter.unusedSimpArgs false
set_option linter.unusedVariables false
set_option maxRecDepth 100000
set_option maxHeartbeats 8000000
def byS (xs : List RecD) (al L : List Int) (src to : Int) (d : WayD) : Prop := (∀ y, ¬ Zar xs al src to y) /\ ∃ a ∈ L, outS xs xs a src to d
theorem ZmO {xs : List RecD} {al L : List Int} {src to : Int} {d : WayD} (h : byS xs al L src to d) : GoodW d /\ d.to = to := by
 obtain ⟨_, a, _, h2⟩ := h
 exact ZeN (fun _ h => h) h2
theorem ZmV {xs : List RecD} {al L : List Int} {src to a : Int} {k : Nat} (h : L[k]? = some a) (d : WayD) : byS xs al (L.take (k + 1)) src to d ↔ byS xs al (L.take k) src to d \/ ((∀ y, ¬ Zar xs al src to y) /\ outS xs xs a src to d) := by
 obtain ⟨hk, e⟩ := List.getElem?_eq_some_iff.1 h
 unfold byS
 rw [List.take_succ_eq_append_getElem hk, e]
 constructor
 ·rintro ⟨h0, b, h2, h3⟩
  rcases List.mem_append.1 h2 with h5 | h5
  ·exact .inl ⟨h0, b, h5, h3⟩
  ·have : b = a := by simpa using h5
   subst this
   exact .inr ⟨h0, h3⟩
 ·rintro (⟨h0, b, h2, h3⟩ | ⟨h0, h3⟩)
  ·exact ⟨h0, b, List.mem_append.2 (.inl h2), h3⟩
  ·exact ⟨h0, a, List.mem_append.2 (.inr (by simp)), h3⟩
theorem Zoc {xs : List RecD} {al : List Int} {border : Bool} {src : Int} (to : Int) (d : WayD) : byS xs al (ZcZ al border) src to d ↔ Zbf xs al border src to d := by
 constructor
 ·rintro ⟨h0, a, h2, h3⟩
  have h4 := ZfA.1 h2
  exact ⟨h0, a, h4.1.1, h4.2, h3⟩
 ·rintro ⟨h0, a, h2, h3, h4⟩
  have h5 := Zgr h4
  exact ⟨h0, a, ZfA.2 ⟨⟨h2, h5.2.1, h5.2.2⟩, h3⟩, h4⟩
theorem Zkv {xs : List RecD} {al : List Int} {src : Int} {ds : List WayD} (h : Zav (Zar xs al src) ds) (to : Int) : (Za6 ds to = true /\ ∃ y, Zar xs al src to y) \/ (Za6 ds to = false /\ ∀ y, ¬ Zar xs al src to y) := by
 have hb := h.2 to
 rcases ZbI ds to with ⟨h1, h2⟩ | ⟨h1, h2⟩
 ·rw [h2] at hb
  obtain ⟨_, ⟨y, hy, _⟩, _⟩ := hb
  exact .inl ⟨h1, y, hy⟩
 ·rw [h2] at hb
  exact .inr ⟨h1, hb⟩
theorem ZeV {S : Int -> WayD -> Prop} {qs : List WP} (h : Zav S (Zah qs)) (hS : ∀ to w, S to w -> GoodW w /\ w.to = to) : totW qs <= 42 :=
 ZfF (by have h2 := Zc8 h.1 (fun d hd => (h.good hS d hd).node); simpa [Zah] using h2) (fun d hd => (h.good hS d hd).len)
theorem ZfU (v u : Value) (ps : List RP) (al : List Int) (hi : Nat) (border : Bool) (src : Int) (w : World) (hv : RecsIn w hi v ps) (ha : ZaK w u al hi) (hhi : hi <= w.heap.size) (hn : tot ps <= 1048576) (hal : al.length <= 1048576) :
  Calls Tryz.prog 12 #[v, u, .bool border, .int .i64 src] w fun e w' => ∃ x qs, e = .returned x /\ Zav (Zbf (fsts ps) al border src) (Zah qs) /\ WaysOwn w' w.heap.size w'.heap.size x qs /\ Below w.heap.size w w' := by
 have hnl := ZbL ps
 obtain ⟨a1, c1, rfl⟩ := Zac hv.row
 obtain ⟨a2, c2, rfl⟩ := ha.shape
 have HWI := hide (Zen (.slice a1 ps.length c1) (.slice a2 al.length c2) ps al hi src w hv ha hhi hn hal)
 have HAO := hide (fun W (hb : Below w.heap.size w W) => ZiR (.slice a2 al.length c2) al border hi W hal (ZaR.later ha hb hhi) (Nat.le_trans hhi hb.size))
 have HWO := hide (fun area W (hb : Below w.heap.size w W) => Zi4 (.slice a1 ps.length c1) ps hi area src W (hv.below hb hhi) (Nat.le_trans hhi hb.size) hn)
 clear hv ha
 obtain ⟨L, hL⟩ : ∃ L, L = ZcZ al border := ⟨_, rfl⟩
 have hLl : L.length <= 3 := by rw [hL]; exact Zix al border
 have HFIN := hide (show ∀ to d, byS (fsts ps) al L src to d ↔ Zbf (fsts ps) al border src to d from fun to d => by rw [hL]; exact Zoc to d)
 rw [<- hL] at HAO
 clear hL
 go_enter Tryz.func12, Tryz.ntmps12
 go_wp2_with fail
 refine HWI.out.mono ?_
 rintro e w1 ⟨uw, ws, rfl, hbw, how, b1⟩
 obtain ⟨wsa, wsc, rfl⟩ := Zac how.row
 have hb1 := b1.size
 have hwt : totW ws <= 1048576 := by have := ZeV hbw (fun to d h => ZaH h); omega
 have HWT := hide (fun (z : Int) (W : World) (hb : Below w1.heap.size w1 W) => Zfk (.slice wsa ws.length wsc) ws w.heap.size w1.heap.size z W (how.below hb (Nat.le_refl _)) hb.size hwt)
 have HHAS := hide (fun to => Zkv hbw to)
 have BX : Below w1.heap.size w1 (w1.alloc (.cells #[] 46)) := (Below.refl _ _).alloc (Nat.le_refl _) _
 have LIT := Zmc w1 w1.heap.size (Nat.le_refl _)
 have hs0 : (w1.alloc (.cells #[] 46)).heap.size = w1.heap.size + 1 := by simp
 obtain ⟨w0, hw0⟩ : ∃ W, W = w1.alloc (.cells #[] 46) := ⟨_, rfl⟩
 rw [<- hw0] at BX LIT hs0
 have BX0 : Below w.heap.size w w0 := b1.trans (BX.mono hb1)
 have HLIT := hide LIT
 have HS0 := hide hs0
 clear LIT hs0 HWI how hbw hwt
 go_wp2_with fail
 rw [<- hw0]
 clear hw0
 refine (HAO.out _ BX0).mono ?_
 rintro e w2 ⟨ra, rfl, hra, b2⟩
 obtain ⟨raa, rac, rfl⟩ := Zac hra.row
 have b2s := b2.size
 have hx0 := BX.size
 have B2 : Below w1.heap.size w1 w2 := BX.trans (b2.mono hx0)
 have HO1 := hide ((HLIT.out.below b2 (Nat.le_refl _)).wide (Nat.le_refl _) b2s)
 have HRA := hide hra
 clear hra HLIT HAO b2
 go_wp2
 go_loopw [26, 10] (fun i o wr => ∃ (k : Nat) (x : Value) (qs : List WP), k <= L.length /\ i = .int .i64 (k : Int) /\ o = x /\ WaysOwn wr w1.heap.size wr.heap.size x qs /\ Hid (Zav (byS (fsts ps) al (L.take k) src) (Zah qs)) /\ Off x w0.heap.size w2.heap.size /\ IntsOwn wr w0.heap.size w2.heap.size (.slice raa L.length rac) L /\ Below w1.heap.size w1 wr /\ w2.heap.size <= wr.heap.size) (fun i _ _ => L.length - (intOf i).toNat)
 case atStart => exact ⟨0, _, [], by omega, rfl, rfl, HO1.out, hide (ZbQ (fun to d ⟨_, a, h, _⟩ => by simp at h)), fun b hb => by simp [Value.ownBlock] at hb; have := HS0.out; omega, HRA.out, B2, Nat.le_refl _⟩
 case round =>
  obtain ⟨k, x, qs, hk, rfl, rfl, hown, HB, hoff, hra, hnx, hsz⟩ := hrel
  clear HO1 HRA B2
  obtain ⟨xa, xc, rfl⟩ := Zac hown.row
  rename World => wa
  have BWA : Below w.heap.size w wa := b1.trans (hnx.mono hb1)
  by_cases hlt : k < L.length
  ·obtain ⟨area, har⟩ : ∃ a, L[k]? = some a := ⟨L[k], List.getElem?_eq_getElem hlt⟩
   obtain ⟨b, off, cap', hve, hbb, c0⟩ := hra.at.cell k area har
   cases hve
   have hki : (0 : Int) <= (k : Int) := by omega
   have hkj : (k : Int) < (L.length : Int) := by omega
   have HOWN := hide hown
   have HOFF := hide hoff
   have HRA := hide hra
   have HAR := hide har
   clear hown hoff hra har
   go_wp2_with fail
   refine (HWO.out area _ BWA).mono ?_
   rintro e w3 ⟨uo, os, rfl, hos, hol, hoo, b3⟩
   obtain ⟨osa, osc, rfl⟩ := Zac hoo.row
   have hb3 := b3.size
   have ST0 := PutSt.start HOWN.out HB.out HOFF.out hsz hnx.size b3 hoo
   have RA3 := HRA.out.below b3 hsz
   have B3 : Below w1.heap.size w1 w3 := hnx.trans (b3.mono hnx.size)
   have HOS := hide (show ∀ d, d ∈ Zah os ↔ ∃ r ∈ fsts ps, Zct (fsts ps) area src r d from fun d => by
    have h := hos d
    rw [List.take_of_length_le (by simp [fsts])] at h
    exact h)
   have HST0 := hide ST0
   have HRA3 := hide RA3
   clear hos hoo ST0 RA3 HOWN HOFF HRA HB b3
   go_wp2
   go_loopw [35, 10] (fun i o wr => ∃ (j : Nat) (x : Value) (qs : List WP), j <= os.length /\ i = .int .i64 (j : Int) /\ o = x /\ PutSt wr w1.heap.size w0.heap.size w2.heap.size wa.heap.size w3.heap.size (fun to d => byS (fsts ps) al (L.take k) src to d \/ ((∀ y, ¬ Zar (fsts ps) al src to y) /\ d.to = to /\ d ∈ (Zah os).take j)) x qs (.slice osa os.length osc) os j /\ IntsOwn wr w0.heap.size w2.heap.size (.slice (some ⟨b, off, none⟩) L.length rac) L /\ Below w1.heap.size w1 wr /\ w3.heap.size <= wr.heap.size) (fun i _ _ => os.length - (intOf i).toNat)
   case atStart => exact ⟨0, _, qs, by omega, rfl, rfl, { HST0.out with best := HST0.out.best.congr (fun to d => ⟨.inl, by rintro (h | ⟨_, _, h⟩); exact h; simp at h⟩) }, HRA3.out, B3, Nat.le_refl _⟩
   case round =>
    obtain ⟨j, y, qs2, hj, rfl, rfl, st, hra2, hnx2, hsz2⟩ := hrel
    clear HST0 HRA3 B3
    obtain ⟨ya, yc, rfl⟩ := Zac st.own.row
    have hgd0 : ∀ d ∈ Zah os, GoodW d := fun d hd => by
     obtain ⟨r, hr, ht⟩ := (HOS.out d).1 hd
     exact ZdS hr ht
    have hS : ∀ to d, (byS (fsts ps) al (L.take k) src to d \/ ((∀ y, ¬ Zar (fsts ps) al src to y) /\ d.to = to /\ d ∈ (Zah os).take j)) -> GoodW d /\ d.to = to := by
     rintro to d (h | ⟨_, h1, h2⟩)
     ·exact ZmO h
     ·exact ⟨hgd0 d (List.mem_of_mem_take h2), h1⟩
    by_cases hjl : j < os.length
    ·obtain ⟨r, hr⟩ : ∃ r, os[j]? = some r := ⟨os[j], List.getElem?_eq_getElem hjl⟩
     obtain ⟨bo, offo, cpo, hve, hbbo, c0, c1, c2, _⟩ := st.from_.at.cells j r hr
     cases hve
     have hgr : GoodW r.1 := hgd0 r.1 (by simp only [Zah, List.mem_map]; exact ⟨r, List.mem_of_getElem? hr, rfl⟩)
     have hji : (0 : Int) <= (j : Int) := by omega
     have hjj : (j : Int) < (os.length : Int) := by omega
     obtain ⟨rra, rrc, hrn⟩ := Zac (st.from_.nears r (List.mem_of_getElem? hr)).1
     rw [hrn] at c2
     have hgd := st.good hS
     have BA : Below wr.heap.size wr (wr.alloc (.cells #[.int .i64 r.1.to, .int .i64 r.1.cost, .slice rra r.1.hops.length rrc] 46)) := (Below.refl _ _).alloc (Nat.le_refl _) _
     have hxb := heap_alloc_new wr (.cells #[.int .i64 r.1.to, .int .i64 r.1.cost, .slice rra r.1.hops.length rrc] 46)
     obtain ⟨w4, hw4⟩ : ∃ W, W = wr.alloc (.cells #[.int .i64 r.1.to, .int .i64 r.1.cost, .slice rra r.1.hops.length rrc] 46) := ⟨_, rfl⟩
     rw [<- hw4] at BA hxb
     have hs4 := BA.size
     have hl4 := Zab hxb
     have HW := HWT.out r.1.to w4 (hnx2.trans (BA.mono hnx2.size))
     have hh := HHAS.out r.1.to
     obtain ⟨D, hD⟩ : ∃ D, D = Za8 (Zah ws) r.1.to := ⟨_, rfl⟩
     obtain ⟨FB, hFB⟩ : ∃ F, F = Za6 (Zah ws) r.1.to := ⟨_, rfl⟩
     rw [<- hD, <- hFB] at HW
     rw [<- hFB] at hh
     have HWW := hide HW
     have HH := hide hh
     have HST := hide st
     have HRX := hide hra2
     have HRR := hide hr
     have HRN := hide hrn
     have HGD := hide hgd
     have HGR := hide hgr
     have HSS := hide hS
     have HXB := hide hxb
     have HBA := hide BA
     unfold wayC at HWW
     clear HW hh st hra2 hr hrn hgd hgr hS hxb BA hgd0 hD hFB
     go_wp2_with fail
     rw [<- hw4]
     clear hw4
     refine HWW.out.mono ?_
     rintro e w5 ⟨du, rfl, hdu, b5⟩
     obtain ⟨da, dc, rfl⟩ := Zac hdu
     have hb5 := b5.size
     have BC : Below w5.heap.size w5 (w5.alloc (.cells #[.int .i64 D.to, .int .i64 D.cost, .slice da D.hops.length dc] 46)) := (Below.refl _ _).alloc (Nat.le_refl _) _
     have hxb5 := (b5.block _ hl4).trans HXB.out
     have hxb6 := (BC.block _ (Zab hxb5)).trans hxb5
     have d0 := Zaa hxb6 0
     have d1 := Zaa hxb6 1
     have d2 := Zaa hxb6 2
     simp at d0 d1 d2
     obtain ⟨w6, hw6⟩ : ∃ W, W = w5.alloc (.cells #[.int .i64 D.to, .int .i64 D.cost, .slice da D.hops.length dc] 46) := ⟨_, rfl⟩
     rw [<- hw6] at BC
     have B6 : Below wr.heap.size wr w6 := HBA.out.trans ((b5.mono hs4).trans (BC.mono (by omega)))
     have st6 := HST.out.below B6
     have ra6 := HRX.out.below B6 (by omega)
     have N6 : Below w1.heap.size w1 w6 := hnx2.trans (B6.mono hnx2.size)
     have hs6 := B6.size
     clear hdu b5 BC hxb5 hxb6 HST HRX HWW HXB HBA B6
     cases FB
     ·have hno : ∀ y, ¬ Zar (fsts ps) al src r.1.to y := by
       rcases HH.out with ⟨h1, _⟩ | ⟨_, h2⟩
       ·cases h1
       ·exact h2
      have hT : ∀ to d, ((byS (fsts ps) al (L.take k) src to d \/ ((∀ y, ¬ Zar (fsts ps) al src to y) /\ d.to = to /\ d ∈ (Zah os).take j)) \/ (d = r.1 /\ r.1.to = to)) ↔ (byS (fsts ps) al (L.take k) src to d \/ ((∀ y, ¬ Zar (fsts ps) al src to y) /\ d.to = to /\ d ∈ (Zah os).take (j + 1))) := by
       intro to d
       rw [Zdt (Zc6 HRR.out)]
       constructor
       ·rintro ((h | ⟨h0, h1, h2⟩) | ⟨h1, h2⟩)
        ·exact .inl h
        ·exact .inr ⟨h0, h1, .inl h2⟩
        ·exact .inr ⟨by rw [<- h2]; exact hno, by rw [h1]; exact h2, .inr h1⟩
       ·rintro (h | ⟨h0, h1, h2 | h2⟩)
        ·exact .inl (.inl h)
        ·exact .inl (.inr ⟨h0, h1, h2⟩)
        ·exact .inr ⟨h2, by rw [<- h2]; exact h1⟩
      have HPW := Zhh (.slice ya qs2.length yc) qs2 w1.heap.size r w6 st6.own N6.size (by have := HGD.out; omega) (fun p hp => by have := HGD.out.2 p hp; omega) (by have := HGR.out.len; omega) st6.best.1 (st6.hop HRR.out) (st6.apartR HRR.out)
      unfold wayC at HPW
      rw [HRN.out] at HPW
      have HNX := hide (fun (W' : World) (x' : Value) (qs' : List WP) (hp : PutD (Zah qs2) r.1 (Zah qs')) (ho : WaysOwn W' w1.heap.size W'.heap.size x' qs') (hf : Zed w6.heap.size qs2 r qs') hn (hg : w6.grownBy W' (Value.slice ya qs2.length yc).ownBlock) => (⟨st6.put HRR.out HSS.out HGR.out hT hp ho hf hn hg, ra6.keep (st6.offR.kept hg), N6.grown hg N6.size (fun b hb => (st6.own.row.lt b hb).1), hg.size⟩ : _ /\ _ /\ _ /\ _))
      have HP := hide HPW
      clear HPW hT hno HH HRR HRN HGD HGR HSS st6 ra6 N6
      go_wp2_with fail
      rw [<- hw6]
      clear hw6
      refine HP.out.mono ?_
      rintro e w7 ⟨x', qs', rfl, hp, ho, hf, hn', hg⟩
      obtain ⟨n1, n2, n3, n4⟩ := HNX.out w7 x' qs' hp ho hf hn' hg
      obtain ⟨x'a, x'c, rfl⟩ := Zac ho.row
      have N1 := hide n1
      have N2 := hide n2
      have N3 := hide n3
      clear n1 n2 n3 hp ho hf hn' hg HNX HP
      go_wp2
      go_roundw
      case rel => exact ⟨j + 1, _, qs', by omega, by go_num, rfl, N1.out, N2.out, N3.out, by omega⟩
      case measure => simp [intOf]; omega
     ·have hyes : ∃ y, Zar (fsts ps) al src r.1.to y := by
       rcases HH.out with ⟨_, h2⟩ | ⟨h1, _⟩
       ·exact h2
       ·cases h1
      have N1 := hide (st6.pass HRR.out (T := fun to d => byS (fsts ps) al (L.take k) src to d \/ ((∀ y, ¬ Zar (fsts ps) al src to y) /\ d.to = to /\ d ∈ (Zah os).take (j + 1))) (fun to d => by
       rw [Zdt (Zc6 HRR.out)]
       constructor
       ·rintro (h | ⟨h0, h1, h2⟩)
        ·exact .inl h
        ·exact .inr ⟨h0, h1, .inl h2⟩
       ·rintro (h | ⟨h0, h1, h2 | h2⟩)
        ·exact .inl h
        ·exact .inr ⟨h0, h1, h2⟩
        ·obtain ⟨y, hy⟩ := hyes
         exact absurd (by rw [<- h1, h2]; exact hy) (h0 y)))
      have N2 := hide ra6
      have N3 := hide N6
      have hsf : w3.heap.size <= w6.heap.size := by omega
      rw [hw6] at N1 N2 N3 hsf
      clear st6 ra6 N6 hyes HH HRR HRN HGD HGR HSS hw6
      go_wp2
      go_roundw
      case rel => exact ⟨j + 1, _, qs2, by omega, by go_num, rfl, N1.out, N2.out, N3.out, hsf⟩
      case measure => simp [intOf]; omega
    ·have hjn : ¬ (j : Int) < (os.length : Int) := by omega
     have HBX := hide (show Zav (byS (fsts ps) al (L.take (k + 1)) src) (Zah qs2) from st.best.congr (fun to d => by
      rw [ZmV HAR.out, show (Zah os).take j = Zah os from List.take_of_length_le (by simp [Zah]; omega), HOS.out]
      rfl))
     have HOX := hide st.own
     have HFX := hide st.offR
     have HRX := hide hra2
     have HNX := hide hnx2
     have hsf : w2.heap.size <= wr.heap.size := by omega
     clear st hra2 hnx2 hS hgd0
     go_wp2
     go_roundw
     case rel => exact ⟨k + 1, _, qs2, by omega, by go_num, rfl, HOX.out, HBX, HFX.out, HRX.out, HNX.out, hsf⟩
     case measure => simp [intOf]; omega
  ·have hkn : ¬ (k : Int) < (L.length : Int) := by omega
   have HE := hide (show Zav (Zbf (fsts ps) al border src) (Zah qs) from by
    have h := HB.out
    rw [List.take_of_length_le (by omega)] at h
    exact h.congr HFIN.out)
   have HO := hide (hown.wide (lo' := w.heap.size) hb1 (Nat.le_refl _))
   have HN := hide BWA
   clear hown hnx HB hoff hra BWA
   go_wp2
   go_ret
   first
    | exact ⟨_, qs, rfl, HE.out, HO.out, HN.out⟩
    | exact ⟨_, rfl, qs, HE.out, HO.out, HN.out⟩
theorem Zfv {S : Int -> WayD -> Prop} {ds : List WayD} (h : Zav S ds) (hS : ∀ to w, S to w -> GoodW w /\ w.to = to) : Zdq ds := h.good hS
theorem Znt {α : Type} (a b : Value) (xs ys : List α) : Zcs [(a, xs), (b, ys)] = xs ++ ys := by simp [Zcs]
theorem Zk7 {α : Type} (a b c : Value) (xs ys zs : List α) : Zcs [(a, xs), (b, ys), (c, zs)] = xs ++ ys ++ zs := by simp [Zcs]
theorem ZjU {W : World} {lo hi : Nat} {p : WP} (h : Zbv W lo hi p) : ∀ u ∈ encW p, u.oneCell' = true := by
 obtain ⟨a, c, e⟩ := Zac h.1
 intro u hu
 have : p = (p.1, .slice a p.1.hops.length c) := by rw [<- e]
 rw [this] at hu
 exact Zc1 _ _ _ _ u hu
theorem ZhB {W : World} {lo hi : Nat} {p : QP} (h : Zbg W lo hi p) : ∀ u ∈ encQ p, u.oneCell' = true := by
 obtain ⟨a, c, e⟩ := Zac h.1
 intro u hu
 have : p = (p.1, .slice a p.1.hops.length c) := by rw [<- e]
 rw [this] at hu
 exact Zcj _ _ _ _ u hu
theorem Zje (v u : Value) (ps : List RP) (al : List Int) (hi : Nat) (border : Bool) (src : Int) (w : World) (hv : RecsIn w hi v ps) (ha : ZaK w u al hi) (hhi : hi <= w.heap.size) (hn : tot ps <= 1048576) (hal : al.length <= 1048576) (hs : ZaE (fsts ps) = true) :
  Calls Tryz.prog 10 #[v, u, .bool border, .int .i64 src] w fun e w' => ∃ x qs, e = .returned x /\ Zcx (fsts ps) al border src (ZaA qs) /\ RtsOwn w' w.heap.size w'.heap.size x qs /\ Below w.heap.size w w' := by
 obtain ⟨a1, c1, rfl⟩ := Zac hv.row
 obtain ⟨a2, c2, rfl⟩ := ha.shape
 have HWI := hide (Zen (.slice a1 ps.length c1) (.slice a2 al.length c2) ps al hi src w hv ha hhi hn hal)
 have HBY := hide (fun W (hb : Below w.heap.size w W) => ZfU (.slice a1 ps.length c1) (.slice a2 al.length c2) ps al hi border src W (hv.below hb hhi) (ZaR.later ha hb hhi) (Nat.le_trans hhi hb.size) hn hal)
 have HTH := hide (fun W vc cs ds es hc lo2 hi2 (hb : Below w.heap.size w W) hw hh2 hnw hgd hge => ZjE (.slice a1 ps.length c1) vc ps cs ds es hc hi lo2 hi2 src W (hv.below hb hhi) (Nat.le_trans hhi hb.size) hw hh2 hnw hs hgd hge)
 clear hv ha hs
 go_enter Tryz.func10, Tryz.ntmps10
 go_wp2_with fail
 refine HWI.out.mono ?_
 rintro e w1 ⟨uw, ws, rfl, hbw, how, b1⟩
 obtain ⟨wsa, wsc, rfl⟩ := Zac how.row
 have hb1 := b1.size
 have HW1 := hide how
 have HBW := hide hbw
 have htw := ZeV hbw (fun to d h => ZaH h)
 clear how hbw HWI
 go_wp2_with fail
 refine (HBY.out _ b1).mono ?_
 rintro e w2 ⟨ub, bs, rfl, hbb, hob, b2⟩
 obtain ⟨bsa, bsc, rfl⟩ := Zac hob.row
 have hb2 := b2.size
 have htb := ZeV hbb (fun to d h => Za5 h)
 have B2 : Below w.heap.size w w2 := b1.trans (b2.mono hb1)
 have how := HW1.out.below b2 (Nat.le_refl _)
 -- the concatenated ways
 have BL : Below w2.heap.size w2 (w2.alloc (.cells #[.slice wsa ws.length wsc, .slice bsa bs.length bsc] 39)) := (Below.refl _ _).alloc (Nat.le_refl _) _
 have hxl := heap_alloc_new w2 (.cells #[.slice wsa ws.length wsc, .slice bsa bs.length bsc] 39)
 have hwl := Zd4 ws
 have hbl := Zd4 bs
 have HCC := hide (Zi8 [(.slice wsa ws.length wsc, ws), (.slice bsa bs.length bsc, bs)] w2.heap.size (w2.alloc (.cells #[.slice wsa ws.length wsc, .slice bsa bs.length bsc] 39))
  (fun j x hj => by
   have h := Zaa hxl j
   rw [h]
   match j, hj with
   | 0, hj => simp at hj; subst hj; rfl
   | 1, hj => simp at hj; subst hj; rfl
   | j + 2, hj => simp at hj)
  (fun x hx => by
   simp only [List.mem_cons, List.not_mem_nil, or_false] at hx
   rcases hx with rfl | rfl
   ·exact ⟨_, how.row.alloc _⟩
   ·exact ⟨_, hob.row.alloc _⟩)
  (fun x hx => by
   simp only [List.mem_cons, List.not_mem_nil, or_false] at hx
   rcases hx with rfl | rfl
   ·exact fun p hp => ZjU (how.nears p hp)
   ·exact fun p hp => ZjU (hob.nears p hp))
  (by simp [sumL]; omega) (by simp) (by simp))
 rw [Znt, List.length_append] at HCC
 have HB2 := hide B2
 have HOW := hide how
 have HOB := hide hob
 have HBB := hide hbb
 have HBL := hide BL
 clear how hob hbb BL hxl HBY HW1 B2
 go_wp2_with fail
 refine HCC.out.mono ?_
 rintro e w3 ⟨vc, rfl, hoc, b3⟩
 obtain ⟨ca, cc, rfl⟩ := Zac hoc
 have hs2 : (w2.alloc (.cells #[.slice wsa ws.length wsc, .slice bsa bs.length bsc] 39)).heap.size = w2.heap.size + 1 := by simp
 have hb3 := b3.size
 have B3 : Below w2.heap.size w2 w3 := HBL.out.trans (b3.mono (by omega))
 have h23 := B3.size
 have how3 := HOW.out.below B3 (by omega)
 have hob3 := HOB.out.below B3 (Nat.le_refl _)
 have hcat : WaysOwn w3 w.heap.size w3.heap.size (.slice ca (ws.length + bs.length) cc) (ws ++ bs) := ⟨by rw [List.length_append]; exact Zag hoc (by omega), fun k hk => (hoc.lt k hk).2, fun p hp => by
  rcases List.mem_append.1 hp with h1 | h1
  ·exact (how3.nears p h1).wide (Nat.le_refl _) (by omega)
  ·exact (hob3.nears p h1).wide hb1 (by omega), by
  rw [List.pairwise_append]
  refine ⟨how3.apart, hob3.apart, fun a ha b hb k hk e => ?_⟩
  have h1 := (how3.nears a ha).2 k hk
  have h2 := ((hob3.nears b hb).1.lt k e).1
  omega⟩
 have HT3 := hide (HTH.out w3 (.slice ca (ws.length + bs.length) cc) (ws ++ bs) (Zah ws) (Zah bs) (by simp [Zah]) w.heap.size w3.heap.size (HB2.out.trans (B3.mono (by omega))) hcat (Nat.le_refl _) (by rw [Zjp]; omega) (Zfv HBW.out (fun to d h => ZaH h)) (Zfv HBB.out (fun to d h => Za5 h)))
 have HW3 := hide how3
 have HO3 := hide hob3
 have HB3 := hide B3
 have HS2 := hide hs2
 clear how3 hob3 hcat hoc b3 HTH HCC HOW HOB B3 hs2 HBL
 go_wp2_with fail
 refine HT3.out.mono ?_
 rintro e w4 ⟨vt, ts, rfl, holt, hbt, hot, b4⟩
 obtain ⟨ta, tc, rfl⟩ := Zac hot.row
 have hb4 := b4.size
 have how4 := HW3.out.below b4 (by omega)
 have hob4 := HO3.out.below b4 (by omega)
 have HI1 := hide (Zg4 (.slice wsa ws.length wsc) ws w.heap.size w1.heap.size 1 src w4 how4 (by omega) (by omega))
 have HW4 := hide how4
 have HO4 := hide hob4
 have HT4 := hide hot
 have HBT := hide hbt
 have HOL := hide holt
 have B4 := hide (HB2.out.trans ((HB3.out.trans (b4.mono (by omega))).mono (by omega)))
 clear how4 hob4 hot hbt holt b4 HT3 HW3 HO3 HB3 HB2
 go_wp2_with fail
 refine HI1.out.mono ?_
 rintro e w5 ⟨v1, rfl, ho1, b5⟩
 obtain ⟨n1a, n1c, rfl⟩ := Zac ho1
 have hb5 := b5.size
 have HI2 := hide (Zg4 (.slice bsa bs.length bsc) bs w1.heap.size w2.heap.size 2 src w5 (HO4.out.below b5 (by omega)) (by omega) (by omega))
 have HN1 := hide ho1
 have HB5 := hide b5
 clear ho1 b5 HI1
 go_wp2_with fail
 refine HI2.out.mono ?_
 rintro e w6 ⟨v2, rfl, ho2, b6⟩
 obtain ⟨n2a, n2c, rfl⟩ := Zac ho2
 have hb6 := b6.size
 have r1 := Zae HN1.out b6 (Nat.le_refl _)
 have B56 : Below w4.heap.size w4 w6 := HB5.out.trans (b6.mono hb5)
 have r3 := Zae HT4.out.row B56 (Nat.le_refl _)
 have hw6 := HW4.out.below B56 (by omega)
 have hb6' := HO4.out.below B56 (by omega)
 have ht6 := HT4.out.below B56 (Nat.le_refl _)
 have hxl := heap_alloc_new w6 (.cells #[.slice n1a (ZaF 1 src ws).length n1c, .slice n2a (ZaF 2 src bs).length n2c, .slice ta ts.length tc] 37)
 have q1 := ZbU hw6 1 src
 have q2 := ZbU hb6' 2 src
 have hl1 := Zd0 1 src ws
 have hl2 := Zd0 2 src bs
 have hl3 : ts.length <= 9 := by
  have h := Zd3 HBT.out.1 (fun d hd => by
   obtain ⟨y, hy, rfl⟩ := List.mem_map.1 hd
   obtain ⟨b, hb, rfl⟩ := List.mem_map.1 hy
   exact (HOL.out b hb).node)
  simpa [ZaA] using h
 have HCQ := hide (Zji [(.slice n1a (ZaF 1 src ws).length n1c, ZaF 1 src ws), (.slice n2a (ZaF 2 src bs).length n2c, ZaF 2 src bs), (.slice ta ts.length tc, ts)] w6.heap.size (w6.alloc (.cells #[.slice n1a (ZaF 1 src ws).length n1c, .slice n2a (ZaF 2 src bs).length n2c, .slice ta ts.length tc] 37))
  (fun j x hj => by
   have h := Zaa hxl j
   rw [h]
   match j, hj with
   | 0, hj => simp at hj; subst hj; rfl
   | 1, hj => simp at hj; subst hj; rfl
   | 2, hj => simp at hj; subst hj; rfl
   | j + 3, hj => simp at hj)
  (fun x hx => by
   simp only [List.mem_cons, List.not_mem_nil, or_false] at hx
   rcases hx with rfl | rfl | rfl
   ·exact ⟨_, r1.alloc _⟩
   ·exact ⟨_, ho2.alloc _⟩
   ·exact ⟨_, r3.alloc _⟩)
  (fun x hx => by
   simp only [List.mem_cons, List.not_mem_nil, or_false] at hx
   rcases hx with rfl | rfl | rfl
   ·exact fun p hp => ZhB (q1 p hp)
   ·exact fun p hp => ZhB (q2 p hp)
   ·exact fun p hp => ZhB (ht6.nears p hp))
  (by simp [sumL]; omega) (by simp) (by simp))
 rw [Zk7, List.length_append, List.length_append] at HCQ
 have HQ1 := hide q1
 have HQ2 := hide q2
 have HA1 := hide (Zc0 hw6 1 src)
 have HA2 := hide (Zc0 hb6' 2 src)
 have HT6 := hide ht6
 have B6 := hide (B4.out.trans (B56.mono (by omega)))
 have BZ := hide ((Below.refl w6.heap.size w6).alloc (Nat.le_refl _) (.cells #[.slice n1a (ZaF 1 src ws).length n1c, .slice n2a (ZaF 2 src bs).length n2c, .slice ta ts.length tc] 37))
 clear hxl q1 q2 hw6 hb6' ht6 r1 r3 ho2 b6 B56 HI2 HN1 HB5 HW4 HO4 HT4 B4
 go_wp2_with fail
 refine HCQ.out.mono ?_
 rintro e w7 ⟨x, rfl, hox, b7⟩
 obtain ⟨xa, xc, rfl⟩ := Zac hox
 have hs6 := BZ.out.size
 have B67 : Below w6.heap.size w6 w7 := BZ.out.trans (b7.mono hs6)
 have hb7 := B67.size
 have hlow := B6.out.size
 have hw67 : w.heap.size <= w6.heap.size := by omega
 have RO : RtsOwn w7 w.heap.size w7.heap.size (.slice xa ((ZaF 1 src ws).length + (ZaF 2 src bs).length + ts.length) xc) (ZaF 1 src ws ++ ZaF 2 src bs ++ ts) := ⟨by rw [List.length_append, List.length_append]; exact Zag hox (by omega), fun k hk => (hox.lt k hk).2, fun p hp => by
  rcases List.mem_append.1 hp with h0 | h0
  ·rcases List.mem_append.1 h0 with h1 | h1
   ·exact ((HQ1.out p h1).keep (fun j _ h2 h3 => B67.block j h3)).wide (Nat.le_refl _) (by omega)
   ·exact ((HQ2.out p h1).keep (fun j _ h2 h3 => B67.block j h3)).wide hb1 (by omega)
  ·exact ((HT6.out.nears p h0).keep (fun j _ h2 h3 => B67.block j h3)).wide (by omega) (by omega), by
  rw [List.pairwise_append, List.pairwise_append]
  refine ⟨⟨HA1.out, HA2.out, fun a ha b hb k hk e => ?_⟩, HT6.out.apart, fun a ha b hb k hk e => ?_⟩
  ·have h1 := (HQ1.out a ha).2 k hk
   have h2 := ((HQ2.out b hb).1.lt k e).1
   omega
  ·have h2 := ((HT6.out.nears b hb).1.lt k e).1
   rcases List.mem_append.1 ha with h0 | h0
   ·have h1 := (HQ1.out a h0).2 k hk
    omega
   ·have h1 := (HQ2.out a h0).2 k hk
    omega⟩
 have HRO := hide RO
 have HIR := hide (show Zcx (fsts ps) al border src (ZaA (ZaF 1 src ws ++ ZaF 2 src bs ++ ts)) from ⟨Zah ws, Zah bs, (ZaA ts).map wOf, HBW.out, HBB.out, HBT.out, by rw [ZaQ, ZaQ, ZdX, ZdX, ZjH HOL.out]⟩)
 have HBF := hide (B6.out.trans (B67.mono hw67))
 clear RO hox b7 B67 HQ1 HQ2 HA1 HA2 HT6 BZ HCQ B6
 go_wp2
 go_ret
 first
  | exact ⟨_, _, rfl, HIR.out, HRO.out, HBF.out⟩
  | exact ⟨_, rfl, _, HIR.out, HRO.out, HBF.out⟩
def Zbj (far : Bool) (f c : Int) : Int := if far then 4000000000000 + f * 1000000 + c else 3000000000000 + c
def ZgH (far : Bool) (c : Int) : Int := if far then c else 0
def Zh0 (far : Bool) (c k : Int) : Int := if far then k else k + c
theorem Zok (far : Bool) (c k : Int) : Zbj far (ZgH far c) (Zh0 far c k) = ZfW far c k := by
 unfold Zbj ZgH Zh0 ZfW
 cases far
 ·simp; omega
 ·simp
structure ThIn (key : Int) (far : Bool) (q : RtD) : Prop where
 thing : q.thing = true
 to : q.to = key
 kind : q.kind = if far then 4 else 3
 cost : 0 <= q.cost /\ q.cost <= 61000
 far : 0 <= q.far /\ q.far <= 1000 /\ (far = false -> q.far = 0)
def Zl5 (key : Int) : RtD := ⟨true, key, 3, 0, 0, []⟩
def ThSt (key : Int) (far : Bool) (F : Bool) (q : RtD) (S : WayD -> Prop) : Prop :=
 if F then ThIn key far q /\ ZaD key S (some ⟨key, Zbj far q.far q.cost, q.hops⟩) else q = Zl5 key /\ ZaD key S none
theorem ThIn.rt {key : Int} {far : Bool} {q : RtD} (h : ThIn key far q) : rtOf ⟨key, Zbj far q.far q.cost, q.hops⟩ = q := by
 obtain ⟨h1, h2, h3, h4, h5⟩ := h
 obtain ⟨th, to, kind, cost, fa, hops⟩ := q
 simp only at h1 h2 h3 h4 h5
 subst h1
 subst h2
 subst h3
 unfold rtOf Zbj
 cases far
 ·have h6 : fa = 0 := h5.2.2 rfl
  subst h6
  simp only [Bool.false_eq_true, if_false]
  rw [if_pos (by omega)]
  congr 1
  omega
 ·simp only [if_true]
  rw [if_neg (by omega)]
  congr 1 <;> omega
theorem Zne {l : List Int} (ha : l.Pairwise (· < ·)) (h6 : Hop6 l) : addL [] l = l :=
 (ZeB ha (fun x => by simp) h6).symm
theorem ZjG {far : Bool} {f c f' c' : Int} (h0 : 0 <= c) (h1 : c <= 61000) (h0' : 0 <= c') (h1' : c' <= 61000) (hf : far = false -> f = 0) (hf' : far = false -> f' = 0) : Zbj far f c < Zbj far f' c' ↔ f < f' \/ (f = f' /\ c < c') := by
 unfold Zbj
 cases far
 ·have := hf rfl
  have := hf' rfl
  simp only [Bool.false_eq_true, if_false]
  omega
 ·simp only [if_true]
  omega
theorem ThSt.less {key : Int} {far F : Bool} {q : RtD} {S : WayD -> Prop} {m c : Int} {l : List Int} (h : ThSt key far F q S) (hS : ∀ w, S w -> Hop6 w.hops) (hl : F = true -> m < q.far \/ (m = q.far /\ c < q.cost))
  (hm : 0 <= m /\ m <= 1000 /\ (far = false -> m = 0)) (hc : 0 <= c /\ c <= 61000) (ha : l.Pairwise (· < ·)) (h6 : Hop6 l) :
  ThSt key far true ⟨true, key, if far then 4 else 3, c, m, l⟩ (fun x => S x \/ x = ⟨key, Zbj far m c, l⟩) := by
 unfold ThSt at h |-
 rw [if_pos rfl]
 refine ⟨⟨rfl, rfl, rfl, hc, hm⟩, ?_⟩
 cases F
 ·rw [if_neg (by simp)] at h
  exact h.2.add Ze9 hS (w := ⟨key, Zbj far m c, l⟩) rfl ha h6
 ·rw [if_pos rfl] at h
  obtain ⟨hq, hb⟩ := h
  have h1 := hb.add Ze9 hS (w := ⟨key, Zbj far m c, l⟩) rfl ha h6
  have h2 : Zbj far m c < Zbj far q.far q.cost := (ZjG hc.1 hc.2 hq.cost.1 hq.cost.2 hm.2.2 hq.far.2.2).2 (hl rfl)
  have e : togD ⟨key, Zbj far q.far q.cost, q.hops⟩ ⟨key, Zbj far m c, l⟩ = ⟨key, Zbj far m c, l⟩ := by
   unfold togD Zbb
   rw [if_neg (by simp; omega), if_pos (by simpa using h2)]
  have h3 : Zd9 togD (some ⟨key, Zbj far q.far q.cost, q.hops⟩) (some ⟨key, Zbj far m c, l⟩) = some ⟨key, Zbj far m c, l⟩ := by unfold Zd9; simp only []; rw [e]
  rw [h3] at h1
  exact h1
theorem ThSt.like {key : Int} {far : Bool} {q : RtD} {S : WayD -> Prop} {l : List Int} (h : ThSt key far true q S) (hS : ∀ w, S w -> Hop6 w.hops) (ha : l.Pairwise (· < ·)) (h6 : Hop6 l) :
  ThSt key far true ⟨true, key, if far then 4 else 3, q.cost, q.far, addL q.hops l⟩ (fun x => S x \/ x = ⟨key, Zbj far q.far q.cost, l⟩) := by
 unfold ThSt at h |-
 rw [if_pos rfl] at h |-
 obtain ⟨hq, hb⟩ := h
 refine ⟨⟨rfl, rfl, rfl, hq.cost, hq.far⟩, ?_⟩
 have h1 := hb.add Ze9 hS (w := ⟨key, Zbj far q.far q.cost, l⟩) rfl ha h6
 have e : togD ⟨key, Zbj far q.far q.cost, q.hops⟩ ⟨key, Zbj far q.far q.cost, l⟩ = ⟨key, Zbj far q.far q.cost, addL q.hops l⟩ := by
  unfold togD Zbb
  rw [if_neg (by simp), if_neg (by simp)]
 have h3 : Zd9 togD (some ⟨key, Zbj far q.far q.cost, q.hops⟩) (some ⟨key, Zbj far q.far q.cost, l⟩) = some ⟨key, Zbj far q.far q.cost, addL q.hops l⟩ := by unfold Zd9; simp only []; rw [e]
 rw [h3] at h1
 exact h1
theorem ThSt.worse {key : Int} {far : Bool} {q : RtD} {S : WayD -> Prop} {m c : Int} {l : List Int} (h : ThSt key far true q S) (hS : ∀ w, S w -> Hop6 w.hops) (hl : ¬ (m < q.far \/ (m = q.far /\ c < q.cost))) (hn : ¬ (m = q.far /\ c = q.cost))
  (hm : 0 <= m /\ m <= 1000 /\ (far = false -> m = 0)) (hc : 0 <= c /\ c <= 61000) (ha : l.Pairwise (· < ·)) (h6 : Hop6 l) :
  ThSt key far true q (fun x => S x \/ x = ⟨key, Zbj far m c, l⟩) := by
 unfold ThSt at h |-
 rw [if_pos rfl] at h |-
 obtain ⟨hq, hb⟩ := h
 refine ⟨hq, ?_⟩
 have h1 := hb.add Ze9 hS (w := ⟨key, Zbj far m c, l⟩) rfl ha h6
 have h2 : Zbj far q.far q.cost < Zbj far m c := (ZjG hq.cost.1 hq.cost.2 hc.1 hc.2 hq.far.2.2 hm.2.2).2 (by omega)
 have e : togD ⟨key, Zbj far q.far q.cost, q.hops⟩ ⟨key, Zbj far m c, l⟩ = ⟨key, Zbj far q.far q.cost, q.hops⟩ := by
  unfold togD Zbb
  rw [if_pos (by simpa using h2)]
 have h3 : Zd9 togD (some ⟨key, Zbj far q.far q.cost, q.hops⟩) (some ⟨key, Zbj far m c, l⟩) = some ⟨key, Zbj far q.far q.cost, q.hops⟩ := by unfold Zd9; simp only []; rw [e]
 rw [h3] at h1
 exact h1
theorem ThSt.congr {key : Int} {far F : Bool} {q : RtD} {S T : WayD -> Prop} (h : ThSt key far F q S) (e : ∀ d, S d ↔ T d) : ThSt key far F q T := by
 have : S = T := funext fun w => propext (e w)
 rw [<- this]
 exact h
def thK (xs : List RecD) (ds es : List WayD) (src key : Int) (far : Bool) (k : Nat) (d : WayD) : Prop := ∃ r ∈ xs.take k, r.key = key /\ r.far = far /\ ZbO ds es src r d
theorem ZjQ {xs : List RecD} {ds es : List WayD} {src key : Int} {far : Bool} {k : Nat} {r : RecD} (h : xs[k]? = some r) (d : WayD) : thK xs ds es src key far (k + 1) d ↔ thK xs ds es src key far k d \/ (r.key = key /\ r.far = far /\ ZbO ds es src r d) := by
 obtain ⟨hk, e⟩ := List.getElem?_eq_some_iff.1 h
 unfold thK
 rw [List.take_succ_eq_append_getElem hk, e]
 constructor
 ·rintro ⟨x, hx, ht⟩
  rcases List.mem_append.1 hx with h1 | h1
  ·exact .inl ⟨x, h1, ht⟩
  ·have : x = r := by simpa using h1
   subst this
   exact .inr ht
 ·rintro (⟨x, hx, ht⟩ | ht)
  ·exact ⟨x, List.mem_append.2 (.inl hx), ht⟩
  ·exact ⟨r, List.mem_append.2 (.inr (by simp)), ht⟩
theorem ZcH {xs : List RecD} {ds es : List WayD} {src key : Int} {far F : Bool} {k : Nat} {r : RecD} {q : RtD} (h : xs[k]? = some r) (hst : ThSt key far F q (thK xs ds es src key far k)) (hn : r.key = key -> r.far = far -> ∀ d, ¬ ZbO ds es src r d) : ThSt key far F q (thK xs ds es src key far (k + 1)) :=
 hst.congr (fun d => by
  rw [ZjQ h]
  exact ⟨.inl, fun h' => by
   rcases h' with h1 | ⟨h1, h2, h3⟩
   ·exact h1
   ·exact absurd h3 (hn h1 h2 d)⟩)
theorem Zng {xs : List RecD} {ds es : List WayD} {src key : Int} {far : Bool} {k : Nat} {r : RecD} {e : WayD} (h : xs[k]? = some r) (h1 : r.key = key) (h2 : r.far = far) (h3 : ZbO ds es src r e) (d : WayD) : (thK xs ds es src key far k d \/ d = e) ↔ thK xs ds es src key far (k + 1) d := by
 rw [ZjQ h]
 constructor
 ·rintro (h' | rfl)
  ·exact .inl h'
  ·exact .inr ⟨h1, h2, h3⟩
 ·rintro (h' | ⟨_, _, h'⟩)
  ·exact .inl h'
  ·exact .inr (ZiK h' h3)
theorem Zoa {xs : List RecD} {ds es : List WayD} {src key : Int} {far : Bool} {k : Nat} (hs : ZaE xs = true) (hd : Zdq ds) (he : Zdq es) : ∀ w, thK xs ds es src key far k w -> Hop6 w.hops := by
 rintro w ⟨r, hr, _, _, h⟩
 exact (Zdy hs (List.mem_of_mem_take hr) hd he h).hop6
theorem ZnJ {xs : List RecD} {ds es : List WayD} {src key : Int} {far : Bool} : ThSt key far false (Zl5 key) (thK xs ds es src key far 0) := by
 unfold ThSt
 rw [if_neg (by simp)]
 exact ⟨rfl, fun w ⟨r, hr, _⟩ => by simp at hr⟩
theorem Zlb {xs : List RecD} {ds es : List WayD} {src key : Int} {q : RtD} (hs : ZaE xs = true) (hd : Zdq ds) (he : Zdq es) (h : ThSt key false true q (thK xs ds es src key false xs.length)) : ThIn key false q /\ ZaD key (ZcY xs ds es src key) (some ⟨key, Zbj false q.far q.cost, q.hops⟩) := by
 unfold ThSt at h
 rw [if_pos rfl] at h
 obtain ⟨hq, h1, ⟨u, ⟨r, hr, hk, hf, ho⟩, hc⟩, h3, h4, h5⟩ := h
 rw [List.take_length] at hr
 have hto : ∀ (r : RecD) (w : WayD), ZbO ds es src r w -> w.to = r.key := by rintro r w ⟨_, _, v, _, rfl⟩; rfl
 have hlow : Zbj false q.far q.cost <= 3000000061000 := by unfold Zbj; simp; have := hq.cost; omega
 have hfar : ∀ (r : RecD) (w : WayD), r ∈ xs -> r.far = true -> ZbO ds es src r w -> 4000000000000 <= w.cost := by
  rintro r w hr hf ho
  have hg := Zdy hs hr hd he ho
  obtain ⟨h1, h2, v, h3, rfl⟩ := ho
  have := ZcV hd he h3
  have := ZdF hs hr h1 h2
  show 4000000000000 <= ZfW r.far r.cost v.cost
  unfold ZfW
  rw [if_pos hf]
  omega
 refine ⟨hq, h1, ⟨u, ⟨by rw [hto r u ho, hk], r, hr, ho⟩, hc⟩, ?_, h4, ?_⟩
 ·rintro w ⟨e, r', hr', ho'⟩
  cases hf' : r'.far
  ·exact h3 w ⟨r', by rw [List.take_length]; exact hr', by rw [<- e, hto r' w ho'], hf', ho'⟩
  ·have := hfar r' w hr' hf' ho'
   show Zbj false q.far q.cost <= w.cost
   omega
 ·intro x
  rw [h5 x]
  constructor
  ·rintro ⟨w, ⟨r', hr', hk', hf', ho'⟩, e, hx⟩
   rw [List.take_length] at hr'
   exact ⟨w, ⟨by rw [hto r' w ho', hk'], r', hr', ho'⟩, e, hx⟩
  ·rintro ⟨w, ⟨e, r', hr', ho'⟩, ec, hx⟩
   cases hf' : r'.far
   ·exact ⟨w, ⟨r', by rw [List.take_length]; exact hr', by rw [<- e, hto r' w ho'], hf', ho'⟩, ec, hx⟩
   ·have := hfar r' w hr' hf' ho'
    simp only at ec
    omega
theorem Zld {xs : List RecD} {ds es : List WayD} {src key : Int} {F : Bool} {q q0 : RtD} (h0 : ThSt key false false q0 (thK xs ds es src key false xs.length)) (h : ThSt key true F q (thK xs ds es src key true xs.length)) : ThSt key true F q (ZcY xs ds es src key) := by
 refine h.congr (fun d => ?_)
 unfold ThSt at h0
 rw [if_neg (by simp)] at h0
 have hto : ∀ (r : RecD) (w : WayD), ZbO ds es src r w -> w.to = r.key := by rintro r w ⟨_, _, v, _, rfl⟩; rfl
 constructor
 ·rintro ⟨r, hr, hk, _, ho⟩
  rw [List.take_length] at hr
  exact ⟨by rw [hto r d ho, hk], r, hr, ho⟩
 ·rintro ⟨e, r, hr, ho⟩
  cases hf : r.far
  ·exact absurd ⟨r, by rw [List.take_length]; exact hr, by rw [<- e, hto r d ho], hf, ho⟩ (h0.2 d)
  ·exact ⟨r, by rw [List.take_length]; exact hr, by rw [<- e, hto r d ho], hf, ho⟩
end Go.Proofs.YtakiifededfjlaaGreat
