/-
  The law FnRoutes answers true at every argument, and each argument reads afterwards as it read before; no condition. (Here: from the walk to the given statement.)
  The law FnRoutes, walked.
-/
import Derived.Test.YtakiifededfjlaaGreatRm15
import Derived.Test.YtakiifededfjlaaGreatRm16
import Derived.Test.YtakiifededfjlaaGreatRm17
import Derived.Test.YtakiifededfjlaaGreatRm18
import Derived.Test.YtakiifededfjlaaGreatRm26
import Derived.Test.YtakiifededfjlaaGreatRm28
import Derived.Deep.CutRange
import Derived.ProofKit
import Derived.OpenShut
import Derived.ShutString
import Derived.ChangeOld
namespace Go.Proofs.YtakiifededfjlaaGreat
open Go.RowKit
set_option linter.unusedSimpArgs false
set_option linter.unusedVariables false
set_option maxRecDepth 100000
set_option maxHeartbeats 8000000
theorem ZlP {x : NetD} (h : Zbe x = true) : ∀ t ∈ x.ts, 1 <= t.o /\ t.o <= x.n := by
 simp only [Zbe, Bool.and_eq_true] at h
 intro t ht
 have := ZnS h.2 t ht
 simp only [Zd7, inB, Bool.and_eq_true, decide_eq_true_eq] at this
 omega
theorem ZdG {B n : Nat} {w w1 : World} (h : Below B w w1) : Below B w (w1.drewN n) := h.trans ⟨rfl, rfl, rfl, Nat.le_refl _, fun _ _ => rfl⟩
structure LawR (ds es : List WayD) (src : Int) (l : List RtD) : Prop where
 rel : l.Pairwise RelR
 one : ∀ r ∈ l, OneR ds es src r
theorem Zod {xs : List RecD} {al : List Int} {border : Bool} {src : Int} {l : List RtD} {ds es : List WayD} (h : Zcx xs al border src l) (hd : Zav (Zar xs al src) ds) (he : Zav (Zbf xs al border src) es) : LawR ds es src l := by
 obtain ⟨ds', es', ts, h1, h2, h3, rfl⟩ := h
 have e1 := hd.unique h1
 have e2 := he.unique h2
 subst e1 e2
 exact ⟨Zkl hd he h3.1, Zkz hd he⟩
theorem ZmS {l : List RtD} {n m : Nat} (h : l.length <= n) (hm : ∀ r ∈ l, r.hops.length <= m) : Ziq l <= n * (m + 1) := by
 induction l generalizing n with
 | nil => simp [Ziq]
 | cons a l ih =>
  rw [Zk5]
  simp only [List.length_cons] at h
  obtain ⟨k, rfl⟩ : ∃ k, n = k + 1 := ⟨n - 1, by omega⟩
  have h1 := ih (n := k) (by omega) (fun r hr => hm r (by simp [hr]))
  have h2 := hm a (by simp)
  rw [Nat.add_mul]
  omega
theorem Zkx {xs : List RecD} {al : List Int} {border : Bool} {src : Int} {l : List RtD} (h : Zcx xs al border src l) (hs : ZaE xs = true) : Ziq l <= 147 := by
 obtain ⟨ds, es, ts, h1, h2, h3, rfl⟩ := h
 have g1 := h1.good (fun t0 d h => ZaH h)
 have g2 := h2.good (fun t0 d h => Za5 h)
 have g3 := h3.goodT (fun t0 d h => ZcL hs g1 g2 h)
 have l1 := Zc8 h1.1 (fun d hd => (g1 d hd).node)
 have l2 := Zc8 h2.1 (fun d hd => (g2 d hd).node)
 have l3 := Zd3 h3.1 (fun d hd => (g3 d hd).node)
 have n1 : (Zb7 1 src ds).length <= ds.length := by unfold Zb7; rw [List.length_map]; exact List.length_filter_le _ _
 have n2 : (Zb7 2 src es).length <= es.length := by unfold Zb7; rw [List.length_map]; exact List.length_filter_le _ _
 have := ZmS (n := 21) (m := 6) (l := Zb7 1 src ds ++ Zb7 2 src es ++ ts.map rtOf) (by simp only [List.length_append, List.length_map]; omega) (fun r hr => by
  rcases List.mem_append.1 hr with h | h
  ·rcases List.mem_append.1 h with h | h
   ·obtain ⟨d, hd, _, rfl⟩ := ZbX h; exact (g1 d hd).len
   ·obtain ⟨d, hd, _, rfl⟩ := ZbX h; exact (g2 d hd).len
  ·obtain ⟨d, hd, rfl⟩ := List.mem_map.1 h
   have := (g3 d hd).len
   unfold rtOf
   split <;> exact this)
 omega
theorem fnRoutes_walk (a : Option Addr) (len cap : Nat) (w : World) (hw : len <= 1048576 -> Code w a len w.heap.size) :
  Calls Tryz.prog 3 #[.slice a len cap] w fun e w' => e = .returned (.bool true) /\ Below w.heap.size w w' := by
 have HW := hide hw
 clear hw
 by_cases hlen : len <= 1048576
 case neg =>
  have HBIG := hide (ZlX a len cap)
  rw [decide_eq_true (show (1048576 : Int) < (len : Int) by omega)] at HBIG
  go_enter Tryz.func3, Tryz.ntmps3
  go_wp2_with fail
  refine (HBIG.out _).mono ?_
  rintro e w1 ⟨rfl, rfl⟩
  go_wp2
  go_ret
  exact ⟨rfl, Below.refl _ _⟩
 have HBIG := hide (ZlX a len cap)
 rw [decide_eq_false (show ¬ (1048576 : Int) < (len : Int) by omega)] at HBIG
 have HCODE := hide (HW.out hlen)
 clear HW
 go_enter Tryz.func3, Tryz.ntmps3
 go_wp2_with fail
 refine (HBIG.out _).mono ?_
 rintro e w1 ⟨rfl, rfl⟩
 go_wp2_with fail
 refine (ZkN a len cap _ HCODE.out).mono ?_
 rintro e w1 ⟨x, v, y, z, ys, zs, rfl, hok, hnet, hbl, b1⟩
 obtain ⟨hy, hz, hyl, hzl⟩ := hbl.out
 have hth := ZlP hok
 have hn6 := ZhR hok
 have hl12 := Zj2 hok
 obtain ⟨n, ls, ts⟩ := x
 obtain ⟨v1, v2, rfl, h1, h2⟩ := hnet
 simp only [] at hth hn6 hl12 h1 h2 hyl hzl
 obtain ⟨N, rfl⟩ : ∃ N : Nat, n = (N : Int) := ⟨n.toNat, by omega⟩
 have BA : Below w1.heap.size w1 (w1.alloc (.cells #[.int .i64 (N : Int), v1, v2] 27)) := (Below.refl _ _).alloc (Nat.le_refl _) _
 have HST := hide (Zjs (bs := ys) (zs := zs) hok)
 have HID := hide (Zkk v1 v2 y z N ls ts ys zs (w1.alloc (.cells #[.int .i64 (N : Int), v1, v2] 27)) hok (by omega) (by omega) hl12.1 hl12.2 hth (ZaR.then h1 BA) (ZaR.then h2 BA) (ZaR.then hy BA) (ZaR.then hz BA) hyl (by omega))
 obtain ⟨a1, c1, rfl⟩ := h1.shape
 obtain ⟨a2, c2, rfl⟩ := h2.shape
 obtain ⟨a3, c3, rfl⟩ := hy.shape
 obtain ⟨a4, c4, rfl⟩ := hz.shape
 have hx1 : (w1.alloc (.cells #[.int .i64 (N : Int), .slice a1 ls.length c1, .slice a2 ts.length c2] 27)).heap[w1.heap.size]? = some (.cells #[.int .i64 (N : Int), .slice a1 ls.length c1, .slice a2 ts.length c2] 27) := heap_alloc_new w1 _
 have HX1 := hide hx1
 have HB1 := hide (b1.trans (BA.mono b1.size))
 have hN1 : 1 <= N := by omega
 have hN6 : N <= 6 := by omega
 have HLK := hide (fun W (hb : Below (w1.alloc (.cells #[.int .i64 (N : Int), .slice a1 ls.length c1, .slice a2 ts.length c2] 27)).heap.size (w1.alloc (.cells #[.int .i64 (N : Int), .slice a1 ls.length c1, .slice a2 ts.length c2] 27)) W) => (ZaR.then (ZaR.then h1 BA) hb))
 have hl12a := hl12.1
 clear hx1 hok h1 h2 hy hz hyl hzl hth hl12 hbl b1 BA HCODE HBIG hn6
 go_wp2_with fail
 refine HID.out.mono ?_
 rintro e w3 ⟨o, qs, rfl, hqs, htq, ho, b3⟩
 obtain ⟨oa, oc, rfl⟩ := Zac ho.row
 have hx3 := (b3.block _ (Zab HX1.out)).trans HX1.out
 have B3 : Below w.heap.size w w3 := HB1.out.trans (b3.mono HB1.out.size)
 obtain ⟨xs, hxs⟩ : ∃ xs, xs = fsts qs := ⟨_, rfl⟩
 have hst : ZaE xs = true := by rw [hxs, hqs]; exact HST.out
 have HAR := hide (fun (f : Int) W (hb : Below w3.heap.size w3 W) => Zfr (.int .i64 (N : Int)) (.slice a1 ls.length c1) (.slice a2 ts.length c2) ls f W (by omega) (HLK.out W (b3.trans (hb.mono b3.size))))
 have HBO := hide (fun (f : Int) W (hb : Below w3.heap.size w3 W) => Zgt (.int .i64 (N : Int)) (.slice a1 ls.length c1) (.slice a2 ts.length c2) ls f W (by omega) (HLK.out W (b3.trans (hb.mono b3.size))))
 have HRI := hide (fun u al hi bo (f : Int) W (hb : Below w3.heap.size w3 W) (ha : ZaK W u al hi) (h3 : w3.heap.size <= hi) (hh : hi <= W.heap.size) (hal : al.length <= 1048576) => Zje (.slice oa qs.length oc) u qs al hi bo f W ((ho.in.below hb (Nat.le_refl _)).wide h3) ha hh (by omega) hal (by rw [<- hxs]; exact hst))
 have HRS := hide (fun u al hi bo (f : Int) W (hb : Below w3.heap.size w3 W) (ha : ZaK W u al hi) (h3 : w3.heap.size <= hi) (hh : hi <= W.heap.size) (hal : al.length <= 1048576) => Zjf (.slice oa qs.length oc) u qs al hi bo f W ((ho.in.below hb (Nat.le_refl _)).wide h3) ha hh (by omega) hal (by rw [<- hxs]; exact hst))
 have HWI := hide (fun u al hi (f : Int) W (hb : Below w3.heap.size w3 W) (ha : ZaK W u al hi) (h3 : w3.heap.size <= hi) (hh : hi <= W.heap.size) (hal : al.length <= 1048576) => Zen (.slice oa qs.length oc) u qs al hi f W ((ho.in.below hb (Nat.le_refl _)).wide h3) ha hh (by omega) hal)
 have HBY := hide (fun u al hi bo (f : Int) W (hb : Below w3.heap.size w3 W) (ha : ZaK W u al hi) (h3 : w3.heap.size <= hi) (hh : hi <= W.heap.size) (hal : al.length <= 1048576) => ZfU (.slice oa qs.length oc) u qs al hi bo f W ((ho.in.below hb (Nat.le_refl _)).wide h3) ha hh (by omega) hal)
 rw [<- hxs] at HRI HRS HWI HBY
 have HSTO := hide hst
 have HX3 := hide hx3
 have HB3 := hide B3
 clear hqs htq ho b3 hst hx3 B3 HST HID HX1 HB1 hxs HLK
 go_wp2
 go_loopw [8] (fun i wr => ∃ v : Nat, 1 <= v /\ v <= N + 1 /\ i = .int .i64 (v : Int) /\ Below w3.heap.size w3 wr) (fun i _ => 8 - (intOf i).toNat)
 case atStart => exact ⟨1, by omega, by omega, rfl, Below.refl _ _⟩
 case round =>
  rename World => wa
  obtain ⟨v, hv1, hvN, rfl, ba⟩ := hrel
  have hxa := (ba.block _ (Zab HX3.out)).trans HX3.out
  have n0 := Zaa hxa 0
  have n1 := Zaa hxa 1
  have n2 := Zaa hxa 2
  simp only [List.getElem?_toArray, List.getElem?_cons_succ, List.getElem?_cons_zero] at n0 n1 n2
  have hba := ba.size
  have h1l := Zab HX3.out
  by_cases hlv : v <= N
  ·have hlv' : (v : Int) <= (N : Int) := by omega
   have HXA := hide hxa
   have HBA := hide ba
   clear hxa ba
   go_wp2_with fail
   refine (HAR.out (v : Int) _ HBA.out).mono ?_
   rintro e w4 ⟨u, rfl, hu, b4⟩
   obtain ⟨al, HAL⟩ : ∃ al, Hid (al = ZaU ls (v : Int)) := ⟨_, hide rfl⟩
   rw [<- HAL.out] at hu
   have hal3 : al.length <= 3 := by rw [HAL.out]; exact Zda ls _
   obtain ⟨ua, uc, rfl⟩ := Zac hu
   rw [<- Zb0] at hu
   have hb4 := b4.size
   have hx4 := (b4.block _ (by omega)).trans HXA.out
   have m0 := Zaa hx4 0
   have m1 := Zaa hx4 1
   have m2 := Zaa hx4 2
   simp only [List.getElem?_toArray, List.getElem?_cons_succ, List.getElem?_cons_zero] at m0 m1 m2
   have HB4 := hide (HBA.out.trans (b4.mono hba))
   have HU4 := hide (ZaN hu)
   have HX4 := hide hx4
   clear hu b4 hx4 n0 n1 n2 HAL
   go_wp2_with fail
   refine (HBO.out (v : Int) _ HB4.out).mono ?_
   rintro e w5 ⟨rfl, b5⟩
   obtain ⟨bo, HBD⟩ : ∃ bo, Hid (bo = ZhW ls (v : Int)) := ⟨_, hide rfl⟩
   rw [<- HBD.out]
   clear HBD
   have hb5 := b5.size
   have HX5 := hide ((b5.block _ (Zab HX4.out)).trans HX4.out)
   have HB5 := hide (HB4.out.trans (b5.mono HB4.out.size))
   have HU5 := hide (ZaR.later HU4.out b5 (Nat.le_refl _))
   clear b5 m0 m1 m2
   go_wp2_with fail
   refine (HRI.out _ al w4.heap.size bo (v : Int) _ HB5.out HU5.out HB4.out.size hb5 (by omega)).mono ?_
   rintro e w6 ⟨vl, ql, rfl, hir, hol, b6⟩
   obtain ⟨qla, qlc, rfl⟩ := Zac hol.row
   have hb6 := b6.size
   have HB6 := hide (HB5.out.trans (b6.mono HB5.out.size))
   have HU6 := hide (ZaR.later HU5.out b6 hb5)
   have HX6 := hide ((b6.block _ (Zab HX5.out)).trans HX5.out)
   have HIR := hide hir
   have HOL6 := hide hol
   clear hir hol b6
   go_wp2_with fail
   refine (HWI.out _ al w4.heap.size (v : Int) _ HB6.out HU6.out HB4.out.size (by omega) (by omega)).mono ?_
   rintro e w7 ⟨vw, ww, rfl, hbw, how, b7⟩
   obtain ⟨wwa, wwc, rfl⟩ := Zac how.row
   have hb7 := b7.size
   have HB7 := hide (HB6.out.trans (b7.mono HB6.out.size))
   have HU7 := hide (ZaR.later HU6.out b7 (by omega))
   have HX7 := hide ((b7.block _ (Zab HX6.out)).trans HX6.out)
   have HOL7 := hide (HOL6.out.below b7 (Nat.le_refl _))
   have HBW := hide hbw
   have HOW7 := hide how
   clear hbw how b7 HOL6
   go_wp2_with fail
   refine (HBY.out _ al w4.heap.size bo (v : Int) _ HB7.out HU7.out HB4.out.size (by omega) (by omega)).mono ?_
   rintro e w8 ⟨vb, wb, rfl, hbb, hob, b8⟩
   obtain ⟨wba, wbc, rfl⟩ := Zac hob.row
   have hb8 := b8.size
   have HB8 := hide (HB7.out.trans (b8.mono HB7.out.size))
   have HU8 := hide (ZaR.later HU7.out b8 (by omega))
   have HX8 := hide ((b8.block _ (Zab HX7.out)).trans HX7.out)
   have HOL8 := hide (HOL7.out.below b8 (by omega))
   have HOW8 := hide (HOW7.out.below b8 (Nat.le_refl _))
   have HBB := hide hbb
   have HOB8 := hide hob
   clear hbb hob b8 HOL7 HOW7
   go_wp2_with fail
   refine (HRS.out _ al w4.heap.size bo (v : Int) _ HB8.out HU8.out HB4.out.size (by omega) (by omega)).mono ?_
   rintro e w9 ⟨vs, qs9, rfl, hir9, hol9, b9⟩
   obtain ⟨qsa, qsc, rfl⟩ := Zac hol9.row
   have hb9 := b9.size
   have hsame := HIR.out.unique hir9
   have hlaw := Zod HIR.out HBW.out HBB.out
   have htq : totQ ql <= 1048576 := by have := Zkx HIR.out HSTO.out; rw [totQ_D]; omega
   have HSR := hide (ZiX (.slice qla ql.length qlc) (.slice qsa qs9.length qsc) ql qs9 w5.heap.size w6.heap.size w8.heap.size w9.heap.size w9 (HOL8.out.below b9 (by omega)) hol9 hsame (by omega) (Nat.le_refl _) htq)
   have HB9 := hide (HB8.out.trans (b9.mono HB8.out.size))
   have HLAW := hide hlaw
   clear hir9 hol9 hsame hlaw
   go_wp2_with fail
   refine HSR.out.mono ?_
   rintro e w10 ⟨rfl, b10⟩
   have hb10 := b10.size
   have HOLX := hide ((HOL8.out.below b9 (by omega)).below b10 (by omega))
   have HOWX := hide ((HOW8.out.below b9 (by omega)).below b10 (by omega))
   have HOBX := hide ((HOB8.out.below b9 (by omega)).below b10 (by omega))
   have htw := ZeV HBW.out (fun t0 d h => ZaH h)
   have htb := ZeV HBB.out (fun t0 d h => Za5 h)
   have HWT := hide (fun (z : Int) W (hb : Below w10.heap.size w10 W) => Zbz (.slice wwa ww.length wwc) ww w6.heap.size w7.heap.size z W (HOWX.out.below hb (by omega)) (by have := hb.size; omega) (by omega))
   have HBT := hide (fun (z : Int) W (hb : Below w10.heap.size w10 W) => Zbz (.slice wba wb.length wbc) wb w7.heap.size w8.heap.size z W (HOBX.out.below hb (by omega)) (by have := hb.size; omega) (by omega))
   have HHT := hide (fun (t : Bool) (z : Int) W (hb : Below w10.heap.size w10 W) => Zgn (.slice qla ql.length qlc) ql w5.heap.size w6.heap.size t z W (HOLX.out.below hb (by omega)) (by have := hb.size; omega) htq)
   have HBX := hide (HB9.out.trans (b10.mono HB9.out.size))
   have h610 : w6.heap.size <= w10.heap.size := by omega
   have hql := ZhU ql
   clear b9 b10 HOL8 HOW8 HOB8 HSR HB9 HB8 HU8 HX8 HB7 HU7 HX7 HB6 HU6 HX6 HB5 HU5 HX5 HB4 HU4 HX4 HIR HBW HBB htw htb HXA HBA
   go_wp2
   go_loopw [14] (fun i wr => ∃ k : Nat, k <= ql.length /\ i = .int .i64 (k : Int) /\ Below w10.heap.size w10 wr) (fun i _ => ql.length - (intOf i).toNat)
   case atStart => exact ⟨0, by omega, rfl, Below.refl _ _⟩
   case round =>
    obtain ⟨k, hk, rfl, hnx⟩ := hrel
    have hsz := hnx.size
    by_cases hlt : k < ql.length
    ·obtain ⟨p, hp⟩ : ∃ p, ql[k]? = some p := ⟨ql[k], List.getElem?_eq_getElem hlt⟩
     have hown := HOLX.out.below hnx (by omega)
     obtain ⟨b, off, cp, hve, hbb, c0, c1, c2, c3, c4, c5, _⟩ := hown.at.cells k p hp
     cases hve
     have hop := hown.nears p (List.mem_of_getElem? hp)
     obtain ⟨pa, pc, hpn⟩ := Zac hop.1
     rw [hpn] at c5
     have hone := HLAW.out.one p.1 (List.mem_map_of_mem (List.mem_of_getElem? hp))
     have hself := Zlu HLAW.out.rel (ZdT hp)
     have hprev : ∀ j, k = j + 1 -> ∃ a : QP, RelR a.1 p.1 /\ wr.cell? ⟨b, off + j * 6, none⟩ = some (.bool a.1.thing) /\ wr.cell? ⟨b, off + j * 6 + 1, none⟩ = some (.int .i64 a.1.«to») /\ wr.cell? ⟨b, off + j * 6 + 2, none⟩ = some (.int .i64 a.1.kind) := fun j hj => by
      subst hj
      obtain ⟨a, ha⟩ : ∃ a, ql[j]? = some a := ⟨ql[j]'(by omega), List.getElem?_eq_getElem _⟩
      obtain ⟨b', off', cp', hve', hbb', g0, g1, g2, _⟩ := hown.at.cells j a ha
      cases hve'
      exact ⟨a, rel_at HLAW.out.rel (ZdT hp) (ZdT ha), g0, g1, g2⟩
     have hr6 : p.1.hops.length <= 1048576 := Nat.le_trans (Zhl (List.mem_of_getElem? hp)) htq
     obtain ⟨r, hr⟩ : ∃ r, r = p.1 := ⟨_, rfl⟩
     rw [<- hr] at c0 c1 c2 c3 c4 c5 hone hself hprev hr6
     have hki : (0 : Int) <= (k : Int) := by omega
     have hkj : (k : Int) < (ql.length : Int) := by omega
     have BAL : Below wr.heap.size wr (wr.alloc (.cells #[.bool r.thing, .int .i64 r.«to», .int .i64 r.kind, .int .i64 r.cost, .int .i64 r.far, .slice pa r.hops.length pc] 44)) := (Below.refl _ _).alloc (Nat.le_refl _) _
     have hxl := heap_alloc_new wr (.cells #[.bool r.thing, .int .i64 r.«to», .int .i64 r.kind, .int .i64 r.cost, .int .i64 r.far, .slice pa r.hops.length pc] 44)
     have hbw : b < wr.heap.size := by omega
     have HONE := hide hone
     have HSELF := hide hself
     have HPREV := hide hprev
     have HOP := hide (show wr.ownsRow w5.heap.size 3 1 (.slice pa r.hops.length pc) r.hops.length (flat intE r.hops) from by rw [hr, <- hpn]; exact (hown.nears p (List.mem_of_getElem? hp)).1)
     clear hp hpn hop hone hself hprev hown hr
     have l0 := Zaa hxl 0
     have l1 := Zaa hxl 1
     have l2 := Zaa hxl 2
     simp only [List.getElem?_toArray, List.getElem?_cons_succ, List.getElem?_cons_zero] at l0 l1 l2
     go_wp2
     go_cut [135] from 69 to 201 (fun s wx => s = .bool false /\ Below wr.heap.size wr wx /\ wx.heap[wr.heap.size]? = some (.cells #[.bool r.thing, .int .i64 r.«to», .int .i64 r.kind, .int .i64 r.cost, .int .i64 r.far, .slice pa r.hops.length pc] 44))
     case first =>
      rcases Nat.eq_zero_or_pos k with hk0 | hkp
      ·have hz1 : ¬ ((k : Int) > 0) := by omega
       have hz2 : decide (0 < k) = false := by simp; omega
       have hz3 : ¬ 0 < k := by omega
       clear hk0
       cases hth : r.thing
       ·have hne : (r.«to» == (v : Int)) = false := by have h := HONE.out.self hth; simpa using h
        rw [hth] at l0 c0 hxl BAL HSELF
        as_aux_lemma =>
         go_quiet (fail)
         go_wp2_with fail
         go_meet
         case rel => exact ⟨rfl, ZdG BAL, by rw [hth]; exact hxl⟩
       ·rw [hth] at l0 c0 hxl BAL HSELF
        as_aux_lemma =>
         go_quiet (fail)
         go_wp2_with fail
         go_meet
         case rel => exact ⟨rfl, ZdG BAL, by rw [hth]; exact hxl⟩
      ·obtain ⟨j, rfl⟩ : ∃ j, k = j + 1 := ⟨k - 1, by omega⟩
       obtain ⟨a, hrel, g0, g1, g2⟩ := HPREV.out j rfl
       rw [<- BAL.cell (p := ⟨b, off + j * 6, none⟩) hbw] at g0
       rw [<- BAL.cell (p := ⟨b, off + j * 6 + 1, none⟩) hbw] at g1
       rw [<- BAL.cell (p := ⟨b, off + j * 6 + 2, none⟩) hbw] at g2
       have hj1 : (0 : Int) <= (j : Int) := by omega
       have hj2 : (j : Int) < (ql.length : Int) := by omega
       have hj3 : (0 : Int) < (j : Int) + 1 := by omega
       have hj4 : (j : Int) + 1 > 0 := by omega
       have hj5 : decide ((0 : Int) < (j : Int) + 1) = true := by simp
       have hj6 : IntKind.i64.wrap (j : Int) = (j : Int) := by simp [IntKind.wrap, IntKind.bits, IntKind.signed]; omega
       have hj7 : IntKind.i64.wrap ((j : Int) + 1 - 1) = (j : Int) := by rw [show (j : Int) + 1 - 1 = (j : Int) by omega]; exact hj6
       obtain ⟨A, hA⟩ : ∃ A, A = a.1 := ⟨_, rfl⟩
       rw [<- hA] at g0 g1 g2 hrel
       clear hA hkp
       have HREL := hide hrel
       clear hrel
       cases hth : r.thing
       ·have hne : (r.«to» == (v : Int)) = false := by have h := HONE.out.self hth; simpa using h
        have hat : A.thing = false := by
         cases h : A.thing
         ·rfl
         ·have := HREL.out.thing h; rw [hth] at this; cases this
        rw [hth] at l0 c0 hxl BAL HSELF g0 g1 g2
        rw [hat] at g0
        by_cases hke : A.kind = r.kind
        ·have hkd : (A.kind == r.kind) = true := by simpa using hke
         have hlt2 := HREL.out.asc hke hth
         have hge : ¬ (A.«to» >= r.«to») := by omega
         clear hke hlt2
         as_aux_lemma =>
          go_quiet (fail)
          go_wp2_with fail
          go_meet
          case rel => exact ⟨rfl, ZdG BAL, by rw [hth]; exact hxl⟩
        ·have hkd : (A.kind == r.kind) = false := by simpa using hke
         clear hke
         as_aux_lemma =>
          go_quiet (fail)
          go_wp2_with fail
          go_meet
          case rel => exact ⟨rfl, ZdG BAL, by rw [hth]; exact hxl⟩
       ·rw [hth] at l0 c0 hxl BAL HSELF g0 g1 g2
        by_cases hke : A.kind = r.kind
        ·have hkd : (A.kind == r.kind) = true := by simpa using hke
         clear hke
         cases hat : A.thing <;> rw [hat] at g0
         ·as_aux_lemma =>
           go_quiet (fail)
           go_wp2_with fail
           go_meet
           case rel => exact ⟨rfl, ZdG BAL, by rw [hth]; exact hxl⟩
         ·as_aux_lemma =>
           go_quiet (fail)
           go_wp2_with fail
           go_meet
           case rel => exact ⟨rfl, ZdG BAL, by rw [hth]; exact hxl⟩
        ·have hkd : (A.kind == r.kind) = false := by simpa using hke
         clear hke
         cases hat : A.thing <;> rw [hat] at g0
         ·as_aux_lemma =>
           go_quiet (fail)
           go_wp2_with fail
           go_meet
           case rel => exact ⟨rfl, ZdG BAL, by rw [hth]; exact hxl⟩
         ·as_aux_lemma =>
           go_quiet (fail)
           go_wp2_with fail
           go_meet
           case rel => exact ⟨rfl, ZdG BAL, by rw [hth]; exact hxl⟩
     case rest =>
      obtain ⟨rfl, BD, hxd⟩ := hcut
      clear hxl BAL l0 l1 l2
      have hbd := BD.size
      have x1 := Zaa hxd 1
      simp only [List.getElem?_toArray, List.getElem?_cons_succ, List.getElem?_cons_zero] at x1
      have HXD := hide hxd
      have HBD := hide (hnx.trans (BD.mono hnx.size))
      have hzd := Zab hxd
      have HBDR := hide BD
      clear hxd BD
      obtain ⟨D1, hD1⟩ : ∃ D, D = Za8 (Zah ww) r.«to» := ⟨_, rfl⟩
      obtain ⟨F1, hF1⟩ : ∃ F, F = Za6 (Zah ww) r.«to» := ⟨_, rfl⟩
      obtain ⟨D2, hD2⟩ : ∃ D, D = Za8 (Zah wb) r.«to» := ⟨_, rfl⟩
      obtain ⟨F2, hF2⟩ : ∃ F, F = Za6 (Zah wb) r.«to» := ⟨_, rfl⟩
      have HC1 := hide (HWT.out r.«to» wc HBD.out)
      have HC2 := hide (fun W (hb : Below wc.heap.size wc W) => HBT.out r.«to» W (HBD.out.trans (hb.mono HBD.out.size)))
      rw [<- hD1, <- hF1] at HC1
      rw [<- hD2, <- hF2] at HC2
      have hf1 := ZbI (Zah ww) r.«to»
      have hf2 := ZbI (Zah wb) r.«to»
      rw [<- hD1, <- hF1] at hf1
      rw [<- hD2, <- hF2] at hf2
      unfold wayC at HC1 HC2
      have HF1 := hide hf1
      have HF2 := hide hf2
      clear hD1 hF1 hD2 hF2 hf1 hf2
      go_wp2_with fail
      refine HC1.out.mono ?_
      rintro e wf ⟨du, rfl, hdu, bf⟩
      obtain ⟨da, dc, rfl⟩ := Zac hdu
      have hbf := bf.size
      have BF : Below wc.heap.size wc (wf.alloc (.cells #[.int .i64 D1.«to», .int .i64 D1.cost, .slice da D1.hops.length dc] 46)) := bf.trans (((Below.refl wf.heap.size wf).alloc (Nat.le_refl _) _).mono hbf)
      have hxf := (BF.block _ hzd).trans HXD.out
      have x1f := Zaa hxf 1
      have hwf := heap_alloc_new wf (.cells #[.int .i64 D1.«to», .int .i64 D1.cost, .slice da D1.hops.length dc] 46)
      simp only [List.getElem?_toArray, List.getElem?_cons_succ, List.getElem?_cons_zero] at x1f
      have HCC := hide (HC2.out _ BF)
      have HXF := hide hxf
      have HWF := hide hwf
      have HBF := hide BF
      have hlf := Zab hwf
      clear hdu bf hxf hwf BF x1 HC1 HC2
      go_wp2_with fail
      refine HCC.out.mono ?_
      rintro e wg ⟨eu, rfl, heu, bg⟩
      obtain ⟨ea, ec, rfl⟩ := Zac heu
      have hbg := bg.size
      have BG : Below (wf.alloc (.cells #[.int .i64 D1.«to», .int .i64 D1.cost, .slice da D1.hops.length dc] 46)).heap.size (wf.alloc (.cells #[.int .i64 D1.«to», .int .i64 D1.cost, .slice da D1.hops.length dc] 46)) (wg.alloc (.cells #[.int .i64 D2.«to», .int .i64 D2.cost, .slice ea D2.hops.length ec] 46)) := bg.trans (((Below.refl wg.heap.size wg).alloc (Nat.le_refl _) _).mono hbg)
      have hxg := (BG.block _ (Zab HXF.out)).trans HXF.out
      have hwg := (BG.block _ hlf).trans HWF.out
      have hvg := heap_alloc_new wg (.cells #[.int .i64 D2.«to», .int .i64 D2.cost, .slice ea D2.hops.length ec] 46)
      have y0 := Zaa hxg 0
      have y1 := Zaa hxg 1
      have y2 := Zaa hxg 2
      have y3 := Zaa hxg 3
      have y5 := Zaa hxg 5
      have w1c := Zaa hwg 1
      have v1c := Zaa hvg 1
      simp only [List.getElem?_toArray, List.getElem?_cons_succ, List.getElem?_cons_zero] at y0 y1 y2 y3 y5 w1c v1c
      have HBGR := hide ((HBDR.out.trans (HBF.out.mono HBDR.out.size)).trans (BG.mono (by have h1 := HBDR.out.size; have h2 := HBF.out.size; omega)))
      have HBG := hide ((HBD.out.trans (HBF.out.mono HBD.out.size)).trans (BG.mono (by have h1 := HBD.out.size; have h2 := HBF.out.size; omega)))
      have hzg := Zab hxg
      have HXG := hide hxg
      clear heu bg BG hxg hwg hvg HCC HXF HWF HBF x1f
      have hk1 : r.kind = 1 -> F1 = true /\ D1.cost = r.cost /\ F2 = false := fun e => by
       have h1 := HONE.out.within e
       rcases HF1.out with ⟨g1, g2⟩ | ⟨g1, g2⟩
       ·obtain ⟨⟨w', hw', hc'⟩, hn'⟩ := h1
        rw [g2] at hw'
        cases hw'
        rcases HF2.out with ⟨_, g4⟩ | ⟨g3, _⟩
        ·rw [hn'] at g4; cases g4
        ·exact ⟨g1, hc', g3⟩
       ·obtain ⟨⟨w', hw', _⟩, _⟩ := h1
        rw [g2] at hw'; cases hw'
      have hk2 : r.kind = 2 -> F1 = false /\ F2 = true /\ D2.cost = r.cost := fun e => by
       obtain ⟨hn', w', hw', hc'⟩ := HONE.out.beyond e
       rcases HF1.out with ⟨_, g2⟩ | ⟨g1, _⟩
       ·rw [hn'] at g2; cases g2
       ·rcases HF2.out with ⟨g3, g4⟩ | ⟨_, g4⟩
        ·rw [hw'] at g4
         cases g4
         exact ⟨g1, g3, hc'⟩
        ·rw [hw'] at g4; cases g4
      have HK1 := hide hk1
      have HK2 := hide hk2
      clear hk1 hk2 HF1 HF2
      by_cases hkA : r.kind = 1
      ·as_aux_lemma =>
        obtain ⟨rfl, hc, rfl⟩ := HK1.out hkA
        have hdA : (r.kind == 1) = true := by simpa using hkA
        have hdB : (r.kind == 2) = false := by rw [hkA]; rfl
        have hdc : (D1.cost != r.cost) = false := by simpa using hc
        clear hkA hc HK1 HK2
        have BGD : Below w10.heap.size w10 (wg.alloc (.cells #[.int .i64 D2.«to», .int .i64 D2.cost, .slice ea D2.hops.length ec] 46)).drew := HBG.out.drew
        have zz : wr.heap.size < (wg.alloc (.cells #[.int .i64 D2.«to», .int .i64 D2.cost, .slice ea D2.hops.length ec] 46)).heap.size := hzg
        have HOPG := hide (show (wg.alloc (.cells #[.int .i64 D2.«to», .int .i64 D2.cost, .slice ea D2.hops.length ec] 46)).drew.ownsRow w5.heap.size 3 1 (.slice pa r.hops.length pc) r.hops.length (flat intE r.hops) from Zae HOP.out (show Below wr.heap.size wr (wg.alloc (.cells #[.int .i64 D2.«to», .int .i64 D2.cost, .slice ea D2.hops.length ec] 46)).drew from HBGR.out.drew) (Nat.le_refl _))
        have hr7 := hr6
        have HXG2 := HXG
        clear HXG HOP
        generalize hH : r.hops.length = H at y5 HOPG HXG2 hr7 |-
        have HHH := hide hH
        clear hH
        rcases H with _ | m
        ·go_wp2
         go_quiet (fail)
         have N := hide (ZdG (n := nq) HBG.out)
         clear HBG BGD HXG2 y0 y1 y2 y3 y5 w1c v1c
         go_wp2
         go_roundw
         case rel => exact ⟨k + 1, by omega, by go_num, N.out⟩
         case measure => simp [intOf]; omega
        ·have hm1 : (0 : Int) < (m : Int) + 1 := by omega
         have hm2 : decide ((0 : Int) < (m : Int) + 1) = true := by simp
         have hm3 : (m : Int) + 1 > 0 := hm1
         go_wp2
         go_region_held3 (fun W => W.cell? ⟨wr.heap.size, 0, none⟩ = some (.bool r.thing) /\ W.cell? ⟨wr.heap.size, 1, none⟩ = some (.int .i64 r.«to») /\ W.cell? ⟨wr.heap.size, 5, none⟩ = some (.slice pa (m + 1) pc)) (first | (refine ⟨?_, ?_, ?_⟩ <;> (rw [b6.cell (by assumption)]; assumption)) | (refine ⟨?_, ?_, ?_⟩ <;> assumption) | go_keep) (first | (go_at_call 17; refine (HHT.out r.thing r.«to» _ BGD).mono ?_; rintro e w5b ⟨u, rfl, hu, b5b⟩; rw [HSELF.out] at hu; obtain ⟨ux, uy, rfl⟩ := Zac hu.row; have t0 : w5b.cell? ⟨wr.heap.size, 0, none⟩ = some (.bool r.thing) := (b5b.cell zz).trans y0; have t1 : w5b.cell? ⟨wr.heap.size, 1, none⟩ = some (.int .i64 r.«to») := (b5b.cell zz).trans y1; have t5 : w5b.cell? ⟨wr.heap.size, 5, none⟩ = some (.slice pa (m + 1) pc) := (b5b.cell zz).trans y5; have zz2 : wr.heap.size < w5b.heap.size := Nat.lt_of_lt_of_le zz b5b.size; have hux := hu.row; have hpx := Zae HOPG.out b5b (Nat.le_refl _)) | (go_at_call 16; refine (ZeK _ (.slice pa (m + 1) pc) r.hops r.hops _ (ZdC (by rw [<- Zb0]; exact hux)) ((ZaN (l := r.hops) (by rw [HHH.out]; exact hpx)).ints) hr6).mono ?_; rintro e w6b ⟨rfl, b6⟩; rw [decide_eq_true (rfl : r.hops = r.hops)]))
         rename_i hheld
         clear hheld
         have N := hide (BGD.trans ((b5b.mono BGD.size).trans (b6.mono (Nat.le_trans BGD.size b5b.size))))
         clear b5b b6 hu hux hpx t0 t1 t5 zz2 HBG BGD HXG2 HOPG y0 y1 y2 y3 y5 w1c v1c
         go_wp2
         go_roundw
         case rel => exact ⟨k + 1, by omega, by go_num, N.out⟩
         case measure => simp [intOf]; omega
      by_cases hkB : r.kind = 2
      ·as_aux_lemma =>
        obtain ⟨rfl, rfl, hc⟩ := HK2.out hkB
        have hdA : (r.kind == 1) = false := by rw [hkB]; rfl
        have hdB : (r.kind == 2) = true := by simpa using hkB
        have hdc : (D2.cost != r.cost) = false := by simpa using hc
        clear hkA hkB hc HK1 HK2
        have BGD : Below w10.heap.size w10 (wg.alloc (.cells #[.int .i64 D2.«to», .int .i64 D2.cost, .slice ea D2.hops.length ec] 46)).drew := HBG.out.drew
        have zz : wr.heap.size < (wg.alloc (.cells #[.int .i64 D2.«to», .int .i64 D2.cost, .slice ea D2.hops.length ec] 46)).heap.size := hzg
        have HOPG := hide (show (wg.alloc (.cells #[.int .i64 D2.«to», .int .i64 D2.cost, .slice ea D2.hops.length ec] 46)).drew.ownsRow w5.heap.size 3 1 (.slice pa r.hops.length pc) r.hops.length (flat intE r.hops) from Zae HOP.out (show Below wr.heap.size wr (wg.alloc (.cells #[.int .i64 D2.«to», .int .i64 D2.cost, .slice ea D2.hops.length ec] 46)).drew from HBGR.out.drew) (Nat.le_refl _))
        have hr7 := hr6
        have HXG2 := HXG
        clear HXG HOP
        generalize hH : r.hops.length = H at y5 HOPG HXG2 hr7 |-
        have HHH := hide hH
        clear hH
        rcases H with _ | m
        ·go_wp2
         go_quiet (fail)
         have N := hide (ZdG (n := nq) HBG.out)
         clear HBG BGD HXG2 y0 y1 y2 y3 y5 w1c v1c
         go_wp2
         go_roundw
         case rel => exact ⟨k + 1, by omega, by go_num, N.out⟩
         case measure => simp [intOf]; omega
        ·have hm1 : (0 : Int) < (m : Int) + 1 := by omega
         have hm2 : decide ((0 : Int) < (m : Int) + 1) = true := by simp
         have hm3 : (m : Int) + 1 > 0 := hm1
         go_wp2
         go_region_held3 (fun W => W.cell? ⟨wr.heap.size, 0, none⟩ = some (.bool r.thing) /\ W.cell? ⟨wr.heap.size, 1, none⟩ = some (.int .i64 r.«to») /\ W.cell? ⟨wr.heap.size, 5, none⟩ = some (.slice pa (m + 1) pc)) (first | (refine ⟨?_, ?_, ?_⟩ <;> (rw [b6.cell (by assumption)]; assumption)) | (refine ⟨?_, ?_, ?_⟩ <;> assumption) | go_keep) (first | (go_at_call 17; refine (HHT.out r.thing r.«to» _ BGD).mono ?_; rintro e w5b ⟨u, rfl, hu, b5b⟩; rw [HSELF.out] at hu; obtain ⟨ux, uy, rfl⟩ := Zac hu.row; have t0 : w5b.cell? ⟨wr.heap.size, 0, none⟩ = some (.bool r.thing) := (b5b.cell zz).trans y0; have t1 : w5b.cell? ⟨wr.heap.size, 1, none⟩ = some (.int .i64 r.«to») := (b5b.cell zz).trans y1; have t5 : w5b.cell? ⟨wr.heap.size, 5, none⟩ = some (.slice pa (m + 1) pc) := (b5b.cell zz).trans y5; have zz2 : wr.heap.size < w5b.heap.size := Nat.lt_of_lt_of_le zz b5b.size; have hux := hu.row; have hpx := Zae HOPG.out b5b (Nat.le_refl _)) | (go_at_call 16; refine (ZeK _ (.slice pa (m + 1) pc) r.hops r.hops _ (ZdC (by rw [<- Zb0]; exact hux)) ((ZaN (l := r.hops) (by rw [HHH.out]; exact hpx)).ints) hr6).mono ?_; rintro e w6b ⟨rfl, b6⟩; rw [decide_eq_true (rfl : r.hops = r.hops)]))
         rename_i hheld
         clear hheld
         have N := hide (BGD.trans ((b5b.mono BGD.size).trans (b6.mono (Nat.le_trans BGD.size b5b.size))))
         clear b5b b6 hu hux hpx t0 t1 t5 zz2 HBG BGD HXG2 HOPG y0 y1 y2 y3 y5 w1c v1c
         go_wp2
         go_roundw
         case rel => exact ⟨k + 1, by omega, by go_num, N.out⟩
         case measure => simp [intOf]; omega
      ·have hdA : (r.kind == 1) = false := by simpa using hkA
       have hdB : (r.kind == 2) = false := by simpa using hkB
       clear hkA hkB HK1 HK2
       have BGD : Below w10.heap.size w10 (wg.alloc (.cells #[.int .i64 D2.«to», .int .i64 D2.cost, .slice ea D2.hops.length ec] 46)).drew := HBG.out.drew
       have zz : wr.heap.size < (wg.alloc (.cells #[.int .i64 D2.«to», .int .i64 D2.cost, .slice ea D2.hops.length ec] 46)).heap.size := hzg
       have HOPG := hide (show (wg.alloc (.cells #[.int .i64 D2.«to», .int .i64 D2.cost, .slice ea D2.hops.length ec] 46)).drew.ownsRow w5.heap.size 3 1 (.slice pa r.hops.length pc) r.hops.length (flat intE r.hops) from Zae HOP.out (show Below wr.heap.size wr (wg.alloc (.cells #[.int .i64 D2.«to», .int .i64 D2.cost, .slice ea D2.hops.length ec] 46)).drew from HBGR.out.drew) (Nat.le_refl _))
       have hr7 := hr6
       have HXG2 := HXG
       clear HXG HOP
       generalize hH : r.hops.length = H at y5 HOPG HXG2 hr7 |-
       have HHH := hide hH
       clear hH
       rcases H with _ | m
       ·go_wp2
        go_quiet (fail)
        have N := hide (ZdG (n := nq) HBG.out)
        clear HBG BGD HXG2 y0 y1 y2 y3 y5 w1c v1c
        go_wp2
        go_roundw
        case rel => exact ⟨k + 1, by omega, by go_num, N.out⟩
        case measure => simp [intOf]; omega
       ·have hm1 : (0 : Int) < (m : Int) + 1 := by omega
        have hm2 : decide ((0 : Int) < (m : Int) + 1) = true := by simp
        have hm3 : (m : Int) + 1 > 0 := hm1
        go_wp2
        go_region_held3 (fun W => W.cell? ⟨wr.heap.size, 0, none⟩ = some (.bool r.thing) /\ W.cell? ⟨wr.heap.size, 1, none⟩ = some (.int .i64 r.«to») /\ W.cell? ⟨wr.heap.size, 5, none⟩ = some (.slice pa (m + 1) pc)) (first | (refine ⟨?_, ?_, ?_⟩ <;> (rw [b6.cell (by assumption)]; assumption)) | (refine ⟨?_, ?_, ?_⟩ <;> assumption) | go_keep) (first | (go_at_call 17; refine (HHT.out r.thing r.«to» _ BGD).mono ?_; rintro e w5b ⟨u, rfl, hu, b5b⟩; rw [HSELF.out] at hu; obtain ⟨ux, uy, rfl⟩ := Zac hu.row; have t0 : w5b.cell? ⟨wr.heap.size, 0, none⟩ = some (.bool r.thing) := (b5b.cell zz).trans y0; have t1 : w5b.cell? ⟨wr.heap.size, 1, none⟩ = some (.int .i64 r.«to») := (b5b.cell zz).trans y1; have t5 : w5b.cell? ⟨wr.heap.size, 5, none⟩ = some (.slice pa (m + 1) pc) := (b5b.cell zz).trans y5; have zz2 : wr.heap.size < w5b.heap.size := Nat.lt_of_lt_of_le zz b5b.size; have hux := hu.row; have hpx := Zae HOPG.out b5b (Nat.le_refl _)) | (go_at_call 16; refine (ZeK _ (.slice pa (m + 1) pc) r.hops r.hops _ (ZdC (by rw [<- Zb0]; exact hux)) ((ZaN (l := r.hops) (by rw [HHH.out]; exact hpx)).ints) hr6).mono ?_; rintro e w6b ⟨rfl, b6⟩; rw [decide_eq_true (rfl : r.hops = r.hops)]))
        rename_i hheld
        clear hheld
        have N := hide (BGD.trans ((b5b.mono BGD.size).trans (b6.mono (Nat.le_trans BGD.size b5b.size))))
        clear b5b b6 hu hux hpx t0 t1 t5 zz2 HBG BGD HXG2 HOPG y0 y1 y2 y3 y5 w1c v1c
        go_wp2
        go_roundw
        case rel => exact ⟨k + 1, by omega, by go_num, N.out⟩
        case measure => simp [intOf]; omega
    ·have hkn : ¬ (k : Int) < (ql.length : Int) := by omega
     have N := hide (HBX.out.trans (hnx.mono HBX.out.size))
     clear hnx
     go_wp2
     go_roundw
     case rel => exact ⟨v + 1, by omega, by omega, by go_num, N.out⟩
     case measure => simp [intOf]; omega
  ·have hlv' : ¬ (v : Int) <= (N : Int) := by omega
   have LIT := World.ownsRow_lit (base := wa.heap.size) (e := 44) (size := 6) wa #[] 0 (Nat.le_refl _) (by unfold maxLen; omega) (by simp)
   have HH := hide (Zgn (.slice (some ⟨wa.heap.size, 0, none⟩) 0 0) [] wa.heap.size (wa.alloc (.cells #[] 44)).heap.size false 1 (wa.alloc (.cells #[] 44)) ⟨LIT, fun k hk => by simp [Value.ownBlock] at hk; subst hk; simp, by simp, by simp⟩ (Nat.le_refl _) (by simp [totQ]))
   have HBA := hide (HB3.out.trans ((ba.alloc hba (.cells #[] 44)).mono HB3.out.size))
   clear hxa ba LIT
   go_wp2_with fail
   refine HH.out.mono ?_
   rintro e w4 ⟨u, rfl, hu, b4⟩
   have hz : Zdz (ZaA ([] : List QP)) false 1 = [] := rfl
   rw [hz] at hu
   obtain ⟨ua, uc, rfl⟩ := Zac hu.row
   have N := hide (HBA.out.trans (b4.mono HBA.out.size))
   clear hu b4 hz
   go_wp2
   go_ret
   exact ⟨by simp, N.out⟩
end Go.Proofs.YtakiifededfjlaaGreat
namespace Go.Proofs.YtakiifededfjlaaGreat
namespace fnRoutes
open Go.ChangeShapes Go.WideShapes Go.ChangeAt Go.RowKit
open Go.ChangeMaps (open_string shut_string)
set_option linter.unusedVariables false

theorem own : ownKnob Tryz.prog.godebug = none := by kernel_rfl
theorem Zoh : laidOutB Tryz.prog = true := by kernel_rfl

set_option maxRecDepth 100000 in
theorem lifted (os : Os) (started : os.Started) (H : Type) (enc : TypeId × Value -> H) :
  ReturnsInHanded {} Tryz.checked os 3 .any (Rows.fnRoutesSpec.pre6 enc Tryz.prog Tryz.f3 Rows.fnRoutesRow.domain false) (Rows.fnRoutesSpec.post enc Tryz.prog Tryz.f3 false true false false) := by
 refine returnsInHanded_of_change (C := Tryz.checked) own started (by kernel_rfl) Tryz.func3
  (ChangeSpec.witness6 (enc := enc) (C := Tryz.checked) false ⟨#[], #[.slice none 0 0], []⟩ 8 (by kernel_rfl) (by kernel_rfl) (by kernel_rfl) (by kernel_rfl)) ?_
 intro W base args ds gs before hval0 hW hcnd _
 have hval : ∀ (j : Nat) t v, Tryz.f3.params[j]? = some t -> args[j]? = some v -> Value.okWide Tryz.prog W .any base t v := hval0
 have hW' := hW
 obtain ⟨p, q, hA0, hV, rfl, hfz, hnd⟩ := hW
 have hA : DataW.TrodAll enc Tryz.prog W 0 (fun _ => true) true Tryz.f3.params.toList args.toList ds p := hA0
 rw [Tryz.params3] at hA hval
 obtain ⟨v0, vs0, d0, ds0, p0, q0, hargs, rfl, rfl, h0, r0⟩ := trodAll_cons hA
 obtain ⟨rfl, rfl, rfl⟩ := trodAll_nil r0
 obtain rfl : args = #[v0] := by cases args; simp_all
 obtain ⟨rfl, rfl⟩ := trodVars_none hV
 obtain ⟨a0, len0, cap0, rfl⟩ := okWide_slice Tryz.underlying22 (hval 0 22 v0 rfl rfl)
 have k0 := h0
 have lt0 : ∀ x ∈ p0, x.block < W.heap.size := by obtain ⟨m, hm⟩ := k0; exact DataW.trod_lt m _ _ _ hm
 have w0 : len0 <= 1048576 -> Code W a0 len0 W.heap.size := fun hl20 => by
  obtain ⟨fuel, hf⟩ := h0
  refine ⟨hl20, ?_⟩
  rcases open_ints Tryz.underlying22 Tryz.underlying5 (by kernel_rfl) hf with ⟨hcs, _⟩ | ⟨x, l, c, zs, hcs, _, hl, hm, hz, _, hcell, hwz⟩
  ·simp [Value.cells] at hcs
   exact .inl hcs.2.1
  ·simp [Value.cells] at hcs
   obtain ⟨rfl, rfl, rfl⟩ := hcs
   by_cases hl0 : len0 = 0
   ·exact .inl hl0
   ·obtain ⟨b, off, spot⟩ := x
    have hzl : zs.length = cap0 := by simpa using hz
    have hc0 := hcell 0 (by omega)
    have hspot : spot = none := by simpa [Addr.add] using World.cell?_spot hc0
    subst hspot
    have hb : b < W.heap.size := by
     have := World.block_lt_of_cell? W _ hc0
     simpa [Addr.add] using this
    refine .inr ⟨b, off, rfl, hb, fun j hj => ?_⟩
    have hjz : j < zs.length := by omega
    have hcj := hcell j hjz
    have e1 : (⟨b, off, none⟩ : Addr).add j = ⟨b, off + j, none⟩ := by
     simp only [Addr.add]
     split <;> simp_all
    have hgd : zs.getD j 0 = zs[j] := by simp [List.getElem?_eq_getElem hjz]
    have hwj := bounds_u8 (hwz (zs.getD j 0) (by rw [hgd]; exact List.getElem_mem hjz))
    rw [e1] at hcj
    exact ⟨(zs.getD j 0).toNat, by omega, by rw [hcj]; congr 2; omega⟩
 clear hA0 hval0
 refine (fnRoutes_walk a0 len0 cap0 W w0).mono fun e W' ⟨he, bel⟩ => ?_
 subst he
 exact ⟨_, rfl, _, _, _, [], _, [], hW', trodAll_mk1 (shut_bool Tryz.underlying4 _), (trodAll_cons_mk (Below.trod Zoh (by kernel_rfl) (of_decide_eq_true (by kernel_rfl)) k0 bel lt0) trodAll_mk0), rfl, bel.frame _, fun h => by cases h⟩

theorem over : Rows.fnRoutesRow.holds Tryz.pinned (OpenSpec.ofChange Rows.fnRoutesSpec) :=
 OpenClaim.holds_of_wide 3 Tryz.f3 rfl rfl rfl rfl rfl rfl rfl ⟨rfl, rfl, rfl, rfl, rfl⟩ rfl rfl rfl rfl rfl (by kernel_rfl) Tryz.func3 (by kernel_rfl)
  (of_decide_eq_true (by kernel_rfl)) (by unfold Func.isWrapper; first | (rw [if_pos (by decide +kernel)]; kernel_rfl) | (rw [if_neg (by decide +kernel)]; exact ⟨rfl, rfl⟩))
  (fun os started H enc _ => lifted os started H enc)
end fnRoutes

theorem fnRoutes_proved : Rows.FnRoutesSaid := fnRoutes.over
#print axioms fnRoutes_proved
end Go.Proofs.YtakiifededfjlaaGreat
