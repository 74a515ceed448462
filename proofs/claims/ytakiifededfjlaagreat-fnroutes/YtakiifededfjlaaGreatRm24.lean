/-
  impl.waysOut: its contract.
  slices.IndexFunc, slices.DeleteFunc by impl's areasOut; impl.areasOut: their contracts.
  What slices.Insert needs: copy of a row of structs, append at two types, the lists of cells.
  What slices.Insert needs at ways: the lists of cells.
  slices.Insert at lists of records, one record put in: its three roads.
  slices.Insert at lists of ways, one way put in: its three roads.
-/
import Derived.Test.YtakiifededfjlaaGreatRm9
import Derived.Test.YtakiifededfjlaaGreatRm23
import Derived.Test.YtakiifededfjlaaGreatRm8
import Derived.Test.YtakiifededfjlaaGreatRm12
import Derived.Lib.SliceRun
import Derived.Test.YtakiifededfjlaaGreatRm2
import Derived.Shelf.Spec.SlicesInsertGrow
import Derived.Maps.AppendAt
namespace Go.Proofs.YtakiifededfjlaaGreat
open Go.RowKit
set_option linter.unusedSimpArgs false
set_option linter.unusedVariables false
set_option maxRecDepth 100000
set_option maxHeartbeats 8000000
def OutK (xs : List RecD) (area src : Int) (k : Nat) (ds : List WayD) : Prop := ∀ d, d ∈ ds ↔ ∃ r ∈ xs.take k, Zct xs area src r d
theorem OutK.quiet {xs : List RecD} {area src : Int} {k : Nat} {ds : List WayD} {r : RecD} (h : OutK xs area src k ds) (hr : xs[k]? = some r) (hn : ∀ d, ¬ Zct xs area src r d) : OutK xs area src (k + 1) ds := by
 obtain ⟨hk, e⟩ := List.getElem?_eq_some_iff.1 hr
 intro d
 rw [h d, List.take_succ_eq_append_getElem hk, e]
 constructor
 ·rintro ⟨x, hx, ht⟩
  exact ⟨x, List.mem_append.2 (.inl hx), ht⟩
 ·rintro ⟨x, hx, ht⟩
  rcases List.mem_append.1 hx with h1 | h1
  ·exact ⟨x, h1, ht⟩
  ·have : x = r := by simpa using h1
   subst this
   exact absurd ht (hn d)
theorem OutK.more {xs : List RecD} {area src : Int} {k : Nat} {ds : List WayD} {r : RecD} {d0 : WayD} (h : OutK xs area src k ds) (hr : xs[k]? = some r) (hd : Zct xs area src r d0) : OutK xs area src (k + 1) (ds ++ [d0]) := by
 obtain ⟨hk, e⟩ := List.getElem?_eq_some_iff.1 hr
 intro d
 rw [List.mem_append, h d, List.take_succ_eq_append_getElem hk, e]
 constructor
 ·rintro (⟨x, hx, ht⟩ | h1)
  ·exact ⟨x, List.mem_append.2 (.inl hx), ht⟩
  ·have : d = d0 := by simpa using h1
   subst this
   exact ⟨r, List.mem_append.2 (.inr (by simp)), hd⟩
 ·rintro ⟨x, hx, ht⟩
  rcases List.mem_append.1 hx with h1 | h1
  ·exact .inl ⟨x, h1, ht⟩
  ·have : x = r := by simpa using h1
   subst this
   obtain ⟨_, _, _, v, h4, _, rfl⟩ := ht
   obtain ⟨_, _, _, v', h4', _, rfl⟩ := hd
   rw [h4] at h4'
   cases h4'
   exact .inr (by simp)
theorem Zlm {xs : List RecD} {a src : Int} {ps : List WP} (h : Zah ps = ZbR xs a src) : totW ps <= 42 := by
 have hw := Zby xs a src
 refine ZfF ?_ (fun d hd => (hw.2 d (by rw [<- h]; exact hd)).1.len)
 have := Zc8 hw.1 (fun d hd => (hw.2 d hd).1.node)
 rw [<- h] at this
 simpa [Zah] using this
theorem Zm9 (W : World) (lo : Nat) : WaysOwn W lo W.heap.size (.slice none 0 0) [] := ⟨World.ownsRow_nil _ _ _ _, fun k hk => by simp [Value.ownBlock] at hk, by simp, by simp⟩
theorem Zi4 (v : Value) (ps : List RP) (hi : Nat) (area src : Int) (w : World) (hv : RecsIn w hi v ps) (hhi : hi <= w.heap.size) (hn : tot ps <= 1048576) :
  Calls Tryz.prog 37 #[v, .int .i64 area, .int .i64 src] w fun e w' => ∃ x qs, e = .returned x /\ OutK (fsts ps) area src ps.length (Zah qs) /\ qs.length <= ps.length /\ WaysOwn w' w.heap.size w'.heap.size x qs /\ Below w.heap.size w w' := by
 have hnl := ZbL ps
 obtain ⟨a1, c1, rfl⟩ := Zac hv.row
 have HWI := hide (Zgf (.slice a1 ps.length c1) ps hi area src w hv hhi hn)
 have HV := hide hv
 clear hv
 go_enter Tryz.func37, Tryz.ntmps37
 go_wp2_with fail
 refine HWI.out.mono ?_
 rintro e w1 ⟨uw, ws, rfl, hws0, how, b1⟩
 obtain ⟨wsa, wsc, rfl⟩ := Zac how.row
 have hws := hws0.eq
 have hwt : totW ws <= 1048576 := by have := Zlm hws; omega
 have hb1 := b1.size
 have HWT := hide (fun (z : Int) (W : World) (hb : Below w1.heap.size w1 W) => by
  have h := Zfk (.slice wsa ws.length wsc) ws w.heap.size w1.heap.size z W (how.below hb (Nat.le_refl _)) hb.size hwt
  rw [hws] at h
  exact h)
 clear hws0 how HWI hws hwt
 go_wp2
 go_loopw [19, 8] (fun i o wr => ∃ (k : Nat) (x : Value) (qs : List WP), k <= ps.length /\ i = .int .i64 (k : Int) /\ o = x /\ WaysOwn wr w1.heap.size wr.heap.size x qs /\ Hid (OutK (fsts ps) area src k (Zah qs)) /\ qs.length <= k /\ Below w1.heap.size w1 wr) (fun i _ _ => ps.length - (intOf i).toNat)
 case atStart => exact ⟨0, _, [], by omega, rfl, rfl, Zm9 _ _, hide (fun d => by simp [Zah]), by simp, Below.refl _ _⟩
 case round =>
  obtain ⟨k, x, qs, hk, rfl, rfl, hown, HM, hql, hnx⟩ := hrel
  obtain ⟨xa, xc, rfl⟩ := Zac hown.row
  have hsz := hnx.size
  have BW : Below w.heap.size w wr := b1.trans (hnx.mono hb1)
  by_cases hlt : k < ps.length
  ·obtain ⟨p, hp⟩ : ∃ p, ps[k]? = some p := ⟨ps[k], List.getElem?_eq_getElem hlt⟩
   obtain ⟨bb, off, cap', hve, hbb, c0, c1, c2, c3, c4, c5, c6, c7, hnr⟩ := HV.out.at.cells k p hp
   cases hve
   obtain ⟨pa, pc, hpn⟩ := ZaC.shape hnr
   rw [hpn] at c5
   rw [<- BW.cell (p := ⟨bb, off + k * 8, none⟩) (Nat.lt_of_lt_of_le hbb hhi)] at c0
   rw [<- BW.cell (p := ⟨bb, off + k * 8 + 1, none⟩) (Nat.lt_of_lt_of_le hbb hhi)] at c1
   rw [<- BW.cell (p := ⟨bb, off + k * 8 + 2, none⟩) (Nat.lt_of_lt_of_le hbb hhi)] at c2
   rw [<- BW.cell (p := ⟨bb, off + k * 8 + 3, none⟩) (Nat.lt_of_lt_of_le hbb hhi)] at c3
   rw [<- BW.cell (p := ⟨bb, off + k * 8 + 4, none⟩) (Nat.lt_of_lt_of_le hbb hhi)] at c4
   rw [<- BW.cell (p := ⟨bb, off + k * 8 + 5, none⟩) (Nat.lt_of_lt_of_le hbb hhi)] at c5
   rw [<- BW.cell (p := ⟨bb, off + k * 8 + 6, none⟩) (Nat.lt_of_lt_of_le hbb hhi)] at c6
   rw [<- BW.cell (p := ⟨bb, off + k * 8 + 7, none⟩) (Nat.lt_of_lt_of_le hbb hhi)] at c7
   have HPP := hide (Zbo hp)
   have hpm : p.1 ∈ fsts ps := List.mem_of_getElem? (Zbo hp)
   have BAL : Below wr.heap.size wr (wr.alloc (.cells #[.int .i64 p.1.area, .int .i64 p.1.kind, .int .i64 p.1.owner, .int .i64 p.1.key, .int .i64 p.1.seq, .slice pa p.1.near.length pc, .int .i64 p.1.cost, .bool p.1.far] 64)) := (Below.refl _ _).alloc (Nat.le_refl _) _
   have hxl := heap_alloc_new wr (.cells #[.int .i64 p.1.area, .int .i64 p.1.kind, .int .i64 p.1.owner, .int .i64 p.1.key, .int .i64 p.1.seq, .slice pa p.1.near.length pc, .int .i64 p.1.cost, .bool p.1.far] 64)
   obtain ⟨wl, hwl⟩ : ∃ W, W = (wr.alloc (.cells #[.int .i64 p.1.area, .int .i64 p.1.kind, .int .i64 p.1.owner, .int .i64 p.1.key, .int .i64 p.1.seq, .slice pa p.1.near.length pc, .int .i64 p.1.cost, .bool p.1.far] 64)) := ⟨_, rfl⟩
   rw [<- hwl] at BAL hxl
   have hki : (0 : Int) <= (k : Int) := by omega
   have hkj : (k : Int) < (ps.length : Int) := by omega
   clear hp hnr hpn
   by_cases hK : p.1.kind = 2
   case neg =>
    have hd : (p.1.kind != 2) = true := by simpa using hK
    have HhK := hide hK
    clear hK
    have HN := hide (show OutK (fsts ps) area src (k + 1) (Zah qs) from HM.out.quiet HPP.out (fun d ht => HhK.out ht.1))
    have N1 := hide ((hown.below BAL (Nat.le_refl _)).wide (Nat.le_refl _) BAL.size)
    have N2 := hide (hnx.trans (BAL.mono hnx.size))
    rw [hwl] at N1 N2
    clear hown HM HPP HWT BAL hwl
    go_wp2
    go_roundw
    case rel => exact ⟨k + 1, _, qs, by omega, by go_num, rfl, N1.out, HN, by omega, N2.out⟩
    case measure => simp [intOf]; omega
   have hdK : (p.1.kind != 2) = false := by simpa using hK
   have HhK := hide hK
   clear hK
   by_cases hA : p.1.area = area
   case neg =>
    have hd : (p.1.area != area) = true := by simpa using hA
    have HhA := hide hA
    clear hA
    have HN := hide (show OutK (fsts ps) area src (k + 1) (Zah qs) from HM.out.quiet HPP.out (fun d ht => HhA.out ht.2.1))
    have N1 := hide ((hown.below BAL (Nat.le_refl _)).wide (Nat.le_refl _) BAL.size)
    have N2 := hide (hnx.trans (BAL.mono hnx.size))
    rw [hwl] at N1 N2
    clear hown HM HPP HWT BAL hwl
    go_wp2
    go_roundw
    case rel => exact ⟨k + 1, _, qs, by omega, by go_num, rfl, N1.out, HN, by omega, N2.out⟩
    case measure => simp [intOf]; omega
   have hdA : (p.1.area != area) = false := by simpa using hA
   have HhA := hide hA
   clear hA
   by_cases hO : p.1.owner = src
   case pos =>
    have hd : (p.1.owner == src) = true := by simpa using hO
    have HhO := hide hO
    clear hO
    have HN := hide (show OutK (fsts ps) area src (k + 1) (Zah qs) from HM.out.quiet HPP.out (fun d ht => ht.2.2.1 HhO.out))
    have N1 := hide ((hown.below BAL (Nat.le_refl _)).wide (Nat.le_refl _) BAL.size)
    have N2 := hide (hnx.trans (BAL.mono hnx.size))
    rw [hwl] at N1 N2
    clear hown HM HPP HWT BAL hwl
    go_wp2
    go_roundw
    case rel => exact ⟨k + 1, _, qs, by omega, by go_num, rfl, N1.out, HN, by omega, N2.out⟩
    case measure => simp [intOf]; omega
   have hdO : (p.1.owner == src) = false := by simpa using hO
   have HhO := hide hO
   clear hO
   have hfd := ZbI (ZbR (fsts ps) area src) p.1.owner
   have HW := HWT.out p.1.owner wl (hnx.trans (BAL.mono hsz))
   obtain ⟨D, hD⟩ : ∃ D, D = Za8 (ZbR (fsts ps) area src) p.1.owner := ⟨_, rfl⟩
   obtain ⟨FB, hFB⟩ : ∃ F, F = Za6 (ZbR (fsts ps) area src) p.1.owner := ⟨_, rfl⟩
   rw [<- hD, <- hFB] at HW hfd
   have hsl := BAL.size
   have hx2 := Zaa hxl 2
   simp at hx2
   rw [hwl] at hx2
   have HXL := hide hxl
   have HWW := hide HW
   have HFD := hide hfd
   have HOW := hide hown
   have HBL := hide BAL
   unfold wayC at HWW
   clear HW hfd hD hFB hown hxl BAL
   go_wp2_with fail
   rw [<- hwl]
   clear hwl hx2
   refine HWW.out.mono ?_
   rintro e w3 ⟨du, rfl, hdu, b3⟩
   obtain ⟨da, dc, rfl⟩ := Zac hdu
   have hb3 := b3.size
   have hxl3 := (b3.block _ (Zab HXL.out)).trans HXL.out
   have hwl3 := Zab HXL.out
   have B3 : Below wr.heap.size wr w3 := HBL.out.trans (b3.mono hsl)
   have hx4 := heap_alloc_new w3 (.cells #[.int .i64 D.to, .int .i64 D.cost, .slice da D.hops.length dc] 46)
   have B4 : Below wr.heap.size wr (w3.alloc (.cells #[.int .i64 D.to, .int .i64 D.cost, .slice da D.hops.length dc] 46)) := B3.trans (((Below.refl w3.heap.size w3).alloc (Nat.le_refl _) _).mono (by omega))
   have hxl4 := (((Below.refl w3.heap.size w3).alloc (Nat.le_refl _) (.cells #[.int .i64 D.to, .int .i64 D.cost, .slice da D.hops.length dc] 46)).block _ (Zab hxl3)).trans hxl3
   have d1 := Zaa hx4 1
   have d2 := Zaa hx4 2
   have r3 := Zaa hxl4 3
   have r6 := Zaa hxl4 6
   simp at d1 d2 r3 r6
   have HB4 := hide B4
   have HDU := hide hdu
   have hsz4 : (w3.alloc (.cells #[.int .i64 D.to, .int .i64 D.cost, .slice da D.hops.length dc] 46)).heap.size = w3.heap.size + 1 := by simp
   have HSZ4 := hide hsz4
   clear hdu b3 hxl3 hx4 hxl4 B3 B4 HWW HXL HBL hsz4
   cases FB
   ·have HN := hide (show OutK (fsts ps) area src (k + 1) (Zah qs) from HM.out.quiet HPP.out (fun d ht => by
     obtain ⟨_, _, _, v, h4, _⟩ := ht
     rcases HFD.out with ⟨h1, _⟩ | ⟨_, h2⟩
     ·cases h1
     ·rw [h2] at h4; cases h4))
    have N1 := hide ((HOW.out.below HB4.out (Nat.le_refl _)).wide (Nat.le_refl _) HB4.out.size)
    have N2 := hide (hnx.trans (HB4.out.mono hsz))
    clear HM HPP HFD HWT HOW HB4 HDU HSZ4 d1 d2 r3 r6
    go_wp2
    go_roundw
    case rel => exact ⟨k + 1, _, qs, by omega, by go_num, rfl, N1.out, HN, by omega, N2.out⟩
    case measure => simp [intOf]; omega
   ·have hfound : ZaI (ZbR (fsts ps) area src) p.1.owner = some D := by
     rcases HFD.out with ⟨_, h2⟩ | ⟨h1, _⟩
     ·exact h2
     ·cases h1
    have hDm := (ZaL hfound).1
    have hDg := (Zby (fsts ps) area src).2 D hDm
    have hrb := Zfn (ZcE hDm).1 hpm HhK.out
    have hD0 := hDg.1.cost
    have hDc := hDg.2
    have hD6 := hDg.1.len
    by_cases hsum : D.cost + p.1.cost < 60000
    ·have htell : Zct (fsts ps) area src p.1 ⟨p.1.key, D.cost + p.1.cost, D.hops⟩ := ⟨HhK.out, HhA.out, HhO.out, D, hfound, hsum, rfl⟩
     have HN := hide (HM.out.more HPP.out htell)
     have BN : Below (w3.alloc (.cells #[.int .i64 D.to, .int .i64 D.cost, .slice da D.hops.length dc] 46)).heap.size (w3.alloc (.cells #[.int .i64 D.to, .int .i64 D.cost, .slice da D.hops.length dc] 46)) ((w3.alloc (.cells #[.int .i64 D.to, .int .i64 D.cost, .slice da D.hops.length dc] 46)).alloc (.cells #[.int .i64 p.1.key, .int .i64 (D.cost + p.1.cost), .slice da D.hops.length dc] 46)) := (Below.refl _ _).alloc (Nat.le_refl _) _
     have BT : Below wr.heap.size wr ((w3.alloc (.cells #[.int .i64 D.to, .int .i64 D.cost, .slice da D.hops.length dc] 46)).alloc (.cells #[.int .i64 p.1.key, .int .i64 (D.cost + p.1.cost), .slice da D.hops.length dc] 46)) := HB4.out.trans (BN.mono HB4.out.size)
     have OW := hide (((Zae HOW.out.row HB4.out (Nat.le_refl _))).alloc (.cells #[.int .i64 p.1.key, .int .i64 (D.cost + p.1.cost), .slice da D.hops.length dc] 46))
     have hdu2 : ((w3.alloc (.cells #[.int .i64 D.to, .int .i64 D.cost, .slice da D.hops.length dc] 46)).alloc (.cells #[.int .i64 p.1.key, .int .i64 (D.cost + p.1.cost), .slice da D.hops.length dc] 46)).ownsRow wl.heap.size 3 1 (.slice da D.hops.length dc) D.hops.length (flat intE D.hops) := (HDU.out.alloc _).alloc _
     have HHO := hide (show Zbv ((w3.alloc (.cells #[.int .i64 D.to, .int .i64 D.cost, .slice da D.hops.length dc] 46)).alloc (.cells #[.int .i64 p.1.key, .int .i64 (D.cost + p.1.cost), .slice da D.hops.length dc] 46)) wr.heap.size ((w3.alloc (.cells #[.int .i64 D.to, .int .i64 D.cost, .slice da D.hops.length dc] 46)).alloc (.cells #[.int .i64 p.1.key, .int .i64 (D.cost + p.1.cost), .slice da D.hops.length dc] 46)).heap.size (⟨p.1.key, D.cost + p.1.cost, D.hops⟩, .slice da D.hops.length dc) from ⟨Zag hdu2 hsl, fun j hj => (hdu2.lt j hj).2⟩)
     have HBT := hide BT
     have hq2 := hql
     clear htell hfound hDm hDg HM HPP HFD HWT HB4 HDU BN BT hdu2
     go_wp2_with (first
      | (at_builtin; refine ZaJ Za9 (by omega) (by omega) _ rfl _ _ 39 rfl w1.heap.size 46 Tryz.underlying39 (.agg (wayC Zbc (.slice none 0 0))) rfl Tryz.infoWay _ qs (⟨p.1.key, D.cost + p.1.cost, D.hops⟩, .slice da D.hops.length dc) (Zc1 _ _ _ _) rfl OW.out ⟨w3.heap.size + 1, 0, none⟩ 1 rfl (fun j u hj => by
        have h := Zan (w := (w3.alloc (.cells #[.int .i64 D.to, .int .i64 D.cost, .slice da D.hops.length dc] 46))) (cs := encW ((⟨p.1.key, D.cost + p.1.cost, D.hops⟩ : WayD), Value.slice da D.hops.length dc)) (t := 46) j u hj
        rw [HSZ4.out] at h
        exact h) (by omega) (by simp; omega) ?_))
     intro v' w6 hown' hgrow
     have N1 := hide (HOW.out.push HBT.out hsz HHO.out (by simpa using hown') hgrow)
     have N2 := hide ((hnx.trans (HBT.out.mono hsz)).grown hgrow (by have := HBT.out.size; omega) (fun j hj => (HOW.out.row.lt j hj).1))
     have HN2 := hide (show OutK (fsts ps) area src (k + 1) (Zah (qs ++ [((⟨p.1.key, D.cost + p.1.cost, D.hops⟩ : WayD), Value.slice da D.hops.length dc)])) by
      have e : Zah (qs ++ [((⟨p.1.key, D.cost + p.1.cost, D.hops⟩ : WayD), Value.slice da D.hops.length dc)]) = Zah qs ++ [⟨p.1.key, D.cost + p.1.cost, D.hops⟩] := by simp [Zah]
      rw [e]
      exact HN.out)
     obtain ⟨va, vc, rfl⟩ := Zac hown'
     clear hown' hgrow HOW OW HHO HBT HN HSZ4
     go_wp2
     go_roundw
     case rel => exact ⟨k + 1, _, qs ++ [((⟨p.1.key, D.cost + p.1.cost, D.hops⟩ : WayD), Value.slice da D.hops.length dc)], by omega, by go_num, rfl, N1.out, HN2, by simp; omega, N2.out⟩
     case measure => simp [intOf]; omega
    ·have HN := hide (show OutK (fsts ps) area src (k + 1) (Zah qs) from HM.out.quiet HPP.out (fun d ht => by
      obtain ⟨_, _, _, v, h4, h5, _⟩ := ht
      rw [hfound] at h4
      cases h4
      exact hsum h5))
     have N1 := hide ((HOW.out.below HB4.out (Nat.le_refl _)).wide (Nat.le_refl _) HB4.out.size)
     have N2 := hide (hnx.trans (HB4.out.mono hsz))
     clear HM HPP HFD HWT HOW HB4 HDU HSZ4 hfound hDm hDg
     go_wp2
     go_roundw
     case rel => exact ⟨k + 1, _, qs, by omega, by go_num, rfl, N1.out, HN, by omega, N2.out⟩
     case measure => simp [intOf]; omega
  ·have hkn : ¬ (k : Int) < (ps.length : Int) := by omega
   have hkk : k = ps.length := by omega
   have HE := hide (show OutK (fsts ps) area src ps.length (Zah qs) by rw [<- hkk]; exact HM.out)
   have HO := hide (hown.wide (lo' := w.heap.size) hb1 (Nat.le_refl _))
   have hq2 : qs.length <= ps.length := by omega
   have HB := hide BW
   clear hown HM hkk hnx BW
   go_wp2
   go_ret
   first
    | exact ⟨_, qs, rfl, HE.out, hq2, HO.out, HB.out⟩
    | exact ⟨_, rfl, qs, HE.out, hq2, HO.out, HB.out⟩
theorem Zhs (x : Int) (w : World) : Calls Tryz.prog 80 #[.int .i64 x] w fun e w' => e = .returned (.bool (x != 0)) /\ w = w' := by
 go_enter Tryz.func80, Tryz.ntmps80
 go_wp2
 go_ret
 exact ⟨rfl, rfl⟩
theorem ZjJ {Z R : List Int} {k : Nat} {y : Int} (h : (Z ++ R)[k]? = some y) (hZ : ∀ z ∈ Z, z = 0) (hR : ∀ z ∈ R, z ≠ 0) : (k < Z.length /\ y = 0) \/ (Z.length <= k /\ y ≠ 0) := by
 rcases Nat.lt_or_ge k Z.length with h1 | h1
 ·rw [List.getElem?_append_left h1] at h
  exact .inl ⟨h1, hZ y (List.mem_of_getElem? h)⟩
 ·rw [List.getElem?_append_right h1] at h
  exact .inr ⟨h1, hR y (List.mem_of_getElem? h)⟩
theorem Zkn (v : Value) (Z R : List Int) (w : World) (hn : (Z ++ R).length <= 1048576) (hZ : ∀ z ∈ Z, z = 0) (hR : ∀ z ∈ R, z ≠ 0) (hv : ZaK w v (Z ++ R) w.heap.size) :
  Calls Tryz.prog 108 #[v, .func (.func 80) #[] #[]] w fun e w' => e = .returned (.int .i64 (if R = [] then -1 else (Z.length : Int))) /\ w = w' := by
 obtain ⟨a, cap, rfl⟩ := hv.shape
 have HV := hide hv
 clear hv
 obtain ⟨L, hL⟩ : ∃ L, L = Z ++ R := ⟨_, rfl⟩
 rw [<- hL] at HV hn |-
 have HLE := hide hL
 have HSP := hide (fun (k : Nat) (y : Int) (h : L[k]? = some y) => ZjJ (by rw [<- hL]; exact h) hZ hR)
 obtain ⟨res, hres⟩ : ∃ r : Int, r = if R = [] then -1 else (Z.length : Int) := ⟨_, rfl⟩
 rw [<- hres]
 have HRES := hide hres
 clear hL hres
 go_enter Tryz.func108, Tryz.ntmps108
 go_wp2
 go_loop [8] (fun i => ∃ k : Nat, k <= L.length /\ i = .int .i64 k /\ k <= Z.length) (fun i => L.length - (intOf i).toNat)
 case atStart => exact ⟨0, by omega, rfl, by omega⟩
 case round =>
  obtain ⟨k, hk, rfl, hkz⟩ := hrel
  by_cases hlt : k < L.length
  ·obtain ⟨y, hy⟩ : ∃ y, L[k]? = some y := ⟨L[k], List.getElem?_eq_getElem hlt⟩
   obtain ⟨b, off, cap', hve, hbb, c0⟩ := HV.out.cell k y hy
   cases hve
   have hki : (0 : Int) <= (k : Int) := by omega
   have hkj : (k : Int) < (L.length : Int) := by omega
   rcases HSP.out k y hy with ⟨h1, h2⟩ | ⟨h1, h2⟩
   ·have hd : (y != 0) = false := by simpa using h2
    clear hy h2
    go_wp2_with fail
    refine (Zhs _ _).mono ?_
    rintro e w1 ⟨rfl, rfl⟩
    rw [hd]
    go_wp2
    go_round
    case rel => exact ⟨k + 1, by omega, by go_num, by omega⟩
    case measure => simp [intOf]; omega
   ·have hd : (y != 0) = true := by simpa using h2
    have hkz2 : (k : Int) = res := by
     rw [HRES.out, if_neg (fun e => by have := congrArg List.length HLE.out; rw [List.length_append, e] at this; simp at this; omega)]
     omega
    clear hy h2
    have HKZ := hide hkz2
    clear hkz2
    go_wp2_with fail
    refine (Zhs _ _).mono ?_
    rintro e w1 ⟨rfl, rfl⟩
    rw [hd]
    go_wp2
    go_ret
    exact ⟨ZfM HKZ.out, rfl⟩
  ·have hRE : (-1 : Int) = res := by
    have h1 := congrArg List.length HLE.out
    rw [List.length_append] at h1
    rw [HRES.out, if_pos (List.length_eq_zero_iff.1 (by omega))]
   have HRR := hide hRE
   clear hRE
   go_wp2
   go_ret
   exact ⟨ZfM HRR.out, rfl⟩
theorem ZeQ {base g n cap : Nat} {e : TypeId} : ∀ (vs : List Value) (o : Nat) (w : World) (xs : List Value), w.ownsRow base e 1 (.slice (some ⟨g, 0, none⟩) n cap) n xs -> ∃ ys, (w.setCells g o vs).ownsRow base e 1 (.slice (some ⟨g, 0, none⟩) n cap) n ys /\ ys.take o = xs.take o
 | [], _, _, xs, h => ⟨xs, h, rfl⟩
 | v :: vs, o, w, xs, h => by
  obtain ⟨ys, h1, h2⟩ := ZeQ vs (o + 1) (w.setCell ⟨g, o, none⟩ v) (xs.set o v) (h.stored o v).1
  refine ⟨ys, h1, ?_⟩
  have h3 := congrArg (List.take o) h2
  rw [List.take_take, List.take_take, Nat.min_eq_left (by omega), List.take_set_of_le (Nat.le_refl _)] at h3
  exact h3
theorem Zec {g : Nat} : ∀ (vs : List Value) (o : Nat) (w : World), w.grownBy (w.setCells g o vs) (some g)
 | [], _, _ => ⟨rfl, rfl, rfl, Nat.le_refl _, fun _ _ _ => rfl⟩
 | v :: vs, o, w => Zal (Zam w g o v) (Zec vs (o + 1) _)
theorem ZlH {w : World} {base g n cap m : Nat} {e : TypeId} {xs : List Value} (h : w.ownsRow base e 1 (.slice (some ⟨g, 0, none⟩) n cap) n xs) (hm : m <= n) : w.ownsRow base e 1 (.slice (some ⟨g, 0, none⟩) m cap) m (xs.take m) := by
 have hl := h.1
 rcases h.2 with ⟨h0, _⟩ | ⟨g', cap', cur, hv, hb, hh, hnc, hcm, hcs, htk⟩
 ·cases h0
 ·cases hv
  refine ⟨by rw [List.length_take]; omega, .inr ⟨g, cap, cur, rfl, hb, hh, by omega, hcm, hcs, ?_⟩⟩
  rw [<- htk, List.take_take, Nat.min_eq_left (by omega), Nat.mul_one]
theorem ZkU (l : List Int) (k : Nat) : (flat intE l).take k = flat intE (l.take k) := by
 rw [Zb0, Zb0]
 simp [Zbm]
theorem ZmY (v : Value) (Z R : List Int) (lo : Nat) (w : World) (hn : (Z ++ R).length <= 1048576) (hZ : ∀ z ∈ Z, z = 0) (hR : ∀ z ∈ R, z ≠ 0) (hv : IntsOwn w lo w.heap.size v (Z ++ R)) :
  Calls Tryz.prog 79 #[v, .func (.func 80) #[] #[]] w fun e w' => ∃ x, e = .returned x /\ IntsOwn w' lo w'.heap.size x Z /\ w.grownBy w' v.ownBlock := by
 have HI := hide (Zkn v Z R w hn hZ hR hv.at)
 by_cases hRE : R = []
 ·subst hRE
  rw [if_pos rfl] at HI
  rw [List.append_nil] at hv
  obtain ⟨a, cap, rfl⟩ := Zac hv.row
  have HV := hide hv
  clear hv
  go_enter Tryz.func79, Tryz.ntmps79
  go_wp2_with fail
  refine HI.out.mono ?_
  rintro e w1 ⟨rfl, rfl⟩
  go_wp2
  go_ret
  exact ⟨_, rfl, HV.out, ZcD _ _⟩
 ·rw [if_neg hRE] at HI
  have hRl : 0 < R.length := List.length_pos_iff.2 hRE
  have hlen : (Z ++ R).length = Z.length + R.length := List.length_append
  obtain ⟨g, cap, rfl, hg1, hg2⟩ := ZjB hv.row (by omega)
  have hcl : ∀ ty, (Builtin.clear_ #[34] ty #[.slice (some ⟨g, Z.length, none⟩) ((Z ++ R).length - Z.length) (cap - Z.length)]).run Tryz.prog w = .ok (.tuple #[]) (w.setCells g Z.length (List.replicate ((Z ++ R).length - Z.length) (.int .i64 0))) := fun ty =>
   Lib.run_clear_slice w 34 3 ty (.int .i64 0) Tryz.underlying34 (fun W => by
    obtain ⟨i0, hi, hz0, hz1, hz2⟩ := info_parts Tryz.info3
    simp [zeroValue, typeInfo, hi, hz0]) rfl rfl g Z.length _ _ (by omega) (fun j hj => by
     obtain ⟨u, hu⟩ := ZfL hv.row (Z.length + j) (by omega)
     rw [hu]; rfl) (fun j _ => hv.row.frozenAt _)
  have hcap : (Z ++ R).length <= cap := by
   rcases hv.row.2 with ⟨h0, _⟩ | ⟨g', cap', cur, hv', _, _, hnc, _⟩
   ·cases h0
   ·cases hv'; exact hnc
  have hcap2 : cap <= 9223372036854775807 := by
   rcases hv.row.2 with ⟨h0, _⟩ | ⟨g', cap', cur, hv', _, _, _, hcm, _⟩
   ·cases h0
   ·cases hv'; unfold maxLen at hcm; omega
  have hfin : IntsOwn (w.setCells g Z.length (List.replicate ((Z ++ R).length - Z.length) (.int .i64 0))) lo (w.setCells g Z.length (List.replicate ((Z ++ R).length - Z.length) (.int .i64 0))).heap.size (.slice (some ⟨g, 0, none⟩) Z.length cap) Z := by
   obtain ⟨ys, h1, h2⟩ := ZeQ (List.replicate ((Z ++ R).length - Z.length) (.int .i64 0)) Z.length w _ hv.row
   have h3 := ZlH h1 (show Z.length <= (Z ++ R).length by omega)
   rw [h2, ZkU, List.take_left] at h3
   exact IntsOwn.of h3
  have HF := hide hfin
  have HG := hide (Zec (g := g) (List.replicate ((Z ++ R).length - Z.length) (.int .i64 0)) Z.length w)
  have HV := hide hv.at
  have HSP := hide (fun (k : Nat) (y : Int) (h : (Z ++ R)[k]? = some y) => ZjJ h hZ hR)
  obtain ⟨L, hL⟩ : ∃ L, L = Z ++ R := ⟨_, rfl⟩
  rw [<- hL] at HI HF HG HV HSP hcl hcap hlen hn |-
  clear hv hfin hL hZ hR hRE
  have hzn : ((Z.length : Int) == -1) = false := by simp <;> omega
  have hzl : Z.length <= L.length := by omega
  have hzi : (Z.length : Int) <= (L.length : Int) := by omega
  have hzc : ¬ (cap = Z.length) := by omega
  have hzc2 : Z.length <= cap := by omega
  have HLN := hide hlen
  clear hlen
  go_enter Tryz.func79, Tryz.ntmps79
  go_wp2_with fail
  refine HI.out.mono ?_
  rintro e w1 ⟨rfl, rfl⟩
  go_wp2
  go_loopw [6, 5] (fun i f wr => ∃ j : Nat, Z.length + 1 <= j /\ j <= L.length /\ i = .int .i64 (j : Int) /\ f = .int .i64 (Z.length : Int) /\ wr = w) (fun i _ _ => L.length - (intOf i).toNat)
  case atStart => exact ⟨Z.length + 1, by omega, by have := HLN.out; omega, by go_num, rfl, rfl⟩
  case round =>
   obtain ⟨j, hj0, hj, rfl, rfl, rfl⟩ := hrel
   by_cases hlt : j < L.length
   ·obtain ⟨y, hy⟩ : ∃ y, L[j]? = some y := ⟨L[j], List.getElem?_eq_getElem hlt⟩
    obtain ⟨b, off, cap', hve, hbb, c0⟩ := HV.out.cell j y hy
    cases hve
    simp only [Nat.zero_add] at c0
    have hki : (0 : Int) <= (j : Int) := by omega
    have hkj : (j : Int) < (L.length : Int) := by omega
    have hd : (y != 0) = true := by
     rcases HSP.out j y hy with ⟨h1, h2⟩ | ⟨h1, h2⟩
     ·omega
     ·simpa using h2
    clear hy
    go_wp2_with fail
    refine (Zhs _ _).mono ?_
    rintro e w1 ⟨rfl, rfl⟩
    rw [hd]
    go_wp2
    go_roundw
    case rel => exact ⟨j + 1, by omega, by omega, by go_num, rfl, trivial⟩
    case measure => simp [intOf]; omega
   ·have hjn : ¬ (j : Int) < (L.length : Int) := by omega
    clear HV HSP HI
    go_wp2
    go_ret
    exact ⟨_, rfl, HF.out, HG.out⟩
def ZcZ (l : List Int) (border : Bool) : List Int := if border then (if (0 : Int) ∈ l then [0] else []) else ZcX l 3
theorem ZfA {l : List Int} {border : Bool} {a : Int} : a ∈ ZcZ l border ↔ (a ∈ l /\ 0 <= a /\ a < 3) /\ (border = true -> a = 0) := by
 unfold ZcZ
 cases border
 ·simp only [Bool.false_eq_true, if_false, false_implies, and_true]
  exact Zf6
 ·simp only [if_true, true_implies]
  constructor
  ·intro h
   split at h
   ·rename_i h0
    have : a = 0 := by simpa using h
    subst this
    exact ⟨⟨h0, by omega, by omega⟩, rfl⟩
   ·simp at h
  ·rintro ⟨⟨h1, _, _⟩, rfl⟩
   rw [if_pos h1]
   simp
theorem Zix (l : List Int) (border : Bool) : (ZcZ l border).length <= 3 := by
 unfold ZcZ
 split
 ·split <;> simp
 ·exact ZdM l 3
theorem Zla (l : List Int) : ∃ R, ZcX l 3 = (if (0 : Int) ∈ l then [0] else []) ++ R /\ (∀ z ∈ R, z ≠ 0) /\ ∀ z ∈ (if (0 : Int) ∈ l then [(0 : Int)] else []), z = 0 := by
 refine ⟨(if decide ((1 : Int) ∈ l) then [1] else []) ++ (if decide ((2 : Int) ∈ l) then [2] else []), ?_, ?_, ?_⟩
 ·show (([] ++ _) ++ _) ++ _ = _
  simp [List.append_assoc]
 ·intro z hz
  rcases List.mem_append.1 hz with h | h
  ·split at h
   ·have : z = 1 := by simpa using h
    omega
   ·simp at h
  ·split at h
   ·have : z = 2 := by simpa using h
    omega
   ·simp at h
 ·intro z hz
  split at hz
  ·simpa using hz
  ·simp at hz
theorem ZiR (v : Value) (l : List Int) (border : Bool) (hi : Nat) (w : World) (hn : l.length <= 1048576) (hv : ZaK w v l hi) (hhi : hi <= w.heap.size) :
  Calls Tryz.prog 36 #[v, .bool border] w fun e w' => ∃ x, e = .returned x /\ IntsOwn w' w.heap.size w'.heap.size x (ZcZ l border) /\ Below w.heap.size w w' := by
 obtain ⟨a, cap, rfl⟩ := hv.shape
 have HR := hide (Zj7 (.slice a l.length cap) l hi w hn hv hhi)
 clear hv
 unfold ZcZ
 cases border
 ·simp only [Bool.false_eq_true, if_false]
  obtain ⟨L, hL⟩ : ∃ L, L = ZcX l 3 := ⟨_, rfl⟩
  rw [<- hL] at HR |-
  have HLL := hide hL
  clear hL
  go_enter Tryz.func36, Tryz.ntmps36
  go_wp2_with fail
  refine HR.out.mono ?_
  rintro e w1 ⟨x, rfl, ho, b1⟩
  obtain ⟨xa, xc, rfl⟩ := Zac ho.row
  have HO := hide ho
  clear ho
  go_wp2
  go_ret
  exact ⟨_, rfl, HO.out, b1⟩
 ·simp only [if_true]
  obtain ⟨R, hre, hR, hZ⟩ := Zla l
  obtain ⟨Z, hZe⟩ : ∃ Z, Z = (if (0 : Int) ∈ l then [(0 : Int)] else []) := ⟨_, rfl⟩
  rw [<- hZe] at hre hZ |-
  have hl3 : (Z ++ R).length <= 3 := by rw [<- hre]; exact ZdM l 3
  rw [hre] at HR
  have HDD := hide (fun x W (ho : IntsOwn W w.heap.size W.heap.size x (Z ++ R)) => ZmY x Z R w.heap.size W (by omega) hZ hR ho)
  obtain ⟨L, hL⟩ : ∃ L, L = Z ++ R := ⟨_, rfl⟩
  rw [<- hL] at HR HDD
  clear hre hZe hL hl3 hZ hR
  go_enter Tryz.func36, Tryz.ntmps36
  go_wp2_with fail
  refine HR.out.mono ?_
  rintro e w1 ⟨x, rfl, ho, b1⟩
  have HD := hide (HDD.out x w1 ho)
  clear HDD
  obtain ⟨xa, xc, rfl⟩ := Zac ho.row
  have HO := hide ho
  clear ho
  go_wp2_with fail
  refine HD.out.mono ?_
  rintro e w2 ⟨y, rfl, ho2, hg⟩
  have HO2 := hide ho2
  have HB := hide (b1.grown hg b1.size (fun k hk => (HO.out.row.lt k hk).1))
  obtain ⟨ya, yc, rfl⟩ := Zac ho2.row
  clear ho2 hg
  go_wp2
  go_ret
  exact ⟨_, rfl, HO2.out, HB.out⟩
theorem Zcy {P : Program} (w : World) (dT sT ty elem : TypeId) (g o dLen dCap : Nat) (a : Addr) (sLen sCap sz : Nat) (cur : Array Value) (t : TypeId) (cs : List Value)
  (hu : P.underlying dT = some (.slice elem)) (hs : (P.info? elem).map (·.size) = some sz)
  (hg : w.heap[g]? = some (.cells cur t (0, 0))) (hn : cs.length = Nat.min sLen dLen * sz)
  (hsrc : ∀ j v, cs[j]? = some v -> w.cell? (a.add j) = some v) (hfit : o + cs.length <= cur.size) (h1 : ∀ v ∈ cs, v.oneCell' = true) :
  (Builtin.copy_ #[dT, sT] ty #[.slice (some ⟨g, o, none⟩) dLen dCap, .slice (some a) sLen sCap]).run P w =
   .ok (goInt (Nat.min sLen dLen)) (w.setRow g (cur.toList.take o ++ cs ++ cur.toList.drop (o + cs.length)).toArray) := by
 have hl := run_loadCells_list (P := P) w a cs hsrc
 have hst := run_storeCells_at P g o t cs 0 cur w hg (by simpa using hfit) h1
 cases hq : P.info? elem with
 | none => simp [hq] at hs
 | some i =>
  have hi : i.size = sz := by simpa [hq] using hs
  simp [Builtin.copy_, run_underlying hu, Builtin.lenOf, Builtin.firstCells, sizeOf, typeInfo, hq, hi, <- hn, hl, hst]
theorem ZiD {P : Program} (w : World) (t t2 ty e : TypeId) (i : TypeInfo) (ht : P.underlying t = some (.slice e)) (ht2 : P.underlying t2 = some (.slice e)) (hi : P.info? e = some i) (b : Option Addr) (n c : Nat) (x : Value) :
  (Builtin.append_ #[t, t2] ty #[.slice b n c, x]).run P w = (Builtin.append_ #[t, t] ty #[.slice b n c, x]).run P w := by
 simp [Builtin.append_, run_underlying ht, run_underlying ht2, sizeOf, typeInfo, hi]
theorem ZeT {A B C D : List Value} {n : Nat} (h : A.length + B.length + C.length = n) : (A ++ B ++ C ++ D).take n = A ++ B ++ C := by
 rw [List.take_append_of_le_length (by simp; omega), List.take_of_length_le (by simp; omega)]
theorem ZmF (cur D R : List Value) (a d : Nat) (hD : D.length = d) (hR : R.length = 3) (hc : a + 3 + d <= cur.length) :
  ((cur.take (a + 3) ++ D ++ cur.drop (a + 3 + D.length)).take a ++ R ++ (cur.take (a + 3) ++ D ++ cur.drop (a + 3 + D.length)).drop (a + R.length)) = cur.take a ++ R ++ D ++ cur.drop (a + 3 + d) := by
 have e1 : (cur.take (a + 3) ++ D ++ cur.drop (a + 3 + D.length)).take a = cur.take a := by
  rw [List.append_assoc, List.take_append_of_le_length (by simp; omega), List.take_take, Nat.min_eq_left (by omega)]
 have e2 : (cur.take (a + 3) ++ D ++ cur.drop (a + 3 + D.length)).drop (a + R.length) = D ++ cur.drop (a + 3 + d) := by
  rw [hR, List.append_assoc, List.drop_append_of_le_length (by simp; omega), List.drop_of_length_le (by simp; omega), List.nil_append, hD]
 rw [e1, e2, List.append_assoc, List.append_assoc, List.append_assoc]
theorem Zg3 (ps : List WP) (i : Nat) (h : i <= ps.length) : (flat encW ps).take (i * 3) = flat encW (ps.take i) := by
 conv => lhs; rw [<- List.take_append_drop i ps, ZaO]
 have e : (flat encW (ps.take i)).length = i * 3 := by rw [Zbn Za9, List.length_take, Nat.min_eq_left h]
 rw [<- e, List.take_left]
theorem Zhg (ps : List WP) (i : Nat) (h : i <= ps.length) : (flat encW ps).drop (i * 3) = flat encW (ps.drop i) := by
 conv => lhs; rw [<- List.take_append_drop i ps, ZaO]
 have e : (flat encW (ps.take i)).length = i * 3 := by rw [Zbn Za9, List.length_take, Nat.min_eq_left h]
 rw [<- e, List.drop_left]
theorem Zmx (r : WP) : flat encW [r] = encW r := by simp [flat]
theorem ZfS (ps : List WP) (r : WP) (i : Nat) : flat encW (ps.take i ++ [r] ++ ps.drop i) = flat encW (ps.take i) ++ encW r ++ flat encW (ps.drop i) := by
 rw [ZaO, ZaO, Zmx]
theorem Zho (ps : List WP) (r : WP) (i : Nat) (h : i <= ps.length) : (ps.take i ++ [r] ++ ps.drop i).length = ps.length + 1 := by
 simp
 omega
theorem ZeG (ps : List WP) (h : ∀ p ∈ ps, ∃ a n c, p.2 = .slice a n c) : ∀ u ∈ flat encW ps, u.oneCell' = true := by
 intro u hu
 simp only [flat, List.mem_flatMap] at hu
 obtain ⟨p, hp, hu⟩ := hu
 obtain ⟨a, n, c, e⟩ := h p hp
 obtain ⟨x, v⟩ := p
 simp only at e
 subst e
 exact Zc1 x a n c u hu
theorem add8 (g o j : Nat) : (⟨g, o, none⟩ : Addr).add j = ⟨g, o + j, none⟩ := by
 simp only [Addr.add]
 split <;> simp_all
theorem ZkQ (base g cap n m i vb : Nat) (ps : List WP) (r : WP) (w : World) (hnp : n = ps.length) (hm : m = 1) (hrow : w.ownsRow base 46 3 (.slice (some ⟨g, 0, none⟩) n cap) n (flat encW ps)) (hi : i < n) (hroom : n + m <= cap)
  (hvb : w.heap[vb]? = some (.cells (encW r).toArray 46 (0, 0))) (hne : vb ≠ g) (hone : ∀ p ∈ ps, ∃ a k c, p.2 = .slice a k c) (hr1 : ∀ u ∈ encW r, u.oneCell' = true) :
  Calls Tryz.prog 78 #[.slice (some ⟨g, 0, none⟩) n cap, .int .i64 (i : Int), .slice (some ⟨vb, 0, none⟩) m 1] w fun e w' => ∃ v, e = .returned v /\ w'.ownsRow base 46 3 v (n + m) (flat encW (ps.take i ++ [r] ++ ps.drop i)) /\ w.grownBy w' (some g) /\ (v.ownBlock = some g \/ v.ownBlock = some w.heap.size) := by
 have hnl : (flat encW ps).length = n * 3 := hrow.1
 have hui := Tryz.underlying39
 have hus := Tryz.underlying39
 obtain ⟨i0, hi0, hz0, hzs, hzb⟩ := info_parts Tryz.infoWay
 have hsz : (Tryz.prog.info? 46).map (·.size) = some 3 := by rw [hi0]; simp [hzs]
 rcases hrow.2 with ⟨h0, _⟩ | ⟨g', cap', cur, hv, hbg, hg, hnc, hcm, hcs, htk⟩
 ·simp at h0
 simp at hv
 obtain ⟨rfl, rfl⟩ := hv
 have hmx : maxLen = 9223372036854775807 \/ maxLen <= 9223372036854775807 := by unfold maxLen; omega
 have hc63 : cap <= 9223372036854775807 := by omega
 have hD : (flat encW (ps.drop i)).length = (n - i) * 3 := by rw [Zbn Za9, List.length_drop, <- hnp]
 have hclen : cur.toList.length = cap * 3 := by simpa using hcs
 have hRl : (encW r).length = 3 := Za9 r
 have hov : ∀ lb cb, (callFunc 106 #[.slice (some ⟨vb, 0, none⟩) m 1, .slice (some ⟨g, (i + m) * 3, none⟩) lb cb]).run Tryz.prog w = .ok (.value (.bool false)) w := fun lb cb => by
  rw [run_callFunc_extern Tryz.func106 (by kernel_rfl) (by kernel_rfl) (by kernel_rfl) (e := Extern.SlicesOverlaps.overlaps #[39, 39] #[4]) (by kernel_rfl),
   Lib.run_overlaps_apart w 39 4 46 hus 3 (by intro w; simp [Go.sizeOf, typeInfo, hi0, hzs]) ⟨vb, 0, none⟩ ⟨g, (i + m) * 3, none⟩ m 1 lb cb hne 46 46 3 cur.size (by simp [World.shape?, hvb, hRl]) (by simp [World.shape?, hg]) (by omega) (Zaf hvb 0) (Zaf hvb 3)]
  rfl
 have hcell : ∀ (W : World), W.heap = w.heap -> ∀ j u, (flat encW (ps.drop i))[j]? = some u -> W.cell? ((⟨g, i * 3, none⟩ : Addr).add j) = some u := fun W hW j u hj => by
  rw [add8]
  simp only [World.cell?, hW, hg]
  rw [<- Zhg ps i (by omega), <- htk, List.getElem?_drop] at hj
  have h2 : i * 3 + j < n * 3 := by
   have h3 := (List.getElem?_eq_some_iff.1 hj).1
   rw [List.length_take] at h3
   omega
  rw [List.getElem?_take_of_lt h2] at hj
  simpa using hj
 have hcp1 : ∀ (W : World), W.heap = w.heap -> ∀ ty dc sc, (Builtin.copy_ #[39, 39] ty #[.slice (some ⟨g, (i + m) * 3, none⟩) (n + m - (i + m)) dc, .slice (some ⟨g, i * 3, none⟩) (n + m - i) sc]).run Tryz.prog W = .ok (goInt (Nat.min (n + m - i) (n + m - (i + m)))) (W.setRow g (cur.toList.take ((i + m) * 3) ++ flat encW (ps.drop i) ++ cur.toList.drop ((i + m) * 3 + (flat encW (ps.drop i)).length)).toArray) := fun W hW ty dc sc =>
  Zcy W 39 39 ty 46 g ((i + m) * 3) (n + m - (i + m)) dc ⟨g, i * 3, none⟩ (n + m - i) sc 3 cur 46 (flat encW (ps.drop i)) hui hsz (by rw [hW]; exact hg)
   (by rw [hD]; congr 1; have : Nat.min (n + m - i) (n + m - (i + m)) = n + m - (i + m) := Nat.min_eq_right (by omega); omega) (hcell W hW) (by rw [hD]; omega) (ZeG _ (fun p hp => hone p (List.mem_of_mem_drop hp)))
 obtain ⟨c1, hc1⟩ : ∃ c1, c1 = cur.toList.take ((i + m) * 3) ++ flat encW (ps.drop i) ++ cur.toList.drop ((i + m) * 3 + (flat encW (ps.drop i)).length) := ⟨_, rfl⟩
 rw [<- hc1] at hcp1
 have hc1l : c1.length = cap * 3 := by rw [hc1]; simp only [List.length_append, List.length_take, List.length_drop, hclen, hD]; omega
 have hcp2 : ∀ (W : World), W.heap = (w.setRow g c1.toArray).heap -> ∀ ty dc, (Builtin.copy_ #[39, 39] ty #[.slice (some ⟨g, i * 3, none⟩) (n + m - i) dc, .slice (some ⟨vb, 0, none⟩) m 1]).run Tryz.prog W = .ok (goInt (Nat.min m (n + m - i))) (W.setRow g (c1.take (i * 3) ++ encW r ++ c1.drop (i * 3 + (encW r).length)).toArray) := fun W hW ty dc => by
  have h := Zcy (P := Tryz.prog) W 39 39 ty 46 g (i * 3) (n + m - i) dc ⟨vb, 0, none⟩ m 1 3 c1.toArray 46 (encW r) hui hsz (by rw [hW]; exact setRow_heap w g cur _ 46 _ hg)
   (by rw [hRl]; have : Nat.min m (n + m - i) = m := Nat.min_eq_left (by omega); omega) (fun j u hj => by
    rw [add8]
    simp only [World.cell?, hW]
    rw [setRow_other w g vb _ hne, hvb]
    simpa using hj) (by rw [hRl]; simp only [List.size_toArray, hc1l]; omega) hr1
  simpa using h
 have hfin : c1.take (i * 3) ++ encW r ++ c1.drop (i * 3 + (encW r).length) = flat encW (ps.take i) ++ encW r ++ flat encW (ps.drop i) ++ cur.toList.drop (i * 3 + 3 + (n - i) * 3) := by
  have h := ZmF cur.toList (flat encW (ps.drop i)) (encW r) (i * 3) ((n - i) * 3) hD hRl (by omega)
  rw [show i * 3 + 3 = (i + m) * 3 by omega, <- hc1] at h
  rw [h]
  congr 3
  ·rw [<- Zg3 ps i (by omega), <- htk, List.take_take, Nat.min_eq_left (by omega)]
  ·omega
 have hdone : ∀ W : World, W.heap = ((w.setRow g c1.toArray).setRow g (c1.take (i * 3) ++ encW r ++ c1.drop (i * 3 + (encW r).length)).toArray).heap -> W.os = w.os -> W.tape = w.tape -> W.output = w.output -> W.ownsRow base 46 3 (.slice (some ⟨g, 0, none⟩) (n + m) cap) (n + m) (flat encW (ps.take i ++ [r] ++ ps.drop i)) /\ w.grownBy W (some g) /\ ((Value.slice (some ⟨g, 0, none⟩) (n + m) cap).ownBlock = some g \/ (Value.slice (some ⟨g, 0, none⟩) (n + m) cap).ownBlock = some w.heap.size) := by
  intro W hW h1 h2 h3
  have hAl : (flat encW (ps.take i)).length = i * 3 := by rw [Zbn Za9, List.length_take, Nat.min_eq_left (by omega)]
  refine ⟨⟨?_, .inr ⟨g, cap, (flat encW (ps.take i) ++ encW r ++ flat encW (ps.drop i) ++ cur.toList.drop (i * 3 + 3 + (n - i) * 3)).toArray, rfl, hbg, ?_, hroom, hcm, ?_, ?_⟩⟩, ⟨h1, h2, h3, ?_, ?_⟩, .inl rfl⟩
  ·rw [Zbn Za9, Zho ps r i (by omega)]; omega
  ·rw [hW, hfin]
   exact setRow_heap _ g c1.toArray _ 46 _ (setRow_heap w g cur _ 46 _ hg)
  ·simp only [List.size_toArray, List.length_append, List.length_drop, hclen, hD, hRl, hAl]; omega
  ·rw [ZfS]
   exact ZeT (by rw [hAl, hRl, hD]; omega)
  ·rw [hW]; simp
  ·intro k _ hk
   have hkg : k ≠ g := fun e => hk (by rw [e])
   rw [hW, setRow_other _ g k _ hkg, setRow_other _ g k _ hkg]
 have hz1 : ¬ ((m : Int) = 0) := by omega
 have hz2 : ¬ ((i : Int) = (n : Int)) := by omega
 have hw1 : IntKind.i64.wrap ((i : Int) + (m : Int)) = (i : Int) + (m : Int) := by rw [IntKind.wrap_i64]; omega
 have hw2 : IntKind.i64.wrap ((n : Int) + (m : Int)) = (n : Int) + (m : Int) := by rw [IntKind.wrap_i64]; omega
 have hb1 : (0 : Int) <= (i : Int) + (m : Int) := by omega
 have hin : i <= n := by omega
 have htn : ((i : Int) + (m : Int)).toNat = i + m := by omega
 have htn2 : ((n : Int) + (m : Int)).toNat = n + m := by omega
 have hb2 : ¬ (cap = i + m) := by omega
 have hb3 : (i : Int) <= (n : Int) + (m : Int) := by omega
 have hb4 : ¬ (cap = i) := by omega
 have hb5 : ¬ ((cap : Int) < (n : Int) + (m : Int)) := by omega
 have HD := hide hdone
 have HC1 := hide (hcp1 w.drew rfl)
 have mixed : Tryz.prog.follows .mixedOrders = true := by kernel_rfl
 have HC2 := hide (hcp2 (w.drew.setRow g c1.toArray) rfl)
 have HOV := hide hov
 clear hdone hcp1 hcp2 hfin hc1 hcell hD hclen hRl hnl hov hc1l htk hcs hg hrow hvb hone hr1 hmx hsz hi0 hz0 hzs hzb hm hnp
 go_enter Tryz.func78, Tryz.ntmps78
 go_wp2_with (simp only [HOV.out])
 go_region_law_o (refine step_copy_runI rfl _ _ 39 39 rfl (.slice (some ⟨g, (i + m) * 3, none⟩) (n + m - (i + m)) (cap - (i + m))) (.slice (some ⟨g, i * 3, none⟩) (n + m - i) (cap - i)) (by simp [Act.eval, Act.put]) (by simp [Act.eval, Act.put]) (HC1.out 3 (cap - (i + m)) (cap - i)) ?_)
 go_wp2_with (refine wpList_copy_runI _ rfl _ _ 39 39 rfl (.slice (some ⟨g, i * 3, none⟩) (n + m - i) (cap - i)) (.slice (some ⟨vb, 0, none⟩) m 1) rfl rfl (HC2.out 3 (cap - i)) ?_)
 go_ret
 exact ⟨_, rfl, HD.out _ (by rw [<- List.append_assoc]; rfl) rfl rfl rfl⟩
theorem Zf7 (base n m vb : Nat) (v : Value) (ps : List WP) (r : WP) (w : World) (hnp : n = ps.length) (hm : m = 1) (hbase : base <= w.heap.size) (hn : n <= 1048576) (hrow : w.ownsRow base 46 3 v n (flat encW ps))
  (hvb : w.heap[vb]? = some (.cells (encW r).toArray 46 (0, 0))) (hr1 : ∀ u ∈ encW r, u.oneCell' = true) : ∃ v' w', (∀ ty, (Builtin.append_ #[39, 39] ty #[v, .slice (some ⟨vb, 0, none⟩) m 1]).run Tryz.prog w = .ok v' w') /\ w'.ownsRow base 46 3 v' (n + m) (flat encW (ps.take n ++ [r] ++ ps.drop n)) /\ w.grownBy w' v.ownBlock /\ (v'.ownBlock = v.ownBlock \/ v'.ownBlock = some w.heap.size) := by
 obtain ⟨i0, hi0, hz0, hzs, hzb⟩ := info_parts Tryz.infoWay
 obtain ⟨a, c, hv⟩ := Zac hrow
 obtain ⟨v', w', h1, h2, h3, _, h4⟩ := run_append_own_at (P := Tryz.prog) w base 39 39 46 i0 _ 3 i0.bytes Tryz.underlying39 hi0 hz0 hzs rfl rfl (by omega) v n (flat encW ps) hrow ⟨vb, 0, none⟩ m 1 (encW r) (by rw [Za9, hm]) (fun j u hj => by
  rw [add8, Nat.zero_add, Zaa hvb]
  simpa using hj) hr1 (by unfold maxLen; omega) (by rw [hzb]; omega) hbase
 refine ⟨v', w', fun ty => ?_, ?_, h3, h4⟩
 ·rw [hv, ZiD w 39 39 ty 46 i0 Tryz.underlying39 Tryz.underlying39 hi0, <- hv]
  exact h1
 ·rw [ZfS, hnp, List.take_length, List.drop_length]
  rw [hnp] at h2
  simpa [flat] using h2
theorem ZmP (base n m vb : Nat) (v : Value) (ps : List WP) (r : WP) (w : World) (hnp : n = ps.length) (hm : m = 1) (hbase : base <= w.heap.size) (hn : n <= 1048576) (hrow : w.ownsRow base 46 3 v n (flat encW ps))
  (hvb : w.heap[vb]? = some (.cells (encW r).toArray 46 (0, 0))) (hr1 : ∀ u ∈ encW r, u.oneCell' = true) :
  Calls Tryz.prog 78 #[v, .int .i64 (n : Int), .slice (some ⟨vb, 0, none⟩) m 1] w fun e w' => ∃ v', e = .returned v' /\ w'.ownsRow base 46 3 v' (n + m) (flat encW (ps.take n ++ [r] ++ ps.drop n)) /\ w.grownBy w' v.ownBlock /\ (v'.ownBlock = v.ownBlock \/ v'.ownBlock = some w.heap.size) := by
 obtain ⟨v', w', h1, h2, h3, h4⟩ := Zf7 base n m vb v ps r w hnp hm hbase hn hrow hvb hr1
 obtain ⟨va, vc, hve⟩ := Zac h2
 subst hve
 have HR := hide h1
 generalize ps.take n ++ [r] ++ ps.drop n = l at *
 have H2 := hide h2
 have H3 := hide h3
 have H4 := hide h4
 have hz1 : ¬ ((m : Int) = 0) := by omega
 clear h1 h2 h3 h4 hvb hr1 hm hnp
 rcases hrow.2 with ⟨h0, hn0⟩ | ⟨g, cap, cur, hv, hbg, hg, hnc, hcm, hcs, htk⟩
 ·subst h0
  clear hrow
  subst hn0
  go_enter Tryz.func78, Tryz.ntmps78
  go_wp2_with (at_builtin; refine Lib.wpList_append_run _ rfl _ _ _ _ rfl _ _ rfl rfl _ _ (HR.out _) ?_)
  go_ret
  exact ⟨_, rfl, (by simpa using H2.out), H3.out, (by simpa [Value.ownBlock] using H4.out)⟩
 ·subst hv
  have hc63 : cap <= 9223372036854775807 := by unfold maxLen at hcm; omega
  clear hrow hg hcs htk
  go_enter Tryz.func78, Tryz.ntmps78
  go_wp2_with (at_builtin; refine Lib.wpList_append_run _ rfl _ _ _ _ rfl _ _ rfl rfl _ _ (HR.out _) ?_)
  all_goals (go_ret; exact ⟨_, rfl, H2.out, H3.out, H4.out⟩)
theorem Zll (base g cap n m i vb : Nat) (ps : List WP) (r : WP) (w : World) (hnp : n = ps.length) (hm : m = 1) (hbase : base <= w.heap.size) (hn : n <= 1048576) (hrow : w.ownsRow base 46 3 (.slice (some ⟨g, 0, none⟩) n cap) n (flat encW ps)) (hi : i < n) (hroom : cap < n + m)
  (hvb : w.heap[vb]? = some (.cells (encW r).toArray 46 (0, 0))) (hone : ∀ p ∈ ps, ∃ a k c, p.2 = .slice a k c) (hr1 : ∀ u ∈ encW r, u.oneCell' = true) :
  Calls Tryz.prog 78 #[.slice (some ⟨g, 0, none⟩) n cap, .int .i64 (i : Int), .slice (some ⟨vb, 0, none⟩) m 1] w fun e w' => ∃ v, e = .returned v /\ w'.ownsRow base 46 3 v (n + m) (flat encW (ps.take i ++ [r] ++ ps.drop i)) /\ w.grownBy w' (some g) /\ (v.ownBlock = some g \/ v.ownBlock = some w.heap.size) := by
 have hnl : (flat encW ps).length = n * 3 := hrow.1
 have hui := Tryz.underlying39
 have hus := Tryz.underlying39
 obtain ⟨i0, hi0, hz0, hzs, hzb⟩ := info_parts Tryz.infoWay
 have hsz : (Tryz.prog.info? 46).map (·.size) = some 3 := by rw [hi0]; simp [hzs]
 rcases hrow.2 with ⟨h0, _⟩ | ⟨g', cap', cur, hv, hbg, hg, hnc, hcm, hcs, htk⟩
 ·simp at h0
 simp at hv
 obtain ⟨rfl, rfl⟩ := hv
 have hc63 : cap <= 9223372036854775807 := by unfold maxLen at hcm; omega
 have hgw := Zab hg
 have hvw := Zab hvb
 have hD : (flat encW (ps.drop i)).length = (n - i) * 3 := by rw [Zbn Za9, List.length_drop, <- hnp]
 have hAl : (flat encW (ps.take i)).length = i * 3 := by rw [Zbn Za9, List.length_take, Nat.min_eq_left (by omega)]
 have hRl : (encW r).length = 3 := Za9 r
 have hkk : (n : Int) + (m : Int) - (i : Int) = ((n + m - i : Nat) : Int) := by omega
 have hik : i + (n + m - i) = n + m := by omega
 have hcellw : ∀ (j : Nat) (u : Value), (flat encW ps)[j]? = some u -> w.cell? ⟨g, j, none⟩ = some u := fun j u hj => by
  have h2 : j < n * 3 := by rw [<- hnl]; exact (List.getElem?_eq_some_iff.1 hj).1
  rw [<- htk, List.getElem?_take_of_lt h2] at hj
  rw [Zaa hg]
  simpa using hj
 have hold : (Builtin.firstCells i0.size i (.slice (some ⟨g, 0, none⟩) i cap)).run Tryz.prog w.drew = .ok (flat encW (ps.take i)).toArray w.drew := by
  rw [hzs]
  exact run_firstCells_some w.drew 3 i ⟨g, 0, none⟩ i cap (flat encW (ps.take i)) hAl (fun j v hj => by
   rw [add8, Nat.zero_add]
   refine hcellw j v ?_
   rw [<- Zg3 ps i (by omega), List.getElem?_take] at hj
   split at hj
   ·exact hj
   ·cases hj)
 have hrz0 := Lib.run_append_grow_zeros (P := Tryz.prog) w 39 3 39 46 i0 _ .i64 .i64 hui Tryz.underlying3 hi0 hz0 (some ⟨g, 0, none⟩) i cap (flat encW (ps.take i)) hold (n + m - i) (by omega) (by rw [hzs]; omega) (by omega) (by omega) (by rw [hzb]; omega) (by rw [hzb, hik]; exact growslice_fits hroom (by omega))
 rw [hik] at hrz0
 have hGn := grownCap_ge w (n + m) cap 46
 have hGm := grownCap_le_maxLen w (n + m) cap 46 (by unfold maxLen; omega)
 obtain ⟨G, hG⟩ : ∃ G, G = grownCap w (n + m) cap 46 := ⟨_, rfl⟩
 rw [<- hG] at hrz0 hGn hGm
 obtain ⟨ROW, hROW⟩ : ∃ ROW : Array Value, ROW = (flat encW (ps.take i)).toArray ++ Builtin.zeroCells (Value.agg (wayC Zbc (.slice none 0 0))).cells (n + m - i) ++ Builtin.zeroCells (Value.agg (wayC Zbc (.slice none 0 0))).cells (G - (n + m)) := ⟨_, rfl⟩
 rw [<- hROW] at hrz0
 have hRs : ROW.size = G * 3 := by
  rw [hROW]
  simp only [Array.size_append, List.size_toArray, size_zeroCells, hAl, show (Value.agg (wayC Zbc (.slice none 0 0))).cells.size = 3 from rfl]
  omega
 have hRt : ROW.toList.take (i * 3) = flat encW (ps.take i) := by
  rw [hROW]
  simp only [Array.toList_append, List.append_assoc]
  rw [<- hAl]
  exact List.take_left
 obtain ⟨N, hN⟩ : ∃ N, N = w.heap.size := ⟨_, rfl⟩
 obtain ⟨W1, hW1⟩ : ∃ W1, W1 = w.drew.alloc (.cells ROW 46) := ⟨_, rfl⟩
 rw [<- hW1, <- hN] at hrz0
 have hrz : ∀ ty, (Builtin.append_ #[39, 3] ty #[.slice (some ⟨g, 0, none⟩) i cap, .int .i64 ((n : Int) + (m : Int) - (i : Int))]).run Tryz.prog w = .ok (.slice (some ⟨N, 0, none⟩) (n + m) G) W1 := fun ty => by
  rw [hkk]
  exact hrz0
 have g1 : W1.heap[N]? = some (.cells ROW 46 (0, 0)) := by rw [hW1, hN]; exact heap_alloc_new w.drew _
 have b1 : ∀ k, k < N -> W1.heap[k]? = w.heap[k]? := fun k hk => by rw [hW1]; exact Below.heap_alloc _ _ _ (by rw [hN] at hk; exact hk)
 have s1 : W1.heap.size = N + 1 := by rw [hW1, hN]; simp
 have hcpA : ∀ ty dc, (Builtin.copy_ #[39, 39] ty #[.slice (some ⟨N, i * 3, none⟩) (n + m - i) dc, .slice (some ⟨vb, 0, none⟩) m 1]).run Tryz.prog W1 = .ok (goInt (Nat.min m (n + m - i))) (W1.setRow N (ROW.toList.take (i * 3) ++ encW r ++ ROW.toList.drop (i * 3 + (encW r).length)).toArray) := fun ty dc =>
  Zcy W1 39 39 ty 46 N (i * 3) (n + m - i) dc ⟨vb, 0, none⟩ m 1 3 ROW 46 (encW r) hui hsz g1
   (by rw [hRl]; have : Nat.min m (n + m - i) = m := Nat.min_eq_left (by omega); omega) (fun j u hj => by
    rw [add8, Nat.zero_add]
    simp only [World.cell?]
    rw [b1 vb (by omega), hvb]
    simpa using hj) (by rw [hRl, hRs]; omega) hr1
 obtain ⟨c1, hc1⟩ : ∃ c1, c1 = ROW.toList.take (i * 3) ++ encW r ++ ROW.toList.drop (i * 3 + (encW r).length) := ⟨_, rfl⟩
 rw [<- hc1] at hcpA
 have hc1l : c1.length = G * 3 := by
  rw [hc1]
  simp only [List.length_append, List.length_take, List.length_drop, Array.length_toList, hRs, hRl]
  omega
 have hc1t : c1.take ((i + m) * 3) = flat encW (ps.take i) ++ encW r := by
  rw [hc1, hRt]
  rw [List.take_append_of_le_length (by simp only [List.length_append, hAl, hRl]; omega), List.take_of_length_le (by simp only [List.length_append, hAl, hRl]; omega)]
 obtain ⟨W2, hW2⟩ : ∃ W2, W2 = W1.setRow N c1.toArray := ⟨_, rfl⟩
 rw [<- hW2] at hcpA
 have g2 : W2.heap[N]? = some (.cells c1.toArray 46 (0, 0)) := by rw [hW2]; exact setRow_heap W1 N ROW _ 46 _ g1
 have b2 : ∀ k, k < N -> W2.heap[k]? = w.heap[k]? := fun k hk => by rw [hW2, setRow_other W1 N k _ (by omega)]; exact b1 k hk
 have s2 : W2.heap.size = N + 1 := by rw [hW2]; simpa using s1
 have hcpB0 := fun dc sc => Zcy (P := Tryz.prog) W2.drew 39 39 3 46 N ((i + m) * 3) (n + m - (i + m)) dc ⟨g, i * 3, none⟩ (n - i) sc 3 c1.toArray 46 (flat encW (ps.drop i)) hui hsz g2
   (by rw [hD]; congr 1; have : Nat.min (n - i) (n + m - (i + m)) = n - i := Nat.min_eq_left (by omega); omega) (fun j u hj => by
    rw [add8]
    have h2 := hcellw (i * 3 + j) u (by rw [<- Zhg ps i (by omega), List.getElem?_drop] at hj; exact hj)
    simp only [World.cell?] at h2 |-
    rw [show W2.drew.heap[g]? = w.heap[g]? from b2 g (by omega)]
    exact h2) (by rw [hD]; simp only [List.size_toArray, hc1l]; omega) (ZeG _ (fun p hp => hone p (List.mem_of_mem_drop hp)))
 obtain ⟨c2, hc2⟩ : ∃ c2, c2 = c1.take ((i + m) * 3) ++ flat encW (ps.drop i) ++ c1.drop ((i + m) * 3 + (flat encW (ps.drop i)).length) := ⟨_, rfl⟩
 simp only [<- hc2] at hcpB0
 obtain ⟨W3, hW3⟩ : ∃ W3, W3 = W2.drew.setRow N c2.toArray := ⟨_, rfl⟩
 rw [<- hW3] at hcpB0
 have g3 : W3.heap[N]? = some (.cells c2.toArray 46 (0, 0)) := by rw [hW3]; exact setRow_heap W2.drew N c1.toArray _ 46 _ g2
 have b3 : ∀ k, k < N -> W3.heap[k]? = w.heap[k]? := fun k hk => by rw [hW3, setRow_other W2.drew N k _ (by omega)]; exact b2 k hk
 have s3 : W3.heap.size = N + 1 := by rw [hW3]; simpa using s2
 have hfin : W3.ownsRow base 46 3 (.slice (some ⟨N, 0, none⟩) (n + m) G) (n + m) (flat encW (ps.take i ++ [r] ++ ps.drop i)) /\ w.grownBy W3 (some g) := by
  refine ⟨⟨?_, .inr ⟨N, G, c2.toArray, rfl, by rw [hN]; exact hbase, g3, hGn, hGm, ?_, ?_⟩⟩, ⟨?_, ?_, ?_, by omega, fun k hk _ => b3 k (by omega)⟩⟩
  ·rw [Zbn Za9, Zho ps r i (by omega)]; omega
  ·rw [hc2, hc1t]
   simp only [List.size_toArray, List.length_append, List.length_drop, hc1l, hD, hRl, hAl]
   omega
  ·rw [ZfS, hc2, hc1t]
   exact ZeT (by rw [hAl, hRl, hD]; omega)
  ·rw [hW3, hW2, hW1]; rfl
  ·rw [hW3, hW2, hW1]; rfl
  ·rw [hW3, hW2, hW1]; rfl
 have hz1 : ¬ ((m : Int) = 0) := by omega
 have hz2 : ¬ ((i : Int) = (n : Int)) := by omega
 have hz3 : (cap : Int) < (n : Int) + (m : Int) := by omega
 have hw1 : IntKind.i64.wrap ((i : Int) + (m : Int)) = (i : Int) + (m : Int) := by rw [IntKind.wrap_i64]; omega
 have hw2 : IntKind.i64.wrap ((n : Int) + (m : Int)) = (n : Int) + (m : Int) := by rw [IntKind.wrap_i64]; omega
 have hw3 : IntKind.i64.wrap ((n : Int) + (m : Int) - (i : Int)) = (n : Int) + (m : Int) - (i : Int) := by rw [IntKind.wrap_i64]; omega
 have hb1 : (0 : Int) <= (i : Int) + (m : Int) := by omega
 have hin : i <= n := by omega
 have htn : ((i : Int) + (m : Int)).toNat = i + m := by omega
 have hb3 : (i : Int) <= (n : Int) := by omega
 have hGi : ¬ (G = i) := by omega
 have hGim : ¬ (G = i + m) := by omega
 have hci : ¬ (cap = i) := by omega
 have hG63 : G <= 9223372036854775807 := by unfold maxLen at hGm; omega
 have HD := hide hfin
 have HNW := hide hN
 have HA := hide hrz
 have HC1 := hide hcpA
 have HC2 := hide hcpB0
 have mixed : Tryz.prog.follows .mixedOrders = true := by kernel_rfl
 clear hfin hrz hcpA hcpB0 hrz0 g1 g2 g3 b1 b2 b3 s1 s2 s3 hW1 hW2 hW3 hc1 hc2 hc1l hc1t hROW hRs hRt hold hcellw hkk hik hN hG hGm hD hAl hRl hnl htk hcs hg hrow hvb hone hr1 hsz hi0 hz0 hzs hzb hm hnp
 go_enter Tryz.func78, Tryz.ntmps78
 go_wp2_with (first
  | (at_builtin; refine Lib.wpList_append_run _ rfl _ _ _ _ rfl _ _ rfl rfl _ _ (HA.out _) ?_)
  | (refine wpList_copy_runI _ rfl _ _ 39 39 rfl (.slice (some ⟨N, i * 3, none⟩) (n + m - i) (G - i)) (.slice (some ⟨vb, 0, none⟩) m 1) rfl rfl (HC1.out 3 (G - i)) ?_))
 go_region_law_o (refine step_copy_runI rfl _ _ 39 39 rfl (.slice (some ⟨N, (i + m) * 3, none⟩) (n + m - (i + m)) (G - (i + m))) (.slice (some ⟨g, i * 3, none⟩) (n - i) (cap - i)) (by simp [Act.eval, Act.put]) (by simp [Act.eval, Act.put]) (HC2.out (G - (i + m)) (cap - i)) ?_)
 go_wp2
 go_ret
 exact ⟨_, rfl, HD.out.1, HD.out.2, .inr (by rw [<- HNW.out]; rfl)⟩
end Go.Proofs.YtakiifededfjlaaGreat
