/-
  impl.offerOf, impl.routesToThings: their contracts.
  slices.Concat at ways and at routes: their contracts.
  A heap in a row, as values: what sifting up and down makes of it.
  impl.wayHeap: its methods' contracts.
  Calls through an interface that holds a pointer: which function, with which receiver.
-/
import Derived.Test.YtakiifededfjlaaGreatRm19
import Derived.Test.YtakiifededfjlaaGreatRm2
import Derived.Test.YtakiifededfjlaaGreatShelfG
import Derived.Test.YtakiifededfjlaaGreatRm18
import Derived.Test.YtakiifededfjlaaGreatRm15
import Derived.Test.YtakiifededfjlaaGreatRm1
import Derived.Test.YtakiifededfjlaaGreatRm7
import Derived.Handy
namespace Go.Proofs.YtakiifededfjlaaGreat
open Go.RowKit
set_option linter.unusedSimpArgs false
set_option linter.unusedVariables false
set_option maxRecDepth 100000
set_option maxHeartbeats 8000000
def offQ (r : RecD) (d : WayD) : RtD := if r.far then ⟨true, r.key, 4, d.cost, r.cost, d.hops⟩ else ⟨true, r.key, 3, r.cost + d.cost, 0, d.hops⟩
theorem ZlD (r : RecD) (d : WayD) : wOf (offQ r d) = ⟨r.key, ZfW r.far r.cost d.cost, d.hops⟩ := by
 unfold offQ ZfW wOf
 cases r.far <;> simp
theorem ZlT (r : RecD) (d : WayD) : (offQ r d).hops = d.hops := by unfold offQ; split <;> rfl
theorem ZnV {xs : List RecD} {ds es : List WayD} {src : Int} {r : RecD} {d : WayD} (hs : ZaE xs = true) (hr : r ∈ xs) (hd : Zdq ds) (he : Zdq es) (hk : r.kind = 3) (hc : r.cost < 60000) (ho : ZbZ ds es src r.owner = some d) : OffR (offQ r d) := by
 have h1 := ZdF hs hr hk hc
 have h2 := ZcV hd he ho
 unfold offQ
 cases hf : r.far
 ·rw [if_neg (by simp)]
  exact ⟨rfl, .inl ⟨rfl, rfl⟩, by show 0 <= r.cost + d.cost /\ r.cost + d.cost <= 61000; omega, by simp, h2.2.1, h2.2.2, h1.1⟩
 ·rw [if_pos rfl]
  exact ⟨rfl, .inr rfl, by show 0 <= d.cost /\ d.cost <= 61000; omega, by show 0 <= r.cost /\ r.cost <= 1000; omega, h2.2.1, h2.2.2, h1.1⟩
theorem Zln (r : RecD) (d : WayD) (na ua : Option Addr) (nn nc un uc : Nat) (w : World) (hr : 0 <= r.cost /\ r.cost <= 60000) (hd : 0 <= d.cost /\ d.cost <= 60000) :
  Calls Tryz.prog 64 #[.agg (recC r (.slice na nn nc)), .agg (wayC d (.slice ua un uc))] w fun e w' => e = .returned (.agg (rtC (offQ r d) (.slice ua un uc))) /\ Below w.heap.size w w' := by
 cases hf : r.far
 ·skip
  have hoq : offQ r d = ⟨true, r.key, 3, r.cost + d.cost, 0, d.hops⟩ := by unfold offQ; rw [hf]; rfl
  rw [hoq]
  clear hoq
  unfold rtC recC wayC
  rw [hf]
  have BB := hide ((Za1 (w := w) (.cells #[.int .i64 r.area, .int .i64 r.kind, .int .i64 r.owner, .int .i64 r.key, .int .i64 r.seq, .slice na nn nc, .int .i64 r.cost, .bool false] 64) (.cells #[.int .i64 d.to, .int .i64 d.cost, .slice ua un uc] 46)).alloc (by simp; omega) (.cells #[.bool true, .int .i64 r.key, .int .i64 3, .int .i64 (r.cost + d.cost), .int .i64 (0), .slice ua un uc] 44))
  clear hf
  go_enter Tryz.func64, Tryz.ntmps64
  go_wp2
  go_returns
  exact ⟨rfl, BB.out⟩
 ·skip
  have hoq : offQ r d = ⟨true, r.key, 4, d.cost, r.cost, d.hops⟩ := by unfold offQ; rw [hf]; rfl
  rw [hoq]
  clear hoq
  unfold rtC recC wayC
  rw [hf]
  have BB := hide ((Za1 (w := w) (.cells #[.int .i64 r.area, .int .i64 r.kind, .int .i64 r.owner, .int .i64 r.key, .int .i64 r.seq, .slice na nn nc, .int .i64 r.cost, .bool true] 64) (.cells #[.int .i64 d.to, .int .i64 d.cost, .slice ua un uc] 46)).alloc (by simp; omega) (.cells #[.bool true, .int .i64 r.key, .int .i64 4, .int .i64 (d.cost), .int .i64 (r.cost), .slice ua un uc] 44))
  clear hf
  go_enter Tryz.func64, Tryz.ntmps64
  go_wp2
  go_returns
  exact ⟨rfl, BB.out⟩
def OffK (xs : List RecD) (ds es : List WayD) (src : Int) (k : Nat) (ys : List RtD) : Prop := ∀ y, y ∈ ys ↔ ∃ r ∈ xs.take k, r.kind = 3 /\ r.cost < 60000 /\ ∃ d, ZbZ ds es src r.owner = some d /\ y = offQ r d
theorem OffK.quiet {xs : List RecD} {ds es : List WayD} {src : Int} {k : Nat} {ys : List RtD} {r : RecD} (h : OffK xs ds es src k ys) (hr : xs[k]? = some r) (hn : r.kind = 3 -> r.cost < 60000 -> ZbZ ds es src r.owner = none) : OffK xs ds es src (k + 1) ys := by
 obtain ⟨hk, e⟩ := List.getElem?_eq_some_iff.1 hr
 intro y
 rw [h y, List.take_succ_eq_append_getElem hk, e]
 constructor
 ·rintro ⟨x, hx, ht⟩
  exact ⟨x, List.mem_append.2 (.inl hx), ht⟩
 ·rintro ⟨x, hx, h1, h2, d, h3, h4⟩
  rcases List.mem_append.1 hx with h5 | h5
  ·exact ⟨x, h5, h1, h2, d, h3, h4⟩
  ·have : x = r := by simpa using h5
   subst this
   rw [hn h1 h2] at h3
   cases h3
theorem OffK.more {xs : List RecD} {ds es : List WayD} {src : Int} {k : Nat} {ys : List RtD} {r : RecD} {d : WayD} (h : OffK xs ds es src k ys) (hr : xs[k]? = some r) (h1 : r.kind = 3) (h2 : r.cost < 60000) (h3 : ZbZ ds es src r.owner = some d) : OffK xs ds es src (k + 1) (ys ++ [offQ r d]) := by
 obtain ⟨hk, e⟩ := List.getElem?_eq_some_iff.1 hr
 intro y
 rw [List.mem_append, h y, List.take_succ_eq_append_getElem hk, e]
 constructor
 ·rintro (⟨x, hx, ht⟩ | h4)
  ·exact ⟨x, List.mem_append.2 (.inl hx), ht⟩
  ·have : y = offQ r d := by simpa using h4
   exact ⟨r, List.mem_append.2 (.inr (by simp)), h1, h2, d, h3, this⟩
 ·rintro ⟨x, hx, g1, g2, d', g3, g4⟩
  rcases List.mem_append.1 hx with h5 | h5
  ·exact .inl ⟨x, h5, g1, g2, d', g3, g4⟩
  ·have : x = r := by simpa using h5
   subst this
   rw [h3] at g3
   cases g3
   exact .inr (by simp [g4])
theorem ZlR {xs : List RecD} {ds es : List WayD} {src : Int} {ys bs : List RtD} (h : OffK xs ds es src xs.length ys) (hb : ZcB ys bs) : Zav (ZcY xs ds es src) (bs.map wOf) := by
 unfold ZcB at hb
 refine hb.congr (fun to d => ?_)
 constructor
 ·rintro ⟨q, hq, rfl, ht⟩
  obtain ⟨r, hr, h1, h2, v, h3, rfl⟩ := (h q).1 hq
  rw [List.take_length] at hr
  exact ⟨ht, r, hr, h1, h2, v, h3, ZlD r v⟩
 ·rintro ⟨ht, r, hr, h1, h2, v, h3, rfl⟩
  refine ⟨offQ r v, (h _).2 ⟨r, by rw [List.take_length]; exact hr, h1, h2, v, h3, rfl⟩, (ZlD r v).symm, ?_⟩
  have := congrArg WayD.to (ZlD r v)
  exact this.trans ht
theorem ZjH {bs : List QP} (h : OffL bs) : ((ZaA bs).map wOf).map rtOf = ZaA bs := by
 rw [List.map_map]
 have : ∀ y ∈ ZaA bs, (rtOf ∘ wOf) y = y := fun y hy => by
  obtain ⟨b, hb, rfl⟩ := List.mem_map.1 hy
  exact (h b hb).rt
 conv => rhs; rw [<- List.map_id (ZaA bs)]
 exact List.map_congr_left this
theorem Zf8 {os : List QP} {p : QP} (h : OffL os) (hp : OffR p.1) : OffL (os ++ [p]) := fun b hb => by
 rcases List.mem_append.1 hb with h1 | h1
 ·exact h b h1
 ·have : b = p := by simpa using h1
  subst this
  exact hp
theorem ZjE (v vc : Value) (ps : List RP) (cs : List WP) (ds es : List WayD) (hc : Zah cs = ds ++ es) (hi lo2 hi2 : Nat) (src : Int) (w : World) (hv : RecsIn w hi v ps) (hhi : hi <= w.heap.size) (hw : WaysOwn w lo2 hi2 vc cs) (hh2 : hi2 <= w.heap.size) (hnw : totW cs <= 1048576) (hs : ZaE (fsts ps) = true) (hgd : Zdq ds) (hge : Zdq es) :
  Calls Tryz.prog 29 #[v, vc, .int .i64 src] w fun e w' => ∃ x bs, e = .returned x /\ OffL bs /\ Zav (ZcY (fsts ps) ds es src) ((ZaA bs).map wOf) /\ RtsOwn w' w.heap.size w'.heap.size x bs /\ Below w.heap.size w w' := by
 obtain ⟨a0, c0, rfl⟩ := Zac hv.row
 obtain ⟨a1, c1, rfl⟩ := Zac hw.row
 have hpl : ps.length <= 150 := by
  unfold ZaE at hs
  simp only [Bool.and_eq_true, decide_eq_true_eq] at hs
  have := hs.1.1
  simpa [fsts] using this
 have HOW := hide (fun (o : Int) W (hb : Below w.heap.size w W) => Zk6 (.slice a1 cs.length c1) cs ds es hc o src W (fun W' hb' => Zfk (.slice a1 cs.length c1) cs lo2 hi2 o W' ((hw.below hb hh2).below hb' (Nat.le_trans hh2 hb.size)) (Nat.le_trans (Nat.le_trans hh2 hb.size) hb'.size) hnw) ⟨_, _, _, rfl⟩)
 unfold wayC at HOW
 have HV := hide hv
 have HRT := hide (fun r (hr : r ∈ fsts ps) => ZdF hs hr)
 have HGO := hide (fun o d (h : ZbZ ds es src o = some d) => ZcV hgd hge h)
 have HOK := hide (fun r d (hr : r ∈ fsts ps) => ZnV (src := src) (d := d) hs hr hgd hge)
 clear hv hw hs hgd hge hc
 go_enter Tryz.func29, Tryz.ntmps29
 go_wp2
 go_loopw [14, 7] (fun i o wr => ∃ (k : Nat) (x : Value) (os : List QP), k <= ps.length /\ i = .int .i64 (k : Int) /\ o = x /\ RtsOwn wr w.heap.size wr.heap.size x os /\ Hid (OffK (fsts ps) ds es src k (ZaA os)) /\ OffL os /\ os.length <= k /\ Below w.heap.size w wr) (fun i _ _ => ps.length - (intOf i).toNat)
 case atStart => exact ⟨0, _, [], by omega, rfl, rfl, ⟨World.ownsRow_nil _ _ _ _, fun k hk => by simp [Value.ownBlock] at hk, by simp, by simp⟩, hide (fun y => by simp [ZaA]), fun b hb => by simp at hb, by simp, Below.refl _ _⟩
 case round =>
  obtain ⟨k, x, os, hk, rfl, rfl, hown, HM, hol, hql, BW⟩ := hrel
  obtain ⟨xa, xc, rfl⟩ := Zac hown.row
  have hsz := BW.size
  by_cases hlt : k < ps.length
  ·obtain ⟨p, hp⟩ : ∃ p, ps[k]? = some p := ⟨ps[k], List.getElem?_eq_getElem hlt⟩
   obtain ⟨bb, off, cap', hve, hbb, c0, c1, c2, c3, c4, c5, c6, c7, hnr⟩ := HV.out.at.cells k p hp
   cases hve
   obtain ⟨pa, pc, hpn⟩ := ZaC.shape hnr
   rw [hpn] at c5
   rw [<- BW.cell (p := ⟨bb, off + k * 8, none⟩) (Nat.lt_of_lt_of_le hbb hhi)] at c0
   rw [<- BW.cell (p := ⟨bb, off + k * 8 + 1, none⟩) (Nat.lt_of_lt_of_le hbb hhi)] at c1
   rw [<- BW.cell (p := ⟨bb, off + k * 8 + 2, none⟩) (Nat.lt_of_lt_of_le hbb hhi)] at c2
   rw [<- BW.cell (p := ⟨bb, off + k * 8 + 3, none⟩) (Nat.lt_of_lt_of_le hbb hhi)] at c3
   rw [<- BW.cell (p := ⟨bb, off + k * 8 + 4, none⟩) (Nat.lt_of_lt_of_le hbb hhi)] at c4
   rw [<- BW.cell (p := ⟨bb, off + k * 8 + 5, none⟩) (Nat.lt_of_lt_of_le hbb hhi)] at c5
   rw [<- BW.cell (p := ⟨bb, off + k * 8 + 6, none⟩) (Nat.lt_of_lt_of_le hbb hhi)] at c6
   rw [<- BW.cell (p := ⟨bb, off + k * 8 + 7, none⟩) (Nat.lt_of_lt_of_le hbb hhi)] at c7
   have HPP := hide (Zbo hp)
   have HPM := hide (List.mem_of_getElem? (Zbo hp))
   have BAL : Below wr.heap.size wr (wr.alloc (.cells #[.int .i64 p.1.area, .int .i64 p.1.kind, .int .i64 p.1.owner, .int .i64 p.1.key, .int .i64 p.1.seq, .slice pa p.1.near.length pc, .int .i64 p.1.cost, .bool p.1.far] 64)) := (Below.refl _ _).alloc (Nat.le_refl _) _
   have hxl := heap_alloc_new wr (.cells #[.int .i64 p.1.area, .int .i64 p.1.kind, .int .i64 p.1.owner, .int .i64 p.1.key, .int .i64 p.1.seq, .slice pa p.1.near.length pc, .int .i64 p.1.cost, .bool p.1.far] 64)
   obtain ⟨wl, hwl⟩ : ∃ W, W = (wr.alloc (.cells #[.int .i64 p.1.area, .int .i64 p.1.kind, .int .i64 p.1.owner, .int .i64 p.1.key, .int .i64 p.1.seq, .slice pa p.1.near.length pc, .int .i64 p.1.cost, .bool p.1.far] 64)) := ⟨_, rfl⟩
   rw [<- hwl] at BAL hxl
   have hki : (0 : Int) <= (k : Int) := by omega
   have hkj : (k : Int) < (ps.length : Int) := by omega
   have HOL := hide hol
   have HOW2 := hide hown
   have HBW := hide BW
   clear hp hnr hpn hol hown BW
   by_cases hK : p.1.kind = 3
   case neg =>
    have hd : (p.1.kind != 3) = true := by simpa using hK
    have HhK := hide hK
    clear hK
    have HN := hide (show OffK (fsts ps) ds es src (k + 1) (ZaA os) from HM.out.quiet HPP.out (fun h _ => absurd h HhK.out))
    have N1 := hide ((HOW2.out.below BAL (Nat.le_refl _)).wide (Nat.le_refl _) BAL.size)
    have N2 := hide (HBW.out.trans (BAL.mono hsz))
    rw [hwl] at N1 N2
    clear HM HPP HPM HOW BAL hwl hxl HRT HGO HOK HOW2 HBW
    go_wp2
    go_roundw
    case rel => exact ⟨k + 1, _, os, by omega, by go_num, rfl, N1.out, HN, HOL.out, by omega, N2.out⟩
    case measure => simp [intOf]; omega
   have hdK : (p.1.kind != 3) = false := by simpa using hK
   have HhK := hide hK
   clear hK
   by_cases hC : p.1.cost < 60000
   case neg =>
    have hd : p.1.cost >= 60000 := by omega
    have HhC := hide hC
    clear hC
    have HN := hide (show OffK (fsts ps) ds es src (k + 1) (ZaA os) from HM.out.quiet HPP.out (fun _ h => absurd h HhC.out))
    have N1 := hide ((HOW2.out.below BAL (Nat.le_refl _)).wide (Nat.le_refl _) BAL.size)
    have N2 := hide (HBW.out.trans (BAL.mono hsz))
    rw [hwl] at N1 N2
    clear HM HPP HPM HOW BAL hwl hxl HRT HGO HOK HOW2 HBW
    go_wp2
    go_roundw
    case rel => exact ⟨k + 1, _, os, by omega, by go_num, rfl, N1.out, HN, HOL.out, by omega, N2.out⟩
    case measure => simp [intOf]; omega
   have hdC : ¬ p.1.cost >= 60000 := by omega
   have hrb := HRT.out p.1 HPM.out HhK.out hC
   have HhC := hide hC
   clear hC
   have hfd := Zkh ds es src p.1.owner
   have HW := HOW.out p.1.owner wl (HBW.out.trans (BAL.mono hsz))
   obtain ⟨D, hD⟩ : ∃ D, D = ownD ds es src p.1.owner := ⟨_, rfl⟩
   obtain ⟨FB, hFB⟩ : ∃ F, F = ownB ds es src p.1.owner := ⟨_, rfl⟩
   rw [<- hD, <- hFB] at HW hfd
   have hx2 := Zaa hxl 2
   simp at hx2
   rw [hwl] at hx2
   have HXL := hide hxl
   have HWW := hide HW
   have HFD := hide hfd
   have HBL := hide BAL
   clear HW hfd hD hFB hxl BAL HOW
   go_wp2_with fail
   rw [<- hwl]
   clear hwl hx2
   refine HWW.out.mono ?_
   rintro e w3 ⟨du, rfl, hdu, b3⟩
   obtain ⟨da, dc, rfl⟩ := Zac hdu
   have hb3 := b3.size
   have hbl := HBL.out.size
   have hxl3 := (b3.block _ (Zab HXL.out)).trans HXL.out
   have B3 : Below wr.heap.size wr w3 := HBL.out.trans (b3.mono hbl)
   have BA : Below w3.heap.size w3 (w3.alloc (.cells #[.int .i64 D.to, .int .i64 D.cost, .slice da D.hops.length dc] 46)) := (Below.refl _ _).alloc (Nat.le_refl _) _
   have B4 : Below wr.heap.size wr (w3.alloc (.cells #[.int .i64 D.to, .int .i64 D.cost, .slice da D.hops.length dc] 46)) := B3.trans (BA.mono (by omega))
   cases FB
   ·have HN := hide (show OffK (fsts ps) ds es src (k + 1) (ZaA os) from HM.out.quiet HPP.out (fun _ _ => by
     rcases HFD.out with ⟨h1, _⟩ | ⟨_, h2, _⟩
     ·cases h1
     ·exact h2))
    have N1 := hide ((HOW2.out.below B4 (Nat.le_refl _)).wide (Nat.le_refl _) B4.size)
    have N2 := hide (HBW.out.trans (B4.mono hsz))
    clear HM HPP HPM HBL B3 B4 BA HRT HGO HOK HOW2 HBW HFD hdu b3 hxl3 HXL HWW
    go_wp2
    go_roundw
    case rel => exact ⟨k + 1, _, os, by omega, by go_num, rfl, N1.out, HN, HOL.out, by omega, N2.out⟩
    case measure => simp [intOf]; omega
   have hfound : ZbZ ds es src p.1.owner = some D := by
    rcases HFD.out with ⟨_, h2⟩ | ⟨h1, _⟩
    ·exact h2
    ·cases h1
   have hDg := HGO.out p.1.owner D hfound
   have HN := hide (HM.out.more HPP.out HhK.out HhC.out hfound)
   have HNO := hide (HOK.out p.1 D HPM.out HhK.out HhC.out hfound)
   have HOF := hide (fun W => Zln p.1 D pa da p.1.near.length pc D.hops.length dc W (by omega) hDg.1)
   unfold recC wayC at HOF
   have hxl4 := (BA.block _ (Zab hxl3)).trans hxl3
   have hx4 := heap_alloc_new w3 (.cells #[.int .i64 D.to, .int .i64 D.cost, .slice da D.hops.length dc] 46)
   have r0 := Zaa hxl4 0
   have r1 := Zaa hxl4 1
   have r2 := Zaa hxl4 2
   have r3 := Zaa hxl4 3
   have r4 := Zaa hxl4 4
   have r5 := Zaa hxl4 5
   have r6 := Zaa hxl4 6
   have r7 := Zaa hxl4 7
   have d0 := Zaa hx4 0
   have d1 := Zaa hx4 1
   have d2 := Zaa hx4 2
   simp only [List.getElem?_toArray, List.getElem?_cons_succ, List.getElem?_cons_zero] at r0 r1 r2 r3 r4 r5 r6 r7 d0 d1 d2
   have HB4 := hide B4
   have HDU := hide (hdu.alloc (.cells #[.int .i64 D.to, .int .i64 D.cost, .slice da D.hops.length dc] 46))
   have hwls : wr.heap.size < wl.heap.size := Zab HXL.out
   clear HM HPP HPM HBL B3 B4 BA HRT HGO HOK HFD hdu b3 hxl3 hxl4 hx4 HXL HWW hfound hDg
   go_wp2_with fail
   refine (HOF.out _).mono ?_
   rintro e w5 ⟨rfl, b5⟩
   have B5 : Below wr.heap.size wr w5 := HB4.out.trans (b5.mono HB4.out.size)
   have hd5 := Zae HDU.out b5 (Nat.le_refl _)
   obtain ⟨Q, hQ⟩ : ∃ Q, Q = offQ p.1 D := ⟨_, rfl⟩
   have hQh : Q.hops = D.hops := by rw [hQ]; exact ZlT _ _
   rw [<- hQ] at HN HNO |-
   rw [<- hQh] at hd5 |-
   have HQO := hide (show Zbg w5 wr.heap.size w5.heap.size (Q, .slice da Q.hops.length dc) from ⟨Zag hd5 (by omega), fun j hj => (hd5.lt j hj).2⟩)
   have HB5 := hide B5
   have hw5 := B5.size
   clear hQ hQh hd5 HDU HB4 b5 HOF B5
   unfold rtC
   have BZ := hide (HB5.out.alloc hw5 (.cells (encQ (Q, .slice da Q.hops.length dc)).toArray 44))
   have OW := hide ((Zae HOW2.out.row HB5.out (Nat.le_refl _)).alloc (.cells (encQ (Q, .slice da Q.hops.length dc)).toArray 44))
   go_wp2_with (first
    | (at_builtin; refine ZaG ZbH (by omega) (by omega) _ rfl _ _ 37 rfl w.heap.size 44 Tryz.underlying37 (.agg (rtC Zbp (.slice none 0 0))) rfl Tryz.infoRoute _ os (Q, .slice da Q.hops.length dc) (Zcj _ _ _ _) rfl OW.out ⟨w5.heap.size, 0, none⟩ 1 rfl (Zan (cs := encQ (Q, .slice da Q.hops.length dc))) (by omega) (by simp; omega) ?_))
   intro v' w6 hown' hgrow hat
   have NW := hide (HOW2.out.push BZ.out (((HQO.out.keep (W' := w5.alloc (.cells (encQ (Q, .slice da Q.hops.length dc)).toArray 44)) (fun j _ h2 h3 => ((Below.refl w5.heap.size w5).alloc (Nat.le_refl _) (.cells (encQ (Q, .slice da Q.hops.length dc)).toArray 44)).block j h3)).wide hsz (by simp))) (fun b hb j hj e => by
    have h1 := (HOW2.out.nears b hb).2 j hj
    have h2 := (HQO.out.1.lt j e).1
    omega) (by simpa using hown') hgrow)
   have N2 := hide ((HBW.out.trans (BZ.out.mono hsz)).grown hgrow (by have := BZ.out.size; omega) (fun j hj => (HOW2.out.row.lt j hj).1))
   have N3 := hide (show OffK (fsts ps) ds es src (k + 1) (ZaA (os ++ [(Q, .slice da Q.hops.length dc)])) by rw [ZaQ]; exact HN.out)
   have N4 := hide (Zf8 (p := (Q, .slice da Q.hops.length dc)) HOL.out HNO.out)
   obtain ⟨va, vc, rfl⟩ := Zac hown'
   clear hown' hgrow hat OW BZ HOW2 HQO HB5 HN HNO HBW HOL
   go_wp2
   go_roundw
   case rel => exact ⟨k + 1, _, os ++ [(Q, .slice da Q.hops.length dc)], by omega, by go_num, rfl, NW.out, N3, N4.out, by simp; omega, N2.out⟩
   case measure => simp [intOf]; omega
  ·have hkn : ¬ (k : Int) < (ps.length : Int) := by omega
   have HE := hide (show OffK (fsts ps) ds es src (fsts ps).length (ZaA os) by have h := HM.out; rw [show k = (fsts ps).length by simp [fsts]; omega] at h; exact h)
   have HBE := hide (Zno (.slice xa os.length xc) os w.heap.size wr hown hsz hol (by omega))
   have HBW := hide BW
   clear hown HM BW hol
   go_wp2_with fail
   refine HBE.out.mono ?_
   rintro e w3 ⟨y, bs, rfl, hbq, hol3, how3, b3⟩
   obtain ⟨ya, yc, rfl⟩ := Zac how3.row
   have N1 := hide (ZlR HE.out hbq)
   have N2 := hide how3
   have N3 := hide (HBW.out.trans b3)
   have N4 := hide hol3
   clear hbq how3 b3 hol3 HBE HE
   go_wp2
   go_ret
   first
    | exact ⟨_, bs, rfl, N4.out, N1.out, N2.out, N3.out⟩
    | exact ⟨_, rfl, bs, N4.out, N1.out, N2.out, N3.out⟩
def sumL {α : Type} (ls : List (Value × List α)) : Nat := (ls.map (fun x => x.2.length)).sum
def Zcs {α : Type} (ls : List (Value × List α)) : List α := (ls.map (fun x => x.2)).flatten
theorem Zij {α : Type} (ls : List (Value × List α)) : (Zcs ls).length = sumL ls := by simp [Zcs, sumL, List.length_flatten, Function.comp_def]
theorem ZeA {α : Type} {ls : List (Value × List α)} {k : Nat} {x : Value × List α} (h : ls[k]? = some x) : sumL (ls.take (k + 1)) = sumL (ls.take k) + x.2.length := by
 obtain ⟨hk, e⟩ := List.getElem?_eq_some_iff.1 h
 unfold sumL
 rw [List.take_succ_eq_append_getElem hk, e]
 simp
theorem Zg2 {α : Type} {ls : List (Value × List α)} {k : Nat} {x : Value × List α} (h : ls[k]? = some x) : Zcs (ls.take (k + 1)) = Zcs (ls.take k) ++ x.2 := by
 obtain ⟨hk, e⟩ := List.getElem?_eq_some_iff.1 h
 unfold Zcs
 rw [List.take_succ_eq_append_getElem hk, e]
 simp
theorem ZdL {α : Type} (ls : List (Value × List α)) (k : Nat) : sumL (ls.take k) <= sumL ls := by
 have : ls = ls.take k ++ ls.drop k := (List.take_append_drop k ls).symm
 have h2 : sumL ls = sumL (ls.take k) + sumL (ls.drop k) := by
  conv => lhs; rw [this]
  unfold sumL
  rw [List.map_append, List.sum_append]
 omega
theorem ZlN (n : Nat) (w : World) (hn : n <= 1000000) :
  Calls Tryz.prog 66 #[.slice none 0 0, .int .i64 (n : Int)] w fun e w' => ∃ x, e = .returned x /\ w'.ownsRow w.heap.size 46 3 x 0 [] /\ Below w.heap.size w w' := by
 by_cases h0 : n = 0
 ·subst h0
  have h := Any8.slices_Grow_room Tryz.growW none 0 0 0 w (Nat.le_refl _) (by omega) (by omega) (by omega)
  change Calls Tryz.prog 66 _ _ _ at h
  exact h.mono fun e w' ⟨h1, h2⟩ => ⟨_, h1, by rw [h2]; exact World.ownsRow_nil _ _ _ _, by rw [h2]; exact Below.refl _ _⟩
 ·have hi := Tryz.infoWay
  cases hf : Tryz.prog.info? 46 with
  | none => rw [hf] at hi; cases hi
  | some i0 =>
   rw [hf] at hi
   simp only [Option.map_some, Option.some.injEq, Prod.mk.injEq] at hi
   obtain ⟨hz, hs, hb⟩ := hi
   have h := Any8.slices_Grow_grow Tryz.growW i0 (.agg (wayC Zbc (.slice none 0 0))) hf hz (by rw [hs]; omega) none 0 0 n [] w (by omega) (by omega) (by rw [hb]; omega) (by omega) (by simp) (fun _ => rfl) (fun a ha => by cases ha)
   change Calls Tryz.prog 66 _ _ _ at h
   refine h.mono fun e w' ⟨h1, h2⟩ => ⟨_, h1, ?_, ?_⟩
   ·rw [h2]
    have hg := grownCap_ge w (0 + n) 0 46
    have hm := grownCap_le_maxLen w (0 + n) 0 46 (by unfold maxLen; omega)
    exact World.ownsRow_made (base := w.heap.size) (e := 46) (size := 3) w.drew _ _ (Nat.le_refl _) hm (by
     rw [Array.size_append, Array.size_append, size_zeroCells, size_zeroCells]
     rw [show (Value.cells (.agg (wayC Zbc (.slice none 0 0)))).size = 3 from rfl]
     simp only [List.size_toArray, List.length_nil]
     change 0 + (0 + n - 0) * 3 + (grownCap w (0 + n) 0 46 - (0 + n)) * 3 = grownCap w (0 + n) 0 46 * 3
     omega)
   ·rw [h2]
    exact (Below.refl w.heap.size w).drew.alloc (Nat.le_refl _) _
theorem Zi8 (ls : List (Value × List WP)) (b : Nat) (w : World) (hb : ∀ j x, ls[j]? = some x -> w.cell? ⟨b, j, none⟩ = some x.1) (hrows : ∀ x ∈ ls, ∃ base, w.ownsRow base 46 3 x.1 x.2.length (flat encW x.2)) (hone : ∀ x ∈ ls, ∀ p ∈ x.2, ∀ u ∈ encW p, u.oneCell' = true) (hn : sumL ls <= 1000000) (hbl : b < w.heap.size) (hl : ls.length <= 10) :
  Calls Tryz.prog 30 #[.slice (some ⟨b, 0, none⟩) ls.length ls.length] w fun e w' => ∃ x, e = .returned x /\ w'.ownsRow w.heap.size 46 3 x (Zcs ls).length (flat encW (Zcs ls)) /\ Below w.heap.size w w' := by
 have HC := hide hb
 have HR := hide hrows
 have HO := hide hone
 have HG := hide (fun W => ZlN (sumL ls) W hn)
 clear hb hrows hone
 go_enter Tryz.func30, Tryz.ntmps30
 go_wp2
 go_loopw [11, 3] (fun i s wr => ∃ (k : Nat), k <= ls.length /\ i = .int .i64 (k : Int) /\ s = .int .i64 ((sumL (ls.take k) : Nat) : Int) /\ Below w.heap.size w wr) (fun i _ _ => ls.length - (intOf i).toNat)
 case atStart => exact ⟨0, by omega, rfl, rfl, Below.refl _ _⟩
 case round =>
  obtain ⟨k, hk, rfl, rfl, hnx⟩ := hrel
  have hle := ZdL ls k
  by_cases hlt : k < ls.length
  ·obtain ⟨x, hx⟩ : ∃ x, ls[k]? = some x := ⟨ls[k], List.getElem?_eq_getElem hlt⟩
   have c0 := HC.out k x hx
   rw [<- hnx.cell (p := ⟨b, k, none⟩) hbl] at c0
   obtain ⟨base, hrow⟩ := HR.out x (List.mem_of_getElem? hx)
   obtain ⟨xa, xc, hxe⟩ := Zac hrow
   rw [hxe] at c0
   have hst := ZeA hx
   have hle2 := ZdL ls (k + 1)
   have hki : (0 : Int) <= (k : Int) := by omega
   have hkj : (k : Int) < (ls.length : Int) := by omega
   have hneg : ¬ ((sumL (ls.take k) : Int) + (x.2.length : Int) < 0) := by omega
   have hb2 : (sumL (ls.take k) : Int) + (x.2.length : Int) <= 1000000 := by omega
   have HST := hide hst
   have HN := hide hnx
   clear hx hrow hxe hnx hst hle hle2
   go_wp2
   go_roundw
   case rel => exact ⟨k + 1, by omega, by go_num, by rw [HST.out]; simp, HN.out⟩
   case measure => simp [intOf]; omega
  ·have hkn : ¬ (k : Int) < (ls.length : Int) := by omega
   have hke : ls.take k = ls := List.take_of_length_le (by omega)
   rw [hke]
   have HN := hide hnx
   clear hke hle hnx
   go_wp2_with fail
   refine (HG.out _).mono ?_
   rintro e w1 ⟨x0, rfl, ho1, b1⟩
   obtain ⟨xa, xc, rfl⟩ := Zac ho1
   have hb1 := b1.size
   have hws := HN.out.size
   have HB1 := hide (HN.out.trans (b1.mono hws))
   have HO1 := hide (Zag ho1 hws)
   clear ho1 b1 HN HG
   rename World => wq
   go_wp2
   go_loopw [27, 6] (fun i o wr => ∃ (k : Nat) (x : Value), k <= ls.length /\ i = .int .i64 (k : Int) /\ o = x /\ wr.ownsRow w.heap.size 46 3 x (Zcs (ls.take k)).length (flat encW (Zcs (ls.take k))) /\ Below w.heap.size w wr) (fun i _ _ => ls.length - (intOf i).toNat)
   case atStart => exact ⟨0, _, by omega, rfl, rfl, HO1.out, HB1.out⟩
   case round =>
    obtain ⟨j, y, hj, rfl, rfl, hown, hnx⟩ := hrel
    clear HO1 HB1
    obtain ⟨ya, yc, rfl⟩ := Zac hown
    have hle := ZdL ls j
    have hsz := hnx.size
    by_cases hlt : j < ls.length
    ·obtain ⟨x, hx⟩ : ∃ x, ls[j]? = some x := ⟨ls[j], List.getElem?_eq_getElem hlt⟩
     have c0 := HC.out j x hx
     rw [<- hnx.cell (p := ⟨b, j, none⟩) hbl] at c0
     obtain ⟨base, hrow⟩ := HR.out x (List.mem_of_getElem? hx)
     have hrow2 := Zae hrow hnx (Nat.le_refl _)
     obtain ⟨za, zc, hxe⟩ := Zac hrow
     rw [hxe] at c0 hrow2
     have hst := ZeA hx
     have hle2 := ZdL ls (j + 1)
     have hjt := Zg2 hx
     have hjl := Zij (ls.take j)
     have hki : (0 : Int) <= (j : Int) := by omega
     have hkj : (j : Int) < (ls.length : Int) := by omega
     have HX := hide hrow2
     have HW := hide hown
     have HN := hide hnx
     have HJT := hide hjt
     have HX1 := hide (HO.out x (List.mem_of_getElem? hx))
     have hbd : (Zcs (ls.take j)).length + x.2.length <= 1000000000 := by omega
     clear hx hrow hrow2 hxe hnx hown hst hjt hle hle2 hjl
     go_wp2_with (first
      | (at_builtin; refine Zeh (fun l => Zbn Za9 l) (by omega) (by omega) _ rfl _ _ 39 rfl w.heap.size 46 Tryz.underlying39 (.agg (wayC Zbc (.slice none 0 0))) rfl Tryz.infoWay _ (Zcs (ls.take j)) rfl HW.out base _ x.2 HX1.out rfl HX.out (by omega) (by omega) ?_))
     intro v' w4 hown' hgrow
     have N1 := hide (show w4.ownsRow w.heap.size 46 3 v' (Zcs (ls.take (j + 1))).length (flat encW (Zcs (ls.take (j + 1)))) by rw [HJT.out, List.length_append]; exact hown')
     have N2 := hide (HN.out.grown hgrow (by omega) (fun k hk => (HW.out.lt k hk).1))
     obtain ⟨va, vc, rfl⟩ := Zac hown'
     clear hown' hgrow HX HW HN HJT HX1
     go_wp2
     go_roundw
     case rel => exact ⟨j + 1, _, by omega, by go_num, rfl, N1.out, N2.out⟩
     case measure => simp [intOf]; omega
    ·have hkn2 : ¬ (j : Int) < (ls.length : Int) := by omega
     have hke : ls.take j = ls := List.take_of_length_le (by omega)
     rw [hke] at hown |-
     have HW := hide hown
     have HN := hide hnx
     clear hown hnx hke hle
     go_wp2
     go_ret
     exact ⟨_, rfl, HW.out, HN.out⟩
theorem Zml (n : Nat) (w : World) (hn : n <= 1000000) :
  Calls Tryz.prog 67 #[.slice none 0 0, .int .i64 (n : Int)] w fun e w' => ∃ x, e = .returned x /\ w'.ownsRow w.heap.size 44 6 x 0 [] /\ Below w.heap.size w w' := by
 by_cases h0 : n = 0
 ·subst h0
  have h := Any8.slices_Grow_room Tryz.growQ none 0 0 0 w (Nat.le_refl _) (by omega) (by omega) (by omega)
  change Calls Tryz.prog 67 _ _ _ at h
  exact h.mono fun e w' ⟨h1, h2⟩ => ⟨_, h1, by rw [h2]; exact World.ownsRow_nil _ _ _ _, by rw [h2]; exact Below.refl _ _⟩
 ·have hi := Tryz.infoRoute
  cases hf : Tryz.prog.info? 44 with
  | none => rw [hf] at hi; cases hi
  | some i0 =>
   rw [hf] at hi
   simp only [Option.map_some, Option.some.injEq, Prod.mk.injEq] at hi
   obtain ⟨hz, hs, hb⟩ := hi
   have h := Any8.slices_Grow_grow Tryz.growQ i0 (.agg (rtC Zbp (.slice none 0 0))) hf hz (by rw [hs]; omega) none 0 0 n [] w (by omega) (by omega) (by rw [hb]; omega) (by omega) (by simp) (fun _ => rfl) (fun a ha => by cases ha)
   change Calls Tryz.prog 67 _ _ _ at h
   refine h.mono fun e w' ⟨h1, h2⟩ => ⟨_, h1, ?_, ?_⟩
   ·rw [h2]
    have hg := grownCap_ge w (0 + n) 0 44
    have hm := grownCap_le_maxLen w (0 + n) 0 44 (by unfold maxLen; omega)
    exact World.ownsRow_made (base := w.heap.size) (e := 44) (size := 6) w.drew _ _ (Nat.le_refl _) hm (by
     rw [Array.size_append, Array.size_append, size_zeroCells, size_zeroCells]
     rw [show (Value.cells (.agg (rtC Zbp (.slice none 0 0)))).size = 6 from rfl]
     simp only [List.size_toArray, List.length_nil]
     change 0 + (0 + n - 0) * 6 + (grownCap w (0 + n) 0 44 - (0 + n)) * 6 = grownCap w (0 + n) 0 44 * 6
     omega)
   ·rw [h2]
    exact (Below.refl w.heap.size w).drew.alloc (Nat.le_refl _) _
theorem Zji (ls : List (Value × List QP)) (b : Nat) (w : World) (hb : ∀ j x, ls[j]? = some x -> w.cell? ⟨b, j, none⟩ = some x.1) (hrows : ∀ x ∈ ls, ∃ base, w.ownsRow base 44 6 x.1 x.2.length (flat encQ x.2)) (hone : ∀ x ∈ ls, ∀ p ∈ x.2, ∀ u ∈ encQ p, u.oneCell' = true) (hn : sumL ls <= 1000000) (hbl : b < w.heap.size) (hl : ls.length <= 10) :
  Calls Tryz.prog 31 #[.slice (some ⟨b, 0, none⟩) ls.length ls.length] w fun e w' => ∃ x, e = .returned x /\ w'.ownsRow w.heap.size 44 6 x (Zcs ls).length (flat encQ (Zcs ls)) /\ Below w.heap.size w w' := by
 have HC := hide hb
 have HR := hide hrows
 have HO := hide hone
 have HG := hide (fun W => Zml (sumL ls) W hn)
 clear hb hrows hone
 go_enter Tryz.func31, Tryz.ntmps31
 go_wp2
 go_loopw [11, 3] (fun i s wr => ∃ (k : Nat), k <= ls.length /\ i = .int .i64 (k : Int) /\ s = .int .i64 ((sumL (ls.take k) : Nat) : Int) /\ Below w.heap.size w wr) (fun i _ _ => ls.length - (intOf i).toNat)
 case atStart => exact ⟨0, by omega, rfl, rfl, Below.refl _ _⟩
 case round =>
  obtain ⟨k, hk, rfl, rfl, hnx⟩ := hrel
  have hle := ZdL ls k
  by_cases hlt : k < ls.length
  ·obtain ⟨x, hx⟩ : ∃ x, ls[k]? = some x := ⟨ls[k], List.getElem?_eq_getElem hlt⟩
   have c0 := HC.out k x hx
   rw [<- hnx.cell (p := ⟨b, k, none⟩) hbl] at c0
   obtain ⟨base, hrow⟩ := HR.out x (List.mem_of_getElem? hx)
   obtain ⟨xa, xc, hxe⟩ := Zac hrow
   rw [hxe] at c0
   have hst := ZeA hx
   have hle2 := ZdL ls (k + 1)
   have hki : (0 : Int) <= (k : Int) := by omega
   have hkj : (k : Int) < (ls.length : Int) := by omega
   have hneg : ¬ ((sumL (ls.take k) : Int) + (x.2.length : Int) < 0) := by omega
   have hb2 : (sumL (ls.take k) : Int) + (x.2.length : Int) <= 1000000 := by omega
   have HST := hide hst
   have HN := hide hnx
   clear hx hrow hxe hnx hst hle hle2
   go_wp2
   go_roundw
   case rel => exact ⟨k + 1, by omega, by go_num, by rw [HST.out]; simp, HN.out⟩
   case measure => simp [intOf]; omega
  ·have hkn : ¬ (k : Int) < (ls.length : Int) := by omega
   have hke : ls.take k = ls := List.take_of_length_le (by omega)
   rw [hke]
   have HN := hide hnx
   clear hke hle hnx
   go_wp2_with fail
   refine (HG.out _).mono ?_
   rintro e w1 ⟨x0, rfl, ho1, b1⟩
   obtain ⟨xa, xc, rfl⟩ := Zac ho1
   have hb1 := b1.size
   have hws := HN.out.size
   have HB1 := hide (HN.out.trans (b1.mono hws))
   have HO1 := hide (Zag ho1 hws)
   clear ho1 b1 HN HG
   rename World => wq
   go_wp2
   go_loopw [27, 6] (fun i o wr => ∃ (k : Nat) (x : Value), k <= ls.length /\ i = .int .i64 (k : Int) /\ o = x /\ wr.ownsRow w.heap.size 44 6 x (Zcs (ls.take k)).length (flat encQ (Zcs (ls.take k))) /\ Below w.heap.size w wr) (fun i _ _ => ls.length - (intOf i).toNat)
   case atStart => exact ⟨0, _, by omega, rfl, rfl, HO1.out, HB1.out⟩
   case round =>
    obtain ⟨j, y, hj, rfl, rfl, hown, hnx⟩ := hrel
    clear HO1 HB1
    obtain ⟨ya, yc, rfl⟩ := Zac hown
    have hle := ZdL ls j
    have hsz := hnx.size
    by_cases hlt : j < ls.length
    ·obtain ⟨x, hx⟩ : ∃ x, ls[j]? = some x := ⟨ls[j], List.getElem?_eq_getElem hlt⟩
     have c0 := HC.out j x hx
     rw [<- hnx.cell (p := ⟨b, j, none⟩) hbl] at c0
     obtain ⟨base, hrow⟩ := HR.out x (List.mem_of_getElem? hx)
     have hrow2 := Zae hrow hnx (Nat.le_refl _)
     obtain ⟨za, zc, hxe⟩ := Zac hrow
     rw [hxe] at c0 hrow2
     have hst := ZeA hx
     have hle2 := ZdL ls (j + 1)
     have hjt := Zg2 hx
     have hjl := Zij (ls.take j)
     have hki : (0 : Int) <= (j : Int) := by omega
     have hkj : (j : Int) < (ls.length : Int) := by omega
     have HX := hide hrow2
     have HW := hide hown
     have HN := hide hnx
     have HJT := hide hjt
     have HX1 := hide (HO.out x (List.mem_of_getElem? hx))
     have hbd : (Zcs (ls.take j)).length + x.2.length <= 1000000000 := by omega
     clear hx hrow hrow2 hxe hnx hown hst hjt hle hle2 hjl
     go_wp2_with (first
      | (at_builtin; refine Zeh (fun l => Zbn ZbH l) (by omega) (by omega) _ rfl _ _ 37 rfl w.heap.size 44 Tryz.underlying37 (.agg (rtC Zbp (.slice none 0 0))) rfl Tryz.infoRoute _ (Zcs (ls.take j)) rfl HW.out base _ x.2 HX1.out rfl HX.out (by omega) (by omega) ?_))
     intro v' w4 hown' hgrow
     have N1 := hide (show w4.ownsRow w.heap.size 44 6 v' (Zcs (ls.take (j + 1))).length (flat encQ (Zcs (ls.take (j + 1)))) by rw [HJT.out, List.length_append]; exact hown')
     have N2 := hide (HN.out.grown hgrow (by omega) (fun k hk => (HW.out.lt k hk).1))
     obtain ⟨va, vc, rfl⟩ := Zac hown'
     clear hown' hgrow HX HW HN HJT HX1
     go_wp2
     go_roundw
     case rel => exact ⟨j + 1, _, by omega, by go_num, rfl, N1.out, N2.out⟩
     case measure => simp [intOf]; omega
    ·have hkn2 : ¬ (j : Int) < (ls.length : Int) := by omega
     have hke : ls.take j = ls := List.take_of_length_le (by omega)
     rw [hke] at hown |-
     have HW := hide hown
     have HN := hide hnx
     clear hown hnx hke hle
     go_wp2
     go_ret
     exact ⟨_, rfl, HW.out, HN.out⟩
end Go.Proofs.YtakiifededfjlaaGreat
namespace Go.Proofs.YtakiifededfjlaaGreat

def par (i : Nat) : Nat := (i - 1) / 2

def Zb6 (q : Nat -> Nat) (i j x : Nat) : Nat := if x = i then q j else if x = j then q i else q x

def ZcT (c : Nat -> Int) (q : Nat -> Nat) (n : Nat) : Prop := ∀ i, 0 < i -> i < n -> c (q (par i)) <= c (q i)

structure UpInv (c : Nat -> Int) (q : Nat -> Nat) (n j : Nat) : Prop where
 all : ∀ i, 0 < i -> i < n -> i ≠ j -> c (q (par i)) <= c (q i)
 kids : ∀ i, 0 < i -> i < n -> par i = j -> 0 < j -> c (q (par j)) <= c (q i)

structure DownInv (c : Nat -> Int) (q : Nat -> Nat) (n i : Nat) : Prop where
 all : ∀ k, 0 < k -> k < n -> par k ≠ i -> c (q (par k)) <= c (q k)
 kids : ∀ k, 0 < k -> k < n -> par k = i -> 0 < i -> c (q (par i)) <= c (q k)

theorem Zdf {i : Nat} (h : 0 < i) : par i < i := by unfold par; omega

theorem ZlE {c : Nat -> Int} {q : Nat -> Nat} {n j : Nat} (h : UpInv c q n j) (hs : j = 0 \/ ¬ c (q j) < c (q (par j))) : ZcT c q n := by
 intro i h0 hn
 by_cases e : i = j
 ·subst e
  rcases hs with hs | hs
  ·omega
  ·omega
 ·exact h.all i h0 hn e

theorem Zn6 {c : Nat -> Int} {q : Nat -> Nat} {n j : Nat} (h : UpInv c q n j) (hj : 0 < j) (hn : j < n) (hlt : c (q j) < c (q (par j))) : UpInv c (Zb6 q (par j) j) n (par j) := by
 have hp := Zdf hj
 obtain ⟨p, hpe⟩ : ∃ p, p = par j := ⟨_, rfl⟩
 rw [<- hpe] at hlt hp |-
 constructor
 ·intro i h0 hi hne
  have hpi := Zdf h0
  unfold Zb6
  by_cases e1 : i = j
  ·subst e1
   rw [if_neg (by omega : ¬ i = p), if_pos rfl, if_pos hpe.symm]
   omega
  ·rw [if_neg hne, if_neg e1]
   have h1 := h.all i h0 hi e1
   by_cases e2 : par i = p
   ·rw [if_pos e2]
    rw [e2] at h1
    omega
   ·rw [if_neg e2]
    by_cases e3 : par i = j
    ·rw [if_pos e3]
     have := h.kids i h0 hi e3 hj
     rw [<- hpe] at this
     exact this
    ·rw [if_neg e3]; exact h1
 ·intro i h0 hi hpar hp0
  have hpi := Zdf h0
  have hpp := Zdf hp0
  have hA := h.all p hp0 (by omega) (by omega)
  unfold Zb6
  rw [if_neg (by omega : ¬ par p = p), if_neg (by omega : ¬ par p = j)]
  by_cases e1 : i = j
  ·rw [if_neg (by omega : ¬ i = p), if_pos e1]; exact hA
  ·rw [if_neg (by omega : ¬ i = p), if_neg e1]
   have := h.all i h0 hi e1
   rw [hpar] at this
   omega

theorem ZeH {c : Nat -> Int} {q : Nat -> Nat} {n i : Nat} (h : DownInv c q n i) (hs : ∀ k, 0 < k -> k < n -> par k = i -> c (q i) <= c (q k)) : ZcT c q n := by
 intro k h0 hn
 by_cases e : par k = i
 ·rw [e]; exact hs k h0 hn e
 ·exact h.all k h0 hn e

theorem ZjT {k i : Nat} (h0 : 0 < k) (h : par k = i) : k = 2 * i + 1 \/ k = 2 * i + 2 := by unfold par at h; omega

theorem ZgC {c : Nat -> Int} {q : Nat -> Nat} {n i j : Nat} (h : DownInv c q n i) (hj : 0 < j) (hn : j < n) (hp : par j = i) (hlt : c (q j) < c (q i)) (hmin : ∀ k, 0 < k -> k < n -> par k = i -> c (q j) <= c (q k)) : DownInv c (Zb6 q i j) n j := by
 have hij := Zdf hj
 rw [hp] at hij
 constructor
 ·intro k h0 hk hne
  have hpk := Zdf h0
  unfold Zb6
  by_cases e1 : k = i
  ·subst e1
   rw [if_pos rfl, if_neg (by omega : ¬ par k = k), if_neg hne]
   exact h.kids j hj hn hp h0
  ·rw [if_neg e1]
   by_cases e2 : k = j
   ·subst e2
    rw [if_pos rfl, if_pos hp]
    omega
   ·rw [if_neg e2]
    by_cases e3 : par k = i
    ·rw [if_pos e3]; exact hmin k h0 hk e3
    ·rw [if_neg e3, if_neg hne]; exact h.all k h0 hk e3
 ·intro k h0 hk hpk hj0
  have hpk2 := Zdf h0
  unfold Zb6
  rw [hp, if_pos rfl, if_neg (by omega : ¬ k = i), if_neg (by omega : ¬ k = j)]
  have := h.all k h0 hk (by omega)
  rw [hpk] at this
  exact this

theorem ZiN {c : Nat -> Int} {q : Nat -> Nat} {n : Nat} (h : ZcT c q n) : ∀ (m i : Nat), i <= m -> i < n -> c (q 0) <= c (q i)
 | 0, i, hm, _ => by rw [show i = 0 by omega]; exact Int.le_refl _
 | m + 1, i, hm, hn => by
  by_cases e : i = 0
  ·rw [e]; exact Int.le_refl _
  ·have h1 := h i (by omega) hn
   have h2 := Zdf (i := i) (by omega)
   have h3 := ZiN h m (par i) (by omega) (by omega)
   omega

structure Shuf (q q' : Nat -> Nat) (n : Nat) : Prop where
 into : ∀ i, i < n -> ∃ j, j < n /\ q' i = q j
 onto : ∀ j, j < n -> ∃ i, i < n /\ q' i = q j
 inj : (∀ i j, i < n -> j < n -> q i = q j -> i = j) -> (∀ i j, i < n -> j < n -> q' i = q' j -> i = j)
 rest : ∀ x, n <= x -> q' x = q x

theorem Shuf.refl (q : Nat -> Nat) (n : Nat) : Shuf q q n := ⟨fun i h => ⟨i, h, rfl⟩, fun j h => ⟨j, h, rfl⟩, fun h => h, fun _ _ => rfl⟩

theorem Shuf.trans {q q' q'' : Nat -> Nat} {n : Nat} (a : Shuf q q' n) (b : Shuf q' q'' n) : Shuf q q'' n := by
 refine ⟨fun i h => ?_, fun j h => ?_, fun h => b.inj (a.inj h), fun x hx => (b.rest x hx).trans (a.rest x hx)⟩
 ·obtain ⟨j, hj, e⟩ := b.into i h
  obtain ⟨k, hk, e2⟩ := a.into j hj
  exact ⟨k, hk, e.trans e2⟩
 ·obtain ⟨i, hi, e⟩ := a.onto j h
  obtain ⟨k, hk, e2⟩ := b.onto i hi
  exact ⟨k, hk, e2.trans e⟩

theorem ZbS (q : Nat -> Nat) (i j x : Nat) : (x = i /\ Zb6 q i j x = q j) \/ (x = j /\ Zb6 q i j x = q i) \/ (x ≠ i /\ x ≠ j /\ Zb6 q i j x = q x) := by
 unfold Zb6
 by_cases e : x = i
 ·exact .inl ⟨e, if_pos e⟩
 ·rw [if_neg e]
  by_cases e2 : x = j
  ·exact .inr (.inl ⟨e2, if_pos e2⟩)
  ·exact .inr (.inr ⟨e, e2, if_neg e2⟩)

theorem Shuf.swap (q : Nat -> Nat) {n i j : Nat} (hi : i < n) (hj : j < n) : Shuf q (Zb6 q i j) n := by
 refine ⟨fun x hx => ?_, fun x hx => ?_, fun h x y hx hy e => ?_, fun x hx => ?_⟩
 ·rcases ZbS q i j x with ⟨_, e⟩ | ⟨_, e⟩ | ⟨_, _, e⟩
  ·exact ⟨j, hj, e⟩
  ·exact ⟨i, hi, e⟩
  ·exact ⟨x, hx, e⟩
 ·by_cases e1 : x = i
  ·refine ⟨j, hj, ?_⟩
   subst e1
   rcases ZbS q x j j with ⟨e2, e⟩ | ⟨_, e⟩ | ⟨_, e2, _⟩
   ·rw [e, e2]
   ·exact e
   ·exact absurd rfl e2
  ·by_cases e3 : x = j
   ·refine ⟨i, hi, ?_⟩
    subst e3
    rcases ZbS q i x i with ⟨_, e⟩ | ⟨e2, e⟩ | ⟨e2, _, _⟩
    ·exact e
    ·rw [e, e2]
    ·exact absurd rfl e2
   ·refine ⟨x, hx, ?_⟩
    unfold Zb6
    rw [if_neg e1, if_neg e3]
 ·rcases ZbS q i j x with ⟨a1, a2⟩ | ⟨a1, a2⟩ | ⟨a1, a3, a2⟩ <;> rcases ZbS q i j y with ⟨b1, b2⟩ | ⟨b1, b2⟩ | ⟨b1, b3, b2⟩ <;> rw [a2, b2] at e
  ·omega
  ·have := h _ _ hj hi e; omega
  ·have := h _ _ hj hy e; omega
  ·have := h _ _ hi hj e; omega
  ·omega
  ·have := h _ _ hi hy e; omega
  ·have := h _ _ hx hj e; omega
  ·have := h _ _ hx hi e; omega
  ·exact h _ _ hx hy e
 ·rcases ZbS q i j x with ⟨a1, _⟩ | ⟨a1, _⟩ | ⟨_, _, e⟩
  ·omega
  ·omega
  ·exact e

theorem Shuf.more {q q' : Nat -> Nat} {n m : Nat} (a : Shuf q q' n) (h : n <= m) : Shuf q q' m := by
 refine ⟨fun i hi => ?_, fun j hj => ?_, fun hinj x y hx hy e => ?_, fun x hx => a.rest x (by omega)⟩
 ·by_cases e : i < n
  ·obtain ⟨j, hj, e2⟩ := a.into i e; exact ⟨j, by omega, e2⟩
  ·exact ⟨i, hi, a.rest i (by omega)⟩
 ·by_cases e : j < n
  ·obtain ⟨i, hi, e2⟩ := a.onto j e; exact ⟨i, by omega, e2⟩
  ·exact ⟨j, hj, a.rest j (by omega)⟩
 ·by_cases e1 : x < n <;> by_cases e2 : y < n
  ·exact a.inj (fun i j hi hj => hinj i j (by omega) (by omega)) x y e1 e2 e
  ·obtain ⟨j, hj, e3⟩ := a.into x e1
   rw [e3, a.rest y (by omega)] at e
   have := hinj j y (by omega) hy e; omega
  ·obtain ⟨j, hj, e3⟩ := a.into y e2
   rw [e3, a.rest x (by omega)] at e
   have := hinj x j hx (by omega) e; omega
  ·rw [a.rest x (by omega), a.rest y (by omega)] at e
   exact hinj x y hx hy e

theorem Zoi {c : Nat -> Int} {q : Nat -> Nat} {n k : Nat} (h : ZcT c q n) : UpInv c (fun x => if x = n then k else q x) (n + 1) n := by
 constructor
 ·intro i h0 hi hne
  have := Zdf h0
  rw [if_neg (by omega : ¬ par i = n), if_neg hne]
  exact h i h0 (by omega)
 ·intro i h0 hi hp _
  have := Zdf h0
  omega

theorem Zm5 {c : Nat -> Int} {q : Nat -> Nat} {n : Nat} (h : ZcT c q (n + 1)) : DownInv c (Zb6 q 0 n) n 0 := by
 constructor
 ·intro k h0 hk hne
  have := Zdf h0
  unfold Zb6
  rw [if_neg hne, if_neg (by omega : ¬ par k = n), if_neg (by omega : ¬ k = 0), if_neg (by omega : ¬ k = n)]
  exact h k h0 (by omega)
 ·intro k _ _ _ h0
  omega
end Go.Proofs.YtakiifededfjlaaGreat
namespace Go.Proofs.YtakiifededfjlaaGreat
open Go.RowKit
set_option linter.unusedSimpArgs false
set_option linter.unusedVariables false
set_option maxRecDepth 100000
set_option maxHeartbeats 8000000
def ptrV (k : Nat) : Value := .pointer (some ⟨k, 0, none⟩)
def ptrs (q : Nat -> Nat) (n : Nat) : List Value := (List.range n).map (fun i => ptrV (q i))
theorem Zem {q : Nat -> Nat} {n i : Nat} (h : i < n) : (ptrs q n)[i]? = some (ptrV (q i)) := by simp [ptrs, h]
theorem ZfN (q : Nat -> Nat) (n : Nat) : (ptrs q n).length = n := by simp [ptrs]
structure HQ (W : World) (lo : Nat) (u : Value) (n : Nat) (q : Nat -> Nat) (wd : Nat -> WayD) (wv : Nat -> Value) : Prop where
 row : W.ownsRow lo 115 1 u n (ptrs q n)
 way : ∀ i, i < n -> W.heap[q i]? = some (.cells (wayC (wd (q i)) (wv (q i))) 46)
 sl : ∀ i, i < n -> ∃ a l c, wv (q i) = .slice a l c
theorem HQ.cell {W : World} {lo n : Nat} {u : Value} {q : Nat -> Nat} {wd : Nat -> WayD} {wv : Nat -> Value} (h : HQ W lo u n q wd wv) {i : Nat} (hi : i < n) : ∃ g cap, u = .slice (some ⟨g, 0, none⟩) n cap /\ W.cell? ⟨g, i, none⟩ = some (ptrV (q i)) /\ g < W.heap.size := by
 rcases h.row.2 with ⟨_, e⟩ | ⟨g, cap, cur, hv, _⟩
 ·omega
 ·refine ⟨g, cap, hv, ?_, (h.row.lt g (by rw [hv]; rfl)).2⟩
  have := World.ownsRow.cellAt (by rw [<- hv]; exact h.row) i (by omega)
  rw [this, Zem hi]
theorem HQ.below {W W' : World} {lo n : Nat} {u : Value} {q : Nat -> Nat} {wd : Nat -> WayD} {wv : Nat -> Value} (h : HQ W lo u n q wd wv) (hb : Below W.heap.size W W') : HQ W' lo u n q wd wv :=
 ⟨Zae h.row hb (Nat.le_refl _), fun i hi => (hb.block _ (Zab (h.way i hi))).trans (h.way i hi), h.sl⟩
theorem ZeZ (W : World) (lo n : Nat) (u : Value) (q : Nat -> Nat) (wd : Nat -> WayD) (wv : Nat -> Value) (i j : Nat) (h : HQ W lo u n q wd wv) (hi : i < n) (hj : j < n) :
  Calls Tryz.prog 182 #[u, .int .i64 (i : Int), .int .i64 (j : Int)] W fun e W' => e = .returned (.bool (decide ((wd (q i)).cost < (wd (q j)).cost))) /\ Below W.heap.size W W' := by
 obtain ⟨g, cap, rfl, ci, hg⟩ := h.cell hi
 obtain ⟨g2, cap2, e2, cj, _⟩ := h.cell hj
 cases e2
 obtain ⟨ai, li, ci2, ei⟩ := h.sl i hi
 obtain ⟨aj, lj, cj2, ej⟩ := h.sl j hj
 have wi := h.way i hi
 have wj := h.way j hj
 rw [ei] at wi
 rw [ej] at wj
 obtain ⟨x, hx⟩ : ∃ x, x = wd (q i) := ⟨_, rfl⟩
 obtain ⟨y, hy⟩ : ∃ y, y = wd (q j) := ⟨_, rfl⟩
 obtain ⟨p, hp⟩ : ∃ p, p = q i := ⟨_, rfl⟩
 obtain ⟨r, hr⟩ : ∃ r, r = q j := ⟨_, rfl⟩
 rw [<- hx] at wi |-
 rw [<- hy] at wj |-
 rw [<- hp] at ci wi
 rw [<- hr] at cj wj
 unfold ptrV at ci cj
 have a0 := Zaa wi 0
 have a1 := Zaa wi 1
 have a2 := Zaa wi 2
 have b0 := Zaa wj 0
 have b1 := Zaa wj 1
 have b2 := Zaa wj 2
 simp [wayC] at a0 a1 a2 b0 b1 b2
 have hBt := hide (fun W => Zb9 (.slice ai li ci2) (.slice aj lj cj2) x y W)
 unfold wayC Zbb at hBt
 have h1 : (0 : Int) <= (i : Int) := by omega
 have h2 : (i : Int) < (n : Int) := by omega
 have h3 : (0 : Int) <= (j : Int) := by omega
 have h4 : (j : Int) < (n : Int) := by omega
 have lp := Zab wi
 have lr := Zab wj
 clear h hx hy hp hr wi wj ei ej
 go_enter Tryz.func182, Tryz.ntmps182
 go_wp2
 go_region_held3 (fun V => V.cell? ⟨g, i, none⟩ = some (.pointer (some ⟨p, 0, none⟩)) /\ V.cell? ⟨g, j, none⟩ = some (.pointer (some ⟨r, 0, none⟩)) /\ V.cell? ⟨p, 0, none⟩ = some (.int .i64 x.to) /\ V.cell? ⟨p, 1, none⟩ = some (.int .i64 x.cost) /\ V.cell? ⟨p, 2, none⟩ = some (.slice ai li ci2) /\ V.cell? ⟨r, 0, none⟩ = some (.int .i64 y.to) /\ V.cell? ⟨r, 1, none⟩ = some (.int .i64 y.cost) /\ V.cell? ⟨r, 2, none⟩ = some (.slice aj lj cj2)) (first | (refine ⟨?_, ?_, ?_, ?_, ?_, ?_, ?_, ?_⟩ <;> (refine Eq.trans (Below.cell (B := W.heap.size) (w := W.drew) hbb ?_) ?_ <;> assumption)) | go_keep) (first | (go_at_call 99; refine (hBt.out _).mono ?_; rintro e w2 ⟨rfl, hbb⟩))
 go_wp2
 go_ret
 exact ⟨rfl, ((Below.refl W.heap.size W).drew).trans hbb⟩
theorem ZhS (W : World) (a : Option Addr) (n cap : Nat) : Calls Tryz.prog 101 #[.slice a n cap] W fun e W' => e = .returned (.int .i64 (n : Int)) /\ W = W' := by
 go_enter Tryz.func101, Tryz.ntmps101
 go_wp2
 go_ret
 exact ⟨rfl, rfl⟩
theorem ZhM {W : World} {lo n g cap i : Nat} {e : TypeId} {q : Nat -> Nat} (h : W.ownsRow lo e 1 (.slice (some ⟨g, 0, none⟩) n cap) n (ptrs q n)) (hi : i < n) (k : Nat) : (W.setCell ⟨g, i, none⟩ (ptrV k)).ownsRow lo e 1 (.slice (some ⟨g, 0, none⟩) n cap) n (ptrs (fun x => if x = i then k else q x) n) := by
 rcases h.2 with ⟨e1, _⟩ | ⟨g', cap', cur, hv, hg, hh, hnc, hcm, hcs, htk⟩
 ·cases e1
 ·cases hv
  refine ⟨by rw [ZfN]; omega, .inr ⟨g, cap, cur.setIfInBounds i (ptrV k), rfl, hg, heap_setCell_same W g i _ _ _ hh, hnc, hcm, by simpa using hcs, ?_⟩⟩
  have e2 : (cur.setIfInBounds i (ptrV k)).toList = cur.toList.set i (ptrV k) := by simp
  rw [e2, List.take_set]
  have e3 : cur.toList.take (n * 1) = ptrs q n := htk
  rw [Nat.mul_one] at e3 |-
  rw [e3]
  apply List.ext_getElem?
  intro x
  rw [List.getElem?_set]
  by_cases hx : x < n
  ·rw [Zem hx]
   by_cases e4 : i = x
   ·subst e4
    rw [if_pos rfl, if_pos (by rw [ZfN]; exact hi), Zem hi, if_pos rfl]
   ·rw [if_neg e4, Zem hx, if_neg (fun e => e4 e.symm)]
  ·rw [List.getElem?_eq_none (by rw [ZfN]; omega), if_neg (by omega), List.getElem?_eq_none (by rw [ZfN]; omega)]
theorem Ze5 (W : World) (lo n : Nat) (u : Value) (q : Nat -> Nat) (i j : Nat) (h : W.ownsRow lo 115 1 u n (ptrs q n)) (hi : i < n) (hj : j < n) :
  Calls Tryz.prog 183 #[u, .int .i64 (i : Int), .int .i64 (j : Int)] W fun e W' => e = .returned (.tuple #[]) /\ W'.ownsRow lo 115 1 u n (ptrs (Zb6 q i j) n) /\ W.grownBy W' u.ownBlock := by
 rcases h.2 with ⟨_, e⟩ | ⟨g, cap, cur, hv, hg, hh, _⟩
 ·omega
 subst hv
 have ci := (World.ownsRow.cellAt h i (by omega)).trans (Zem hi)
 have cj := (World.ownsRow.cellAt h j (by omega)).trans (Zem hj)
 have fz := Zaf hh
 obtain ⟨p, hp⟩ : ∃ p, p = q i := ⟨_, rfl⟩
 obtain ⟨r, hr⟩ : ∃ r, r = q j := ⟨_, rfl⟩
 rw [<- hp] at ci
 rw [<- hr] at cj
 unfold ptrV at ci cj
 have h1 : (0 : Int) <= (i : Int) := by omega
 have h2 : (i : Int) < (n : Int) := by omega
 have h3 : (0 : Int) <= (j : Int) := by omega
 have h4 : (j : Int) < (n : Int) := by omega
 obtain ⟨y, hy⟩ : ∃ y, (W.setCell ⟨g, i, none⟩ (.pointer (some ⟨r, 0, none⟩))).cell? ⟨g, j, none⟩ = some y := by
  have o1 := ZhM h hi r
  exact ⟨_, (World.ownsRow.cellAt o1 j (by omega)).trans (Zem hj)⟩
 have HP := hide hp
 have HR := hide hr
 have HH := hide h
 have HO := hide (show ((W.setCell ⟨g, i, none⟩ (.pointer (some ⟨r, 0, none⟩))).setCell ⟨g, j, none⟩ (.pointer (some ⟨p, 0, none⟩))).ownsRow lo 115 1 (.slice (some ⟨g, 0, none⟩) n cap) n (ptrs (Zb6 q i j) n) by
  have o2 := ZhM (ZhM h hi r) hj p
  have e : (fun x => if x = j then p else if x = i then r else q x) = Zb6 q i j := by
   funext x
   unfold Zb6
   by_cases e1 : x = j
   ·rw [if_pos e1]
    by_cases e2 : x = i
    ·rw [if_pos e2, hp, <- e2, e1]
    ·rw [if_neg e2, if_pos e1, hp]
   ·rw [if_neg e1]
    by_cases e2 : x = i
    ·rw [if_pos e2, if_pos e2, hr]
    ·rw [if_neg e2, if_neg e2, if_neg e1]
  rw [e] at o2
  exact o2)
 have HG := hide (show W.grownBy ((W.setCell ⟨g, i, none⟩ (.pointer (some ⟨r, 0, none⟩))).setCell ⟨g, j, none⟩ (.pointer (some ⟨p, 0, none⟩))) (some g) from Zal (Zam W g _ _) (Zam _ g _ _))
 clear hh hp hr h
 go_enter Tryz.func183, Tryz.ntmps183
 go_wp2
 go_region
 go_wp2
 go_returns
 exact ⟨rfl, HO.out.drew, ⟨HG.out.os, HG.out.tape, HG.out.output, HG.out.size, HG.out.block⟩⟩
theorem Zjz {P : Program} {t : TypeId} {p : Addr} {nm : String} {w : World} : (Builtin.ssaWrapNilChk_ #[t] t #[.pointer (some p), strVal "", strVal nm]).run P w = .ok (.pointer (some p)) w := rfl
theorem ZgO {P : Program} {fuel : Nat} {t elem e2 : TypeId} {f : FuncId} {i : TypeInfo} {m : Go.Method} {name : String} {p : Addr} {u : Value} {w : World} (hi : P.info? t = some i) (hm : i.methods.find? (·.name == name) = some m) (hp : m.path = #[]) (hf : m.func = some (f, false))
  (hu : P.underlying t = some (.pointer elem)) (hd : P.underlying elem = some (.slice e2)) (hc : w.cell? p = some u) :
  (method (fuel + 1) t (.pointer (some p)) name).run P w = .ok (f, u) w := by
 have hagg : (isAgg elem).run P w = .ok false w := by
  unfold isAgg
  simp [run_underlying hd, go_sem]
 unfold method
 simp [typeInfo, hi, hm, hp, hf, follow, receiverAt, run_underlying hu, Place.get, Zjz, asAddr, hagg, go_sem, loadVar, hc]
theorem Zcd {P : Program} {fuel : Nat} {t elem e2 : TypeId} {f : FuncId} {name : String} {p : Addr} {u : Value} {w : World} (h : (P.info? t).map (fun i => (i.methods.find? (·.name == name)).map (fun m => (m.path, m.func))) = some (some (#[], some (f, false))))
  (hu : P.underlying t = some (.pointer elem)) (hd : P.underlying elem = some (.slice e2)) (hc : w.cell? p = some u) :
  (method (fuel + 1) t (.pointer (some p)) name).run P w = .ok (f, u) w := by
 obtain ⟨i, hi, h1⟩ := Option.map_eq_some_iff.1 h
 obtain ⟨m, hm, h2⟩ := Option.map_eq_some_iff.1 h1
 simp only [Prod.mk.injEq] at h2
 exact ZgO hi hm h2.1 h2.2 hu hd hc
theorem Zey : Tryz.prog.underlying 146 = some (.pointer 118) := by kernel_rfl
theorem ZfO : Tryz.prog.underlying 118 = some (.slice 115) := by kernel_rfl
theorem ZdD {p : Addr} {u : Value} {w : World} (hc : w.cell? p = some u) : (method 332 146 (.pointer (some p)) "Less").run Tryz.prog w = .ok (182, u) w :=
 Zcd (by kernel_rfl) Zey ZfO hc
theorem ZjM {p : Addr} {u : Value} {w : World} (hc : w.cell? p = some u) : (method 332 146 (.pointer (some p)) "Len").run Tryz.prog w = .ok (101, u) w :=
 Zcd (by kernel_rfl) Zey ZfO hc
theorem ZdJ {p : Addr} {u : Value} {w : World} (hc : w.cell? p = some u) : (method 332 146 (.pointer (some p)) "Swap").run Tryz.prog w = .ok (183, u) w :=
 Zcd (by kernel_rfl) Zey ZfO hc
end Go.Proofs.YtakiifededfjlaaGreat
