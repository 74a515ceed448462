/-
  spec.l07Thing: its walk.
-/
import Derived.Test.YthmmpmbnpfhloaaDoorSh31
namespace Go.Proofs.YthmmpmbnpfhloaaDoor
open Go.RowKit

set_option linter.unusedSimpArgs false

/-- what is collected, the truth behind a letter -/
def ThV (key : Int) (far : Bool) (q : RtD) (fv : Value) (S : WayD → Prop) : Prop := ∃ F, fv = .bool F ∧ ThSt key far F q S

/-- a route in a cell, its hops in a row of the call's own -/
structure BoxR (W : World) (z lo : Nat) (q : RtD) (u : Value) : Prop where
  box : W.heap[z]? = some (.cells (rtC q u) 26)
  own : W.ownsRow lo 3 1 u q.hops.length (flat intE q.hops)
  len : q.hops.length ≤ 6

theorem BoxR.below {W W' : World} {z lo : Nat} {q : RtD} {u : Value} (h : BoxR W z lo q u) (hb : Below W.heap.size W W') : BoxR W' z lo q u :=
  ⟨(hb.block _ (lt_of_heap h.box)).trans h.box, owns_below h.own hb (Nat.le_refl _), h.len⟩

theorem set6 {W : World} {z j : Nat} {cs : Array Value} {x : Value} (h : W.heap[z]? = some (.cells cs 26)) : (W.setCell ⟨z, j, none⟩ x).heap[z]? = some (.cells (cs.setIfInBounds j x) 26) := heap_setCell_same W z j _ _ x h

theorem set6_own {W : World} {z j lo n : Nat} {cs : Array Value} {x u : Value} {xs : List Value} (h : W.heap[z]? = some (.cells cs 26)) (ho : W.ownsRow lo 3 1 u n xs) : (W.setCell ⟨z, j, none⟩ x).ownsRow lo 3 1 u n xs :=
  owns_keepB ho (fun k hk => (grown_set W z j x).block k (ho.lt k hk).2 (fun e => own_type_ne2 ho h (by decide) (by rw [hk]; exact e.symm)))

theorem set6_below {W : World} {z j B : Nat} {cs : Array Value} {x : Value} (h : W.heap[z]? = some (.cells cs 26)) (hB : B ≤ z) : Below B W (W.setCell ⟨z, j, none⟩ x) :=
  (Below.refl B W).grown (grown_set W z j x) (by have := lt_of_heap h; omega) (fun k hk => by simp at hk; omega)

theorem BoxR.kind {W : World} {z lo : Nat} {q : RtD} {u : Value} (h : BoxR W z lo q u) (k : Int) : BoxR (W.setCell ⟨z, 2, none⟩ (.int .i64 k)) z lo { q with kind := k } u :=
  ⟨by have e := set6 (j := 2) (x := .int .i64 k) h.box; simp only [rtC, List.setIfInBounds_toArray, List.set_cons_zero, List.set_cons_succ] at e ⊢; exact e, set6_own h.box h.own, h.len⟩

theorem BoxR.far {W : World} {z lo : Nat} {q : RtD} {u : Value} (h : BoxR W z lo q u) (k : Int) : BoxR (W.setCell ⟨z, 4, none⟩ (.int .i64 k)) z lo { q with far := k } u :=
  ⟨by have e := set6 (j := 4) (x := .int .i64 k) h.box; simp only [rtC, List.setIfInBounds_toArray, List.set_cons_zero, List.set_cons_succ] at e ⊢; exact e, set6_own h.box h.own, h.len⟩

theorem BoxR.cost {W : World} {z lo : Nat} {q : RtD} {u : Value} (h : BoxR W z lo q u) (k : Int) : BoxR (W.setCell ⟨z, 3, none⟩ (.int .i64 k)) z lo { q with cost := k } u :=
  ⟨by have e := set6 (j := 3) (x := .int .i64 k) h.box; simp only [rtC, List.setIfInBounds_toArray, List.set_cons_zero, List.set_cons_succ] at e ⊢; exact e, set6_own h.box h.own, h.len⟩

theorem BoxR.hop {W : World} {z lo : Nat} {q : RtD} {u x : Value} {l : List Int} (h : BoxR W z lo q u) (hx : W.ownsRow lo 3 1 x l.length (flat intE l)) (hl : l.length ≤ 6) : BoxR (W.setCell ⟨z, 5, none⟩ x) z lo { q with hops := l } x :=
  ⟨by have e := set6 (j := 5) (x := x) h.box; simp only [rtC, List.setIfInBounds_toArray, List.set_cons_zero, List.set_cons_succ] at e ⊢; exact e, set6_own h.box hx, hl⟩

theorem BoxR.wide {W : World} {z lo lo' : Nat} {q : RtD} {u : Value} (h : BoxR W z lo q u) (hl : lo' ≤ lo) : BoxR W z lo' q u := ⟨h.box, owns_baseS h.own hl, h.len⟩

/-- the end: a route in the result's cell -/
def putR6 (W : World) (z : Nat) (x : RtD) (v : Value) : World := (((((W.setCell ⟨z, 0, none⟩ (.bool x.thing)).setCell ⟨z, 1, none⟩ (.int .i64 x.to)).setCell ⟨z, 2, none⟩ (.int .i64 x.kind)).setCell ⟨z, 3, none⟩ (.int .i64 x.cost)).setCell ⟨z, 4, none⟩ (.int .i64 x.far)).setCell ⟨z, 5, none⟩ v

theorem rt_end {W : World} {z : Nat} {q : RtD} {y : Value} (B : Nat) (x : RtD) (v : Value) (hz : W.heap[z]? = some (.cells (rtC q y) 26)) (ho : W.ownsRow B 3 1 v x.hops.length (flat intE x.hops)) :
    (putR6 W z x v).heap[z]? = some (.cells (rtC x v) 26) ∧ (putR6 W z x v).ownsRow B 3 1 v x.hops.length (flat intE x.hops) ∧ Below z W (putR6 W z x v) := by
  have h1 := set6 (j := 0) (x := .bool x.thing) hz
  have h2 := set6 (j := 1) (x := .int .i64 x.to) h1
  have h3 := set6 (j := 2) (x := .int .i64 x.kind) h2
  have h4 := set6 (j := 3) (x := .int .i64 x.cost) h3
  have h5 := set6 (j := 4) (x := .int .i64 x.far) h4
  have h6 := set6 (j := 5) (x := v) h5
  refine ⟨?_, ?_, ?_⟩
  · unfold putR6
    rw [h6]
    simp only [rtC, List.setIfInBounds_toArray, List.set_cons_zero, List.set_cons_succ]
  · exact set6_own h5 (set6_own h4 (set6_own h3 (set6_own h2 (set6_own h1 (set6_own hz ho)))))
  · exact (((((set6_below hz (Nat.le_refl z)).trans (set6_below h1 (Nat.le_refl z))).trans (set6_below h2 (Nat.le_refl z))).trans (set6_below h3 (Nat.le_refl z))).trans (set6_below h4 (Nat.le_refl z))).trans (set6_below h5 (Nat.le_refl z))

/-- how a route under way looks -/
theorem ThSt.form {key : Int} {far F : Bool} {q : RtD} {S : WayD → Prop} (h : ThSt key far F q S) : ∃ kd qc qf qh, q = ⟨true, key, kd, qc, qf, qh⟩ ∧ (far = false → kd = 3) ∧ (far = true → F = true → kd = 4) ∧ (F = true → far = false → qf = 0) := by
  obtain ⟨th, to, kd, qc, qf, qh⟩ := q
  unfold ThSt at h
  cases F
  · rw [if_neg (by simp)] at h
    have h1 := h.1
    unfold zeroT at h1
    injection h1 with e1 e2 e3 e4 e5 e6
    subst e1 e2 e3
    exact ⟨3, qc, qf, qh, rfl, fun _ => rfl, fun _ h => (by cases h), fun h => (by cases h)⟩
  · rw [if_pos rfl] at h
    obtain ⟨⟨h1, h2, h3, _, h5⟩, _⟩ := h
    simp only at h1 h2 h3 h5
    subst h1 h2
    exact ⟨kd, qc, qf, qh, rfl, fun e => (by rw [h3, e]; rfl), fun e _ => (by rw [h3, e]; rfl), fun _ e => h5.2.2 e⟩

set_option maxRecDepth 100000 in
set_option maxHeartbeats 16000000 in
theorem sthingR_any (v uw ub : Value) (ps : List RP) (ws bs : List WP) (hi lo1 hi1 lo2 hi2 : Nat) (key src : Int) (far : Bool) (w : World) (hv : RecsIn w hi v ps) (hhi : hi ≤ w.heap.size) (hn : tot ps ≤ 1048576) (hw : WaysOwn w lo1 hi1 uw ws) (hh1 : hi1 ≤ w.heap.size) (hnw : totW ws ≤ 1048576) (hu : WaysOwn w lo2 hi2 ub bs) (hh2 : hi2 ≤ w.heap.size) (hnb : totW bs ≤ 1048576) (hs : storeB (fsts ps) = true) (hgd : GoodL (fstsW ws)) (hge : GoodL (fstsW bs)) :
    Calls Tryd.prog 46 #[v, uw, ub, .int .i64 key, .int .i64 src, .bool far] w fun e w' => ∃ q u fv, e = .returned (.tuple #[.agg (rtC q u), fv]) ∧ ThV key far q fv (thK (fsts ps) (fstsW ws) (fstsW bs) src key far ps.length) ∧ q.hops.length ≤ 6 ∧ w'.ownsRow w.heap.size 3 1 u q.hops.length (flat intE q.hops) ∧ Below w.heap.size w w' := by
  have hnl := tot_len ps
  obtain ⟨a0, c0, rfl⟩ := owns_lenS hv.row
  obtain ⟨a1, c1, rfl⟩ := owns_lenS hw.row
  obtain ⟨a2, c2, rfl⟩ := owns_lenS hu.row
  have HOW := hide (fun (o : Int) W (hb : Below w.heap.size w W) => sowner_any (.slice a1 ws.length c1) (.slice a2 bs.length c2) ws bs lo1 hi1 lo2 hi2 o src W (hw.below hb hh1) (Nat.le_trans hh1 hb.size) hnw (hu.below hb hh2) (Nat.le_trans hh2 hb.size) hnb)
  unfold wayC at HOW
  have HV := hide hv
  clear hv hw hu
  obtain ⟨DS, hDS⟩ : ∃ D, D = fstsW ws := ⟨_, rfl⟩
  obtain ⟨ES, hES⟩ : ∃ D, D = fstsW bs := ⟨_, rfl⟩
  rw [← hDS] at HOW hgd ⊢
  rw [← hES] at HOW hge ⊢
  clear hDS hES
  have HHOP := hide (fun k => thK_hop (src := src) (key := key) (far := far) (k := k) hs hgd hge)
  have HGO := hide (fun o d (h : ownerW DS ES src o = some d) => ownerW_good hgd hge h)
  have HRT := hide (fun r (hr : r ∈ fsts ps) => rec_thing hs hr)
  clear hs hgd hge
  have BX0 : BoxR ((w.alloc (.cells #[.bool false, .int .i64 0, .int .i64 0, .int .i64 0, .int .i64 0, .slice none 0 0] 26)).alloc (.cells #[.bool true, .int .i64 key, .int .i64 3, .int .i64 0, .int .i64 0, .slice none 0 0] 26)) (w.heap.size + 1) w.heap.size (zeroT key) (.slice none 0 0) :=
    ⟨by have h := heap_alloc_new (w.alloc (.cells #[.bool false, .int .i64 0, .int .i64 0, .int .i64 0, .int .i64 0, .slice none 0 0] 26)) (.cells #[.bool true, .int .i64 key, .int .i64 3, .int .i64 0, .int .i64 0, .slice none 0 0] 26); rw [show (w.alloc (.cells #[.bool false, .int .i64 0, .int .i64 0, .int .i64 0, .int .i64 0, .slice none 0 0] 26)).heap.size = w.heap.size + 1 by simp] at h; exact h, World.ownsRow_nil _ _ _ _, by simp [zeroT]⟩
  have BR0 : ((w.alloc (.cells #[.bool false, .int .i64 0, .int .i64 0, .int .i64 0, .int .i64 0, .slice none 0 0] 26)).alloc (.cells #[.bool true, .int .i64 key, .int .i64 3, .int .i64 0, .int .i64 0, .slice none 0 0] 26)).heap[w.heap.size]? = some (.cells (rtC zeroQD (.slice none 0 0)) 26) := by rw [Below.heap_alloc _ _ _ (by simp), heap_alloc_new]; rfl
  have BW0 : Below w.heap.size w ((w.alloc (.cells #[.bool false, .int .i64 0, .int .i64 0, .int .i64 0, .int .i64 0, .slice none 0 0] 26)).alloc (.cells #[.bool true, .int .i64 key, .int .i64 3, .int .i64 0, .int .i64 0, .slice none 0 0] 26)) := below_two _ _
  obtain ⟨wz, hwz⟩ : ∃ W, W = (w.alloc (.cells #[.bool false, .int .i64 0, .int .i64 0, .int .i64 0, .int .i64 0, .slice none 0 0] 26)).alloc (.cells #[.bool true, .int .i64 key, .int .i64 3, .int .i64 0, .int .i64 0, .slice none 0 0] 26) := ⟨_, rfl⟩
  rw [← hwz] at BX0 BR0 BW0
  have HX0 := hide BX0
  have HR0 := hide BR0
  clear BX0 BR0
  go_enter Tryd.func46, Tryd.ntmps46
  go_wp2
  rw [← hwz]
  clear hwz
  go_loopw [16, 15] (fun i f wr => ∃ (k : Nat) (q : RtD) (u : Value), k ≤ ps.length ∧ i = .int .i64 (k : Int) ∧ BoxR wr (w.heap.size + 1) w.heap.size q u ∧ Hid (wr.heap[w.heap.size]? = some (.cells (rtC zeroQD (.slice none 0 0)) 26)) ∧ ThV key far q f (thK (fsts ps) DS ES src key far k) ∧ Below w.heap.size w wr) (fun i _ _ => ps.length - (intOf i).toNat)
  case atStart => exact ⟨0, _, _, by omega, rfl, HX0.out, HR0, ⟨false, rfl, thK_zero⟩, BW0⟩
  case round =>
    obtain ⟨k, q, u, hk, rfl, hbx, HRZ, hthv, BW⟩ := hrel
    clear HX0 HR0 BW0
    obtain ⟨F, hf, hst⟩ := hthv
    subst hf
    obtain ⟨kd, qc, qf, qh, hq, hk3, hk4, hf0⟩ := hst.form
    subst hq
    obtain ⟨ua, uc, hu⟩ := owns_lenS hbx.own
    simp only at hu
    subst hu
    have hsz := BW.size
    have hzr := lt_of_heap HRZ.out
    have hzb := lt_of_heap hbx.box
    by_cases hlt : k < ps.length
    · obtain ⟨p, hp⟩ : ∃ p, ps[k]? = some p := ⟨ps[k], List.getElem?_eq_getElem hlt⟩
      obtain ⟨bb, off, cap', hve, hbb, c0, c1, c2, c3, c4, c5, c6, c7, hnr⟩ := HV.out.at.cells k p hp
      cases hve
      obtain ⟨pa, pc, hpn⟩ := NearsAt.shape hnr
      rw [hpn] at c5
      rw [← BW.cell (p := ⟨bb, off + k * 8, none⟩) (Nat.lt_of_lt_of_le hbb hhi)] at c0
      rw [← BW.cell (p := ⟨bb, off + k * 8 + 1, none⟩) (Nat.lt_of_lt_of_le hbb hhi)] at c1
      rw [← BW.cell (p := ⟨bb, off + k * 8 + 2, none⟩) (Nat.lt_of_lt_of_le hbb hhi)] at c2
      rw [← BW.cell (p := ⟨bb, off + k * 8 + 3, none⟩) (Nat.lt_of_lt_of_le hbb hhi)] at c3
      rw [← BW.cell (p := ⟨bb, off + k * 8 + 4, none⟩) (Nat.lt_of_lt_of_le hbb hhi)] at c4
      rw [← BW.cell (p := ⟨bb, off + k * 8 + 5, none⟩) (Nat.lt_of_lt_of_le hbb hhi)] at c5
      rw [← BW.cell (p := ⟨bb, off + k * 8 + 6, none⟩) (Nat.lt_of_lt_of_le hbb hhi)] at c6
      rw [← BW.cell (p := ⟨bb, off + k * 8 + 7, none⟩) (Nat.lt_of_lt_of_le hbb hhi)] at c7
      by_cases hA : p.1.far = far
      case neg =>
        have hA2 : p.1.far = !far := by cases h1 : p.1.far <;> cases h2 : far <;> simp_all
        rw [hA2] at c7
        have hd : ((!far) != far) = true := by cases far <;> rfl
        have HhA := hide hA
        clear hA hA2
        have HPP := hide (fsts_at hp)
        have HPM := hide (List.mem_of_getElem? (fsts_at hp))
        have BAL : Below wr.heap.size wr (wr.alloc (.cells #[.int .i64 p.1.area, .int .i64 p.1.kind, .int .i64 p.1.owner, .int .i64 p.1.key, .int .i64 p.1.seq, .slice pa p.1.near.length pc, .int .i64 p.1.cost, .bool (!far)] 81)) := (Below.refl _ _).alloc (Nat.le_refl _) _
        have hxl := heap_alloc_new wr (.cells #[.int .i64 p.1.area, .int .i64 p.1.kind, .int .i64 p.1.owner, .int .i64 p.1.key, .int .i64 p.1.seq, .slice pa p.1.near.length pc, .int .i64 p.1.cost, .bool (!far)] 81)
        have hsl : (wr.alloc (.cells #[.int .i64 p.1.area, .int .i64 p.1.kind, .int .i64 p.1.owner, .int .i64 p.1.key, .int .i64 p.1.seq, .slice pa p.1.near.length pc, .int .i64 p.1.cost, .bool (!far)] 81)).heap.size = wr.heap.size + 1 := by simp
        obtain ⟨wl, hwl⟩ : ∃ W, W = (wr.alloc (.cells #[.int .i64 p.1.area, .int .i64 p.1.kind, .int .i64 p.1.owner, .int .i64 p.1.key, .int .i64 p.1.seq, .slice pa p.1.near.length pc, .int .i64 p.1.cost, .bool (!far)] 81)) := ⟨_, rfl⟩
        rw [← hwl] at BAL hxl hsl
        have hki : (0 : Int) ≤ (k : Int) := by omega
        have hkj : (k : Int) < (ps.length : Int) := by omega
        have N1 := hide (hbx.below BAL)
        have N2 := hide ((BAL.block _ hzr).trans HRZ.out)
        have N3 := hide (BW.trans (BAL.mono hsz))
        have HSL := hide hsl
        have HST := hide hst
        clear hp hnr hpn hbx HRZ hst hsl
        by_cases hK : p.1.kind = 3
        case neg =>
          have hdd : (p.1.kind != 3) = true := by simpa using hK
          clear hK
          have HN := hide (show ThSt key far F _ (thK (fsts ps) DS ES src key far (k + 1)) from thK_quiet HPP.out HST.out (fun _ h d ht => HhA.out h))
          rw [hwl] at N1 N2 N3
          clear HST HPP HPM HOW BAL hwl hxl HSL HHOP HGO HRT hk3 hk4 hf0
          go_wp2
          all_goals go_roundw
          all_goals first | (simp [intOf]; omega) | exact ⟨k + 1, _, _, by omega, by go_num, N1.out, N2, ⟨F, rfl, HN.out⟩, N3.out⟩
        have hdK : (p.1.kind != 3) = false := by simpa using hK
        clear hK
        by_cases hY : p.1.key = key
        case neg =>
          have hdd : (p.1.key != key) = true := by simpa using hY
          clear hY
          have HN := hide (show ThSt key far F _ (thK (fsts ps) DS ES src key far (k + 1)) from thK_quiet HPP.out HST.out (fun _ h d ht => HhA.out h))
          rw [hwl] at N1 N2 N3
          clear HST HPP HPM HOW BAL hwl hxl HSL HHOP HGO HRT hk3 hk4 hf0
          go_wp2
          all_goals go_roundw
          all_goals first | (simp [intOf]; omega) | exact ⟨k + 1, _, _, by omega, by go_num, N1.out, N2, ⟨F, rfl, HN.out⟩, N3.out⟩
        have hdY : (p.1.key != key) = false := by simpa using hY
        clear hY
        have HN := hide (show ThSt key far F _ (thK (fsts ps) DS ES src key far (k + 1)) from thK_quiet HPP.out HST.out (fun _ h d ht => HhA.out h))
        rw [hwl] at N1 N2 N3
        clear HST HPP HPM HOW BAL hwl hxl HSL HHOP HGO HRT hk3 hk4 hf0
        go_wp2
        all_goals go_roundw
        all_goals first | (simp [intOf]; omega) | exact ⟨k + 1, _, _, by omega, by go_num, N1.out, N2, ⟨F, rfl, HN.out⟩, N3.out⟩
      rw [hA] at c7
      have HhA := hide hA
      clear hA
      have HPP := hide (fsts_at hp)
      have HPM := hide (List.mem_of_getElem? (fsts_at hp))
      have BAL : Below wr.heap.size wr (wr.alloc (.cells #[.int .i64 p.1.area, .int .i64 p.1.kind, .int .i64 p.1.owner, .int .i64 p.1.key, .int .i64 p.1.seq, .slice pa p.1.near.length pc, .int .i64 p.1.cost, .bool far] 81)) := (Below.refl _ _).alloc (Nat.le_refl _) _
      have hxl := heap_alloc_new wr (.cells #[.int .i64 p.1.area, .int .i64 p.1.kind, .int .i64 p.1.owner, .int .i64 p.1.key, .int .i64 p.1.seq, .slice pa p.1.near.length pc, .int .i64 p.1.cost, .bool far] 81)
      have hsl : (wr.alloc (.cells #[.int .i64 p.1.area, .int .i64 p.1.kind, .int .i64 p.1.owner, .int .i64 p.1.key, .int .i64 p.1.seq, .slice pa p.1.near.length pc, .int .i64 p.1.cost, .bool far] 81)).heap.size = wr.heap.size + 1 := by simp
      obtain ⟨wl, hwl⟩ : ∃ W, W = (wr.alloc (.cells #[.int .i64 p.1.area, .int .i64 p.1.kind, .int .i64 p.1.owner, .int .i64 p.1.key, .int .i64 p.1.seq, .slice pa p.1.near.length pc, .int .i64 p.1.cost, .bool far] 81)) := ⟨_, rfl⟩
      rw [← hwl] at BAL hxl hsl
      have hki : (0 : Int) ≤ (k : Int) := by omega
      have hkj : (k : Int) < (ps.length : Int) := by omega
      have N1 := hide (hbx.below BAL)
      have N2 := hide ((BAL.block _ hzr).trans HRZ.out)
      have N3 := hide (BW.trans (BAL.mono hsz))
      have HSL := hide hsl
      have HST := hide hst
      clear hp hnr hpn hbx HRZ hst hsl
      by_cases hK : p.1.kind = 3
      case neg =>
        have hd : (p.1.kind != 3) = true := by simpa using hK
        have HhK := hide hK
        clear hK
        have HN := hide (show ThSt key far F _ (thK (fsts ps) DS ES src key far (k + 1)) from thK_quiet HPP.out HST.out (fun _ _ d ht => HhK.out ht.1))
        rw [hwl] at N1 N2 N3
        clear HST HPP HPM HOW BAL hwl hxl HSL HHOP HGO HRT hk3 hk4 hf0
        go_wp2
        all_goals go_roundw
        all_goals first | (simp [intOf]; omega) | exact ⟨k + 1, _, _, by omega, by go_num, N1.out, N2, ⟨F, rfl, HN.out⟩, N3.out⟩
      have hdK : (p.1.kind != 3) = false := by simpa using hK
      have HhK := hide hK
      clear hK
      by_cases hY : p.1.key = key
      case neg =>
        have hd : (p.1.key != key) = true := by simpa using hY
        have HhY := hide hY
        clear hY
        have HN := hide (show ThSt key far F _ (thK (fsts ps) DS ES src key far (k + 1)) from thK_quiet HPP.out HST.out (fun h _ d ht => HhY.out h))
        rw [hwl] at N1 N2 N3
        clear HST HPP HPM HOW BAL hwl hxl HSL HHOP HGO HRT hk3 hk4 hf0
        go_wp2
        all_goals go_roundw
        all_goals first | (simp [intOf]; omega) | exact ⟨k + 1, _, _, by omega, by go_num, N1.out, N2, ⟨F, rfl, HN.out⟩, N3.out⟩
      have hdY : (p.1.key != key) = false := by simpa using hY
      have HhY := hide hY
      clear hY
      by_cases hC : p.1.cost < 60000
      case neg =>
        have hd : p.1.cost ≥ 60000 := by omega
        have HhC := hide hC
        clear hC
        have HN := hide (show ThSt key far F _ (thK (fsts ps) DS ES src key far (k + 1)) from thK_quiet HPP.out HST.out (fun _ _ d ht => HhC.out ht.2.1))
        rw [hwl] at N1 N2 N3
        clear HST HPP HPM HOW BAL hwl hxl HSL HHOP HGO HRT hk3 hk4 hf0
        go_wp2
        all_goals go_roundw
        all_goals first | (simp [intOf]; omega) | exact ⟨k + 1, _, _, by omega, by go_num, N1.out, N2, ⟨F, rfl, HN.out⟩, N3.out⟩
      have hdC : ¬ p.1.cost ≥ 60000 := by omega
      have hrb := HRT.out p.1 HPM.out HhK.out hC
      have HhC := hide hC
      clear hC
      have hfd := own_find DS ES src p.1.owner
      have HW := HOW.out p.1.owner wl N3.out
      obtain ⟨D, hD⟩ : ∃ D, D = ownD DS ES src p.1.owner := ⟨_, rfl⟩
      obtain ⟨FB, hFB⟩ : ∃ F, F = ownB DS ES src p.1.owner := ⟨_, rfl⟩
      rw [← hD, ← hFB] at HW hfd
      have hx2 := cells_at hxl 2
      simp at hx2
      rw [hwl] at hx2
      have HXL := hide hxl
      have HWW := hide HW
      have HFD := hide hfd
      have HBL := hide BAL
      clear HW hfd hD hFB hxl BAL HOW
      go_wp2_with fail
      rw [← hwl]
      clear hwl hx2
      refine HWW.out.mono ?_
      rintro e w3 ⟨du, rfl, hdu, b3⟩
      obtain ⟨da, dc, rfl⟩ := owns_lenS hdu
      have hb3 := b3.size
      have hxl4 := (b3.block _ (lt_of_heap HXL.out)).trans HXL.out
      have hwlz : wr.heap.size < wl.heap.size := lt_of_heap HXL.out
      have M1 := hide (N1.out.below b3)
      have M2 := hide ((b3.block _ (by omega)).trans N2.out)
      have M3 := hide (N3.out.trans (b3.mono N3.out.size))
      have HDU := hide hdu
      clear hdu b3 N1 N2 N3 HXL HBL HWW
      cases FB
      · have HN := hide (show ThSt key far F _ (thK (fsts ps) DS ES src key far (k + 1)) from thK_quiet HPP.out HST.out (fun _ _ d ht => by
          obtain ⟨_, _, v, h4, _⟩ := ht
          rcases HFD.out with ⟨h1, _⟩ | ⟨_, h2, _⟩
          · cases h1
          · rw [h2] at h4; cases h4))
        have BA5 := (Below.refl w3.heap.size w3).alloc (Nat.le_refl _) (.cells #[.int .i64 D.to, .int .i64 D.cost, .slice da D.hops.length dc] 93)
        have KK1 := hide (M1.out.below BA5)
        have KK2 := hide ((BA5.block _ (lt_of_heap M2.out)).trans M2.out)
        have KK3 := hide (M3.out.trans (BA5.mono M3.out.size))
        clear HST HPP HPM HHOP HGO HRT hk3 hk4 hf0 HFD HDU hxl4 HSL M1 M2 M3 BA5
        go_wp2
        go_roundw
        case rel => exact ⟨k + 1, _, _, by omega, by go_num, KK1.out, KK2, ⟨F, rfl, HN.out⟩, KK3.out⟩
        case measure => simp [intOf]; omega
      have hfound : ownerW DS ES src p.1.owner = some D := by
        rcases HFD.out with ⟨_, h2⟩ | ⟨h1, _⟩
        · exact h2
        · cases h1
      have hDg := HGO.out p.1.owner D hfound
      have hD0 := hDg.1
      have hD6 := asc6_len hDg.2.1 hDg.2.2
      have HDG := hide hDg.2
      have HOFF := hide (show offersOf DS ES src p.1 ⟨key, rank2 far (moreT far p.1.cost) (costT far p.1.cost D.cost), D.hops⟩ from ⟨HhK.out, HhC.out, D, hfound, by rw [rank2_F, ← HhY.out, ← HhA.out]⟩)
      have HMORE := hide (fun d => thK_more (d := d) HPP.out HhY.out HhA.out HOFF.out)
      have hoc : 0 ≤ costT far p.1.cost D.cost ∧ costT far p.1.cost D.cost ≤ 61000 := by unfold costT; split <;> omega
      have hom : 0 ≤ moreT far p.1.cost ∧ moreT far p.1.cost ≤ 1000 ∧ (far = false → moreT far p.1.cost = 0) := by
        unfold moreT
        refine ⟨by split <;> omega, by split <;> omega, fun e => by rw [e]; rfl⟩
      have HMR := HMORE
      have HLESS := hide (fun hl => (HST.out.less (HHOP.out k) hl hom hoc HDG.out.1 HDG.out.2).congr HMORE.out)
      have HWORSE := hide (fun (e : F = true) => by subst e; exact fun hl hn => (HST.out.worse (m := moreT far p.1.cost) (c := costT far p.1.cost D.cost) (HHOP.out k) hl hn hom hoc HDG.out.1 HDG.out.2).congr HMORE.out)
      have HLIKE := hide (fun (e : F = true) => by subst e; exact HST.out.like (HHOP.out k) HDG.out.1 HDG.out.2)
      have HNIL := hide (addL_nil HDG.out.1 HDG.out.2)
      have r6 := cells_at ((((Below.refl w3.heap.size w3).alloc (Nat.le_refl _) (.cells #[.int .i64 D.to, .int .i64 D.cost, .slice da D.hops.length dc] 93)).block _ (lt_of_heap hxl4)).trans hxl4) 6
      have d1 := cells_at (heap_alloc_new w3 (.cells #[.int .i64 D.to, .int .i64 D.cost, .slice da D.hops.length dc] 93)) 1
      simp only [List.getElem?_toArray, List.getElem?_cons_succ, List.getElem?_cons_zero] at r6 d1
      have hzb4 := M1.out.box
      unfold rtC at hzb4
      have g2 := cells_at hzb4 2
      have g3 := cells_at hzb4 3
      have g4 := cells_at hzb4 4
      have g5 := cells_at hzb4 5
      have gf := frozen_at hzb4
      simp only [List.getElem?_toArray, List.getElem?_cons_succ, List.getElem?_cons_zero] at g2 g3 g4 g5
      have hz4 : w.heap.size + 1 < w3.heap.size := by omega
      have hz5 : w.heap.size + 1 ≠ w3.heap.size := by omega
      have hz6 : w.heap.size + 1 ≠ wr.heap.size := by omega
      have hz7 : wr.heap.size ≠ w3.heap.size := by omega
      have hz8 : wr.heap.size ≠ w.heap.size + 1 := by omega
      clear hxl4 hzb4 HST HPP HPM HHOP HGO HRT HFD hfound hDg HDG HOFF HSL
      cases far
      case false =>
        have hkd : kd = 3 := hk3 rfl
        subst hkd
        clear hk3 hk4 HMORE
        have hC1 : costT false p.1.cost D.cost = D.cost + p.1.cost := rfl
        have hM1 : moreT false p.1.cost = 0 := rfl
        rw [hC1] at hoc HLESS HWORSE
        rw [hM1] at HLESS HWORSE
        clear hC1 hM1 hom
        cases F
        case false =>
          clear HWORSE HLIKE hf0
          have K1 := M1
          have K2 := M2
          have K3 := M3
          have KDU := HDU
          have kb := (K1.out.below ((Below.refl w3.heap.size w3).alloc (Nat.le_refl _) (.cells #[.int .i64 D.to, .int .i64 D.cost, .slice da D.hops.length dc] 93))).box
          unfold rtC at kb
          have k3 := cells_at kb 3
          have k4 := cells_at kb 4
          have k5 := cells_at kb 5
          have kh : w3.heap.size = w3.heap.size := by first | rfl | simp
          have kx := heap_alloc_new w3 (.cells #[.int .i64 D.to, .int .i64 D.cost, .slice da D.hops.length dc] 93)
          rw [kh] at kx
          have kd2 := cells_at kx 2
          simp only [List.getElem?_toArray, List.getElem?_cons_succ, List.getElem?_cons_zero] at k3 k4 k5 kd2
          clear kb kx kh
          have HT := hide (HLESS.out (fun h => by cases h))
          have L1 := hide ((K1.out.far (0)).cost (D.cost + p.1.cost))
          have L2 := hide (show ((w3.setCell ⟨w.heap.size + 1, 4, none⟩ (.int .i64 (0))).setCell ⟨w.heap.size + 1, 3, none⟩ (.int .i64 (D.cost + p.1.cost))).heap[w.heap.size]? = some (.cells (rtC zeroQD (.slice none 0 0)) 26) from ((grown_set _ (w.heap.size + 1) 3 _).block _ (by first | omega | (simp; omega)) (by simp)).trans (((grown_set _ (w.heap.size + 1) 4 _).block _ (by first | omega | (simp; omega)) (by simp)).trans K2.out))
          have L3 := hide ((K3.out.trans (set6_below (j := 4) (x := .int .i64 (0)) K1.out.box (show w.heap.size ≤ w.heap.size + 1 by omega))).trans (set6_below (j := 3) (x := .int .i64 (D.cost + p.1.cost)) (K1.out.far (0)).box (show w.heap.size ≤ w.heap.size + 1 by omega)))
          have L4 := hide (set6_own (j := 3) (x := .int .i64 (D.cost + p.1.cost)) (K1.out.far (0)).box (set6_own (j := 4) (x := .int .i64 (0)) K1.out.box KDU.out))
          have hs6 : (((w3.setCell ⟨w.heap.size + 1, 4, none⟩ (.int .i64 (0))).setCell ⟨w.heap.size + 1, 3, none⟩ (.int .i64 (D.cost + p.1.cost))).alloc (.cells #[.int .i64 D.to, .int .i64 D.cost, .slice da D.hops.length dc] 93)).heap.size = w3.heap.size + 1 := by simp
          have LIT := World.ownsRow_lit (base := w.heap.size) (e := 3) (size := 1) (((w3.setCell ⟨w.heap.size + 1, 4, none⟩ (.int .i64 (0))).setCell ⟨w.heap.size + 1, 3, none⟩ (.int .i64 (D.cost + p.1.cost))).alloc (.cells #[.int .i64 D.to, .int .i64 D.cost, .slice da D.hops.length dc] 93)) #[] 0 (by rw [hs6]; omega) (by decide) rfl
          have HA := sadd_any (.slice (some ⟨(((w3.setCell ⟨w.heap.size + 1, 4, none⟩ (.int .i64 (0))).setCell ⟨w.heap.size + 1, 3, none⟩ (.int .i64 (D.cost + p.1.cost))).alloc (.cells #[.int .i64 D.to, .int .i64 D.cost, .slice da D.hops.length dc] 93)).heap.size, 0, none⟩) 0 0) (.slice da D.hops.length dc) [] D.hops ((((w3.setCell ⟨w.heap.size + 1, 4, none⟩ (.int .i64 (0))).setCell ⟨w.heap.size + 1, 3, none⟩ (.int .i64 (D.cost + p.1.cost))).alloc (.cells #[.int .i64 D.to, .int .i64 D.cost, .slice da D.hops.length dc] 93)).alloc (.cells #[] 3)) (by simp) (by omega) (hops_of (l := []) LIT) (hops_of ((L4.out.alloc _).alloc _))
          rw [hs6, HNIL.out] at HA
          have lx := heap_alloc_new ((w3.setCell ⟨w.heap.size + 1, 4, none⟩ (.int .i64 (0))).setCell ⟨w.heap.size + 1, 3, none⟩ (.int .i64 (D.cost + p.1.cost))) (.cells #[.int .i64 D.to, .int .i64 D.cost, .slice da D.hops.length dc] 93)
          rw [show ((w3.setCell ⟨w.heap.size + 1, 4, none⟩ (.int .i64 (0))).setCell ⟨w.heap.size + 1, 3, none⟩ (.int .i64 (D.cost + p.1.cost))).heap.size = w3.heap.size by simp] at lx
          have ld2 := cells_at ((((Below.refl (((w3.setCell ⟨w.heap.size + 1, 4, none⟩ (.int .i64 (0))).setCell ⟨w.heap.size + 1, 3, none⟩ (.int .i64 (D.cost + p.1.cost))).alloc (.cells #[.int .i64 D.to, .int .i64 D.cost, .slice da D.hops.length dc] 93)).heap.size (((w3.setCell ⟨w.heap.size + 1, 4, none⟩ (.int .i64 (0))).setCell ⟨w.heap.size + 1, 3, none⟩ (.int .i64 (D.cost + p.1.cost))).alloc (.cells #[.int .i64 D.to, .int .i64 D.cost, .slice da D.hops.length dc] 93))).alloc (Nat.le_refl _) (.cells #[] 3)).block _ (lt_of_heap lx)).trans lx) 2
          simp only [List.getElem?_toArray, List.getElem?_cons_succ, List.getElem?_cons_zero] at ld2
          clear lx
          have HAA := hide HA
          have HBA := hide (((Below.refl ((w3.setCell ⟨w.heap.size + 1, 4, none⟩ (.int .i64 (0))).setCell ⟨w.heap.size + 1, 3, none⟩ (.int .i64 (D.cost + p.1.cost))).heap.size ((w3.setCell ⟨w.heap.size + 1, 4, none⟩ (.int .i64 (0))).setCell ⟨w.heap.size + 1, 3, none⟩ (.int .i64 (D.cost + p.1.cost)))).alloc (Nat.le_refl _) (.cells #[.int .i64 D.to, .int .i64 D.cost, .slice da D.hops.length dc] 93)).alloc (by simp) (.cells #[] 3))
          clear HA LIT HLESS M1 M2 M3 K1 K2 K3 KDU HDU HNIL HMR
          go_wp2_with fail
          refine HAA.out.mono ?_
          rintro e w7 ⟨x, rfl, hx, b7⟩
          obtain ⟨xa, xc, rfl⟩ := owns_lenS hx
          have X1 := (L1.out.below HBA.out).below b7
          have hb7 := b7.size
          have hba := HBA.out.size
          have x2 := (HBA.out.block _ (lt_of_heap L2.out)).trans L2.out
          have X2 := hide ((b7.block _ (lt_of_heap x2)).trans x2)
          have l3 := L3.out.size
          have X3 := hide ((L3.out.trans (HBA.out.mono L3.out.size)).trans (b7.mono (by have := L3.out.size; omega)))
          have xb := X1.box
          unfold rtC at xb
          have x5 := cells_at xb 5
          have xf := frozen_at xb
          simp only [List.getElem?_toArray, List.getElem?_cons_succ, List.getElem?_cons_zero] at x5
          have Y1 := hide (X1.hop (l := D.hops) (owns_baseS hx (Nat.le_trans l3 hba)) (by omega))
          have Y2 := hide (((grown_set w7 (w.heap.size + 1) 5 (.slice xa D.hops.length xc)).block _ (lt_of_heap X2.out) (by simp)).trans X2.out)
          have Y3 := hide (X3.out.trans (set6_below (j := 5) (x := .slice xa D.hops.length xc) X1.box (show w.heap.size ≤ w.heap.size + 1 by omega)))
          clear xb X1 X2 X3 L1 L2 L3 L4 hx b7 HAA HBA x2 l3 hba
          go_wp2
          go_roundw
          case rel => exact ⟨k + 1, _, _, by omega, by go_num, Y1.out, Y2, ⟨true, rfl, HT.out⟩, Y3.out⟩
          case measure => simp [intOf]; omega
        case true =>
          have hqf : qf = 0 := hf0 rfl rfl
          subst hqf
          clear hf0
          by_cases hl : D.cost + p.1.cost < qc
          · clear HWORSE HLIKE
            have HL := hide hl
            have K1 := M1
            have K2 := M2
            have K3 := M3
            have KDU := HDU
            have kb := (K1.out.below ((Below.refl w3.heap.size w3).alloc (Nat.le_refl _) (.cells #[.int .i64 D.to, .int .i64 D.cost, .slice da D.hops.length dc] 93))).box
            unfold rtC at kb
            have k3 := cells_at kb 3
            have k4 := cells_at kb 4
            have k5 := cells_at kb 5
            have kh : w3.heap.size = w3.heap.size := by first | rfl | simp
            have kx := heap_alloc_new w3 (.cells #[.int .i64 D.to, .int .i64 D.cost, .slice da D.hops.length dc] 93)
            rw [kh] at kx
            have kd2 := cells_at kx 2
            simp only [List.getElem?_toArray, List.getElem?_cons_succ, List.getElem?_cons_zero] at k3 k4 k5 kd2
            clear kb kx kh
            have HT := hide (HLESS.out (fun _ => .inr ⟨rfl, HL.out⟩))
            have L1 := hide ((K1.out.far (0)).cost (D.cost + p.1.cost))
            have L2 := hide (show ((w3.setCell ⟨w.heap.size + 1, 4, none⟩ (.int .i64 (0))).setCell ⟨w.heap.size + 1, 3, none⟩ (.int .i64 (D.cost + p.1.cost))).heap[w.heap.size]? = some (.cells (rtC zeroQD (.slice none 0 0)) 26) from ((grown_set _ (w.heap.size + 1) 3 _).block _ (by first | omega | (simp; omega)) (by simp)).trans (((grown_set _ (w.heap.size + 1) 4 _).block _ (by first | omega | (simp; omega)) (by simp)).trans K2.out))
            have L3 := hide ((K3.out.trans (set6_below (j := 4) (x := .int .i64 (0)) K1.out.box (show w.heap.size ≤ w.heap.size + 1 by omega))).trans (set6_below (j := 3) (x := .int .i64 (D.cost + p.1.cost)) (K1.out.far (0)).box (show w.heap.size ≤ w.heap.size + 1 by omega)))
            have L4 := hide (set6_own (j := 3) (x := .int .i64 (D.cost + p.1.cost)) (K1.out.far (0)).box (set6_own (j := 4) (x := .int .i64 (0)) K1.out.box KDU.out))
            have hs6 : (((w3.setCell ⟨w.heap.size + 1, 4, none⟩ (.int .i64 (0))).setCell ⟨w.heap.size + 1, 3, none⟩ (.int .i64 (D.cost + p.1.cost))).alloc (.cells #[.int .i64 D.to, .int .i64 D.cost, .slice da D.hops.length dc] 93)).heap.size = w3.heap.size + 1 := by simp
            have LIT := World.ownsRow_lit (base := w.heap.size) (e := 3) (size := 1) (((w3.setCell ⟨w.heap.size + 1, 4, none⟩ (.int .i64 (0))).setCell ⟨w.heap.size + 1, 3, none⟩ (.int .i64 (D.cost + p.1.cost))).alloc (.cells #[.int .i64 D.to, .int .i64 D.cost, .slice da D.hops.length dc] 93)) #[] 0 (by rw [hs6]; omega) (by decide) rfl
            have HA := sadd_any (.slice (some ⟨(((w3.setCell ⟨w.heap.size + 1, 4, none⟩ (.int .i64 (0))).setCell ⟨w.heap.size + 1, 3, none⟩ (.int .i64 (D.cost + p.1.cost))).alloc (.cells #[.int .i64 D.to, .int .i64 D.cost, .slice da D.hops.length dc] 93)).heap.size, 0, none⟩) 0 0) (.slice da D.hops.length dc) [] D.hops ((((w3.setCell ⟨w.heap.size + 1, 4, none⟩ (.int .i64 (0))).setCell ⟨w.heap.size + 1, 3, none⟩ (.int .i64 (D.cost + p.1.cost))).alloc (.cells #[.int .i64 D.to, .int .i64 D.cost, .slice da D.hops.length dc] 93)).alloc (.cells #[] 3)) (by simp) (by omega) (hops_of (l := []) LIT) (hops_of ((L4.out.alloc _).alloc _))
            rw [hs6, HNIL.out] at HA
            have lx := heap_alloc_new ((w3.setCell ⟨w.heap.size + 1, 4, none⟩ (.int .i64 (0))).setCell ⟨w.heap.size + 1, 3, none⟩ (.int .i64 (D.cost + p.1.cost))) (.cells #[.int .i64 D.to, .int .i64 D.cost, .slice da D.hops.length dc] 93)
            rw [show ((w3.setCell ⟨w.heap.size + 1, 4, none⟩ (.int .i64 (0))).setCell ⟨w.heap.size + 1, 3, none⟩ (.int .i64 (D.cost + p.1.cost))).heap.size = w3.heap.size by simp] at lx
            have ld2 := cells_at ((((Below.refl (((w3.setCell ⟨w.heap.size + 1, 4, none⟩ (.int .i64 (0))).setCell ⟨w.heap.size + 1, 3, none⟩ (.int .i64 (D.cost + p.1.cost))).alloc (.cells #[.int .i64 D.to, .int .i64 D.cost, .slice da D.hops.length dc] 93)).heap.size (((w3.setCell ⟨w.heap.size + 1, 4, none⟩ (.int .i64 (0))).setCell ⟨w.heap.size + 1, 3, none⟩ (.int .i64 (D.cost + p.1.cost))).alloc (.cells #[.int .i64 D.to, .int .i64 D.cost, .slice da D.hops.length dc] 93))).alloc (Nat.le_refl _) (.cells #[] 3)).block _ (lt_of_heap lx)).trans lx) 2
            simp only [List.getElem?_toArray, List.getElem?_cons_succ, List.getElem?_cons_zero] at ld2
            clear lx
            have HAA := hide HA
            have HBA := hide (((Below.refl ((w3.setCell ⟨w.heap.size + 1, 4, none⟩ (.int .i64 (0))).setCell ⟨w.heap.size + 1, 3, none⟩ (.int .i64 (D.cost + p.1.cost))).heap.size ((w3.setCell ⟨w.heap.size + 1, 4, none⟩ (.int .i64 (0))).setCell ⟨w.heap.size + 1, 3, none⟩ (.int .i64 (D.cost + p.1.cost)))).alloc (Nat.le_refl _) (.cells #[.int .i64 D.to, .int .i64 D.cost, .slice da D.hops.length dc] 93)).alloc (by simp) (.cells #[] 3))
            clear HA LIT HLESS M1 M2 M3 K1 K2 K3 KDU HDU HNIL HMR
            go_wp2_with fail
            refine HAA.out.mono ?_
            rintro e w7 ⟨x, rfl, hx, b7⟩
            obtain ⟨xa, xc, rfl⟩ := owns_lenS hx
            have X1 := (L1.out.below HBA.out).below b7
            have hb7 := b7.size
            have hba := HBA.out.size
            have x2 := (HBA.out.block _ (lt_of_heap L2.out)).trans L2.out
            have X2 := hide ((b7.block _ (lt_of_heap x2)).trans x2)
            have l3 := L3.out.size
            have X3 := hide ((L3.out.trans (HBA.out.mono L3.out.size)).trans (b7.mono (by have := L3.out.size; omega)))
            have xb := X1.box
            unfold rtC at xb
            have x5 := cells_at xb 5
            have xf := frozen_at xb
            simp only [List.getElem?_toArray, List.getElem?_cons_succ, List.getElem?_cons_zero] at x5
            have Y1 := hide (X1.hop (l := D.hops) (owns_baseS hx (Nat.le_trans l3 hba)) (by omega))
            have Y2 := hide (((grown_set w7 (w.heap.size + 1) 5 (.slice xa D.hops.length xc)).block _ (lt_of_heap X2.out) (by simp)).trans X2.out)
            have Y3 := hide (X3.out.trans (set6_below (j := 5) (x := .slice xa D.hops.length xc) X1.box (show w.heap.size ≤ w.heap.size + 1 by omega)))
            clear xb X1 X2 X3 L1 L2 L3 L4 hx b7 HAA HBA x2 l3 hba
            go_wp2
            go_roundw
            case rel => exact ⟨k + 1, _, _, by omega, by go_num, Y1.out, Y2, ⟨true, rfl, HT.out⟩, Y3.out⟩
            case measure => simp [intOf]; omega
          by_cases he : D.cost + p.1.cost = qc
          · have hee : (D.cost + p.1.cost == qc) = true := by simpa using he
            have HE := hide he
            clear HLESS HWORSE he
            have HT := hide (show ThSt key false true ⟨true, key, 3, qc, 0, addL qh D.hops⟩ (thK (fsts ps) DS ES src key false (k + 1)) from (HLIKE.out rfl).congr (fun d => by rw [← HMR.out d, ← HE.out]; exact Iff.rfl))
            have K1 := M1
            have K2 := M2
            have K3 := M3
            have KDU := HDU
            have kb := (K1.out.below ((Below.refl w3.heap.size w3).alloc (Nat.le_refl _) (.cells #[.int .i64 D.to, .int .i64 D.cost, .slice da D.hops.length dc] 93))).box
            unfold rtC at kb
            have k3 := cells_at kb 3
            have k4 := cells_at kb 4
            have k5 := cells_at kb 5
            have kh : w3.heap.size = w3.heap.size := by first | rfl | simp
            have kx := heap_alloc_new w3 (.cells #[.int .i64 D.to, .int .i64 D.cost, .slice da D.hops.length dc] 93)
            rw [kh] at kx
            have kd2 := cells_at kx 2
            simp only [List.getElem?_toArray, List.getElem?_cons_succ, List.getElem?_cons_zero] at k3 k4 k5 kd2
            clear kb kx kh
            have hqh := K1.out.len
            have HA := hide (sadd_any (.slice ua qh.length uc) (.slice da D.hops.length dc) qh D.hops (w3.alloc (.cells #[.int .i64 D.to, .int .i64 D.cost, .slice da D.hops.length dc] 93)) (by simp only at hqh; omega) (by omega) (hops_of (K1.out.own.alloc _)) (hops_of (KDU.out.alloc _)))
            have BA5 := (Below.refl w3.heap.size w3).alloc (Nat.le_refl _) (.cells #[.int .i64 D.to, .int .i64 D.cost, .slice da D.hops.length dc] 93)
            have KK1 := hide (K1.out.below BA5)
            have KK2 := hide ((BA5.block _ (lt_of_heap K2.out)).trans K2.out)
            have KK3 := hide (K3.out.trans (BA5.mono K3.out.size))
            clear M1 M2 M3 KDU HDU HNIL HMR HLIKE hqh K1 K2 K3 BA5
            go_wp2_with fail
            refine HA.out.mono ?_
            rintro e w7 ⟨x, rfl, hx, b7⟩
            obtain ⟨xa, xc, rfl⟩ := owns_lenS hx
            have X1 := KK1.out.below b7
            have hb7 := b7.size
            have hk3s := KK3.out.size
            have X2 := hide ((b7.block _ (lt_of_heap KK2.out)).trans KK2.out)
            have X3 := hide (KK3.out.trans (b7.mono hk3s))
            have xb := X1.box
            unfold rtC at xb
            have x5 := cells_at xb 5
            have xf := frozen_at xb
            simp only [List.getElem?_toArray, List.getElem?_cons_succ, List.getElem?_cons_zero] at x5
            have Y1 := hide (X1.hop (l := addL qh D.hops) (owns_baseS hx hk3s) (addL_len _ _))
            have Y2 := hide (((grown_set w7 (w.heap.size + 1) 5 (.slice xa (addL qh D.hops).length xc)).block _ (by have := lt_of_heap X2.out; omega) (by simp)).trans X2.out)
            have Y3 := hide (X3.out.trans (set6_below (j := 5) (x := .slice xa (addL qh D.hops).length xc) X1.box (show w.heap.size ≤ w.heap.size + 1 by omega)))
            clear xb X1 X2 X3 KK1 KK2 KK3 hx b7 HA hk3s
            go_wp2
            go_roundw
            case rel => exact ⟨k + 1, _, _, by omega, by go_num, Y1.out, Y2, ⟨true, rfl, HT.out⟩, Y3.out⟩
            case measure => simp [intOf]; omega
          · have hee : (D.cost + p.1.cost == qc) = false := by simpa using he
            have HT := hide (HWORSE.out rfl (by intro h; rcases h with h | h; simp at h; exact hl h.2) (fun h => he h.2))
            clear HLESS HLIKE HWORSE he
            have K1 := M1
            have K2 := M2
            have K3 := M3
            have KDU := HDU
            have kb := (K1.out.below ((Below.refl w3.heap.size w3).alloc (Nat.le_refl _) (.cells #[.int .i64 D.to, .int .i64 D.cost, .slice da D.hops.length dc] 93))).box
            unfold rtC at kb
            have k3 := cells_at kb 3
            have k4 := cells_at kb 4
            have k5 := cells_at kb 5
            have kh : w3.heap.size = w3.heap.size := by first | rfl | simp
            have kx := heap_alloc_new w3 (.cells #[.int .i64 D.to, .int .i64 D.cost, .slice da D.hops.length dc] 93)
            rw [kh] at kx
            have kd2 := cells_at kx 2
            simp only [List.getElem?_toArray, List.getElem?_cons_succ, List.getElem?_cons_zero] at k3 k4 k5 kd2
            clear kb kx kh
            have BA5 := (Below.refl w3.heap.size w3).alloc (Nat.le_refl _) (.cells #[.int .i64 D.to, .int .i64 D.cost, .slice da D.hops.length dc] 93)
            have KK1 := hide (K1.out.below BA5)
            have KK2 := hide ((BA5.block _ (lt_of_heap K2.out)).trans K2.out)
            have KK3 := hide (K3.out.trans (BA5.mono K3.out.size))
            clear M1 M2 M3 KDU HDU HNIL HMR K1 K2 K3 BA5
            go_wp2
            go_roundw
            case rel => exact ⟨k + 1, _, _, by omega, by go_num, KK1.out, KK2, ⟨true, rfl, HT.out⟩, KK3.out⟩
            case measure => simp [intOf]; omega
      case true =>
        clear hk3 hf0 HMORE
        have hC1 : costT true p.1.cost D.cost = D.cost := rfl
        have hM1 : moreT true p.1.cost = p.1.cost := rfl
        rw [hC1] at hoc HLESS HWORSE
        rw [hM1] at HLESS HWORSE
        clear hC1 hM1 hom
        cases F
        case false =>
          clear HWORSE HLIKE hk4
          have K1 := hide (M1.out.kind 4)
          have K2 := hide (show (w3.setCell ⟨w.heap.size + 1, 2, none⟩ (.int .i64 4)).heap[w.heap.size]? = some (.cells (rtC zeroQD (.slice none 0 0)) 26) from ((grown_set w3 (w.heap.size + 1) 2 (.int .i64 4)).block _ (by omega) (by simp)).trans M2.out)
          have K3 := hide (M3.out.trans (set6_below (j := 2) (x := .int .i64 4) M1.out.box (show w.heap.size ≤ w.heap.size + 1 by omega)))
          have KDU := hide (set6_own (j := 2) (x := .int .i64 4) M1.out.box HDU.out)
          have kb := (K1.out.below ((Below.refl (w3.setCell ⟨w.heap.size + 1, 2, none⟩ (.int .i64 4)).heap.size (w3.setCell ⟨w.heap.size + 1, 2, none⟩ (.int .i64 4))).alloc (Nat.le_refl _) (.cells #[.int .i64 D.to, .int .i64 D.cost, .slice da D.hops.length dc] 93))).box
          unfold rtC at kb
          have k3 := cells_at kb 3
          have k4 := cells_at kb 4
          have k5 := cells_at kb 5
          have kh : (w3.setCell ⟨w.heap.size + 1, 2, none⟩ (.int .i64 4)).heap.size = w3.heap.size := by first | rfl | simp
          have kx := heap_alloc_new (w3.setCell ⟨w.heap.size + 1, 2, none⟩ (.int .i64 4)) (.cells #[.int .i64 D.to, .int .i64 D.cost, .slice da D.hops.length dc] 93)
          rw [kh] at kx
          have kd2 := cells_at kx 2
          simp only [List.getElem?_toArray, List.getElem?_cons_succ, List.getElem?_cons_zero] at k3 k4 k5 kd2
          clear kb kx kh
          have HT := hide (HLESS.out (fun h => by cases h))
          have L1 := hide ((K1.out.far (p.1.cost)).cost (D.cost))
          have L2 := hide (show (((w3.setCell ⟨w.heap.size + 1, 2, none⟩ (.int .i64 4)).setCell ⟨w.heap.size + 1, 4, none⟩ (.int .i64 (p.1.cost))).setCell ⟨w.heap.size + 1, 3, none⟩ (.int .i64 (D.cost))).heap[w.heap.size]? = some (.cells (rtC zeroQD (.slice none 0 0)) 26) from ((grown_set _ (w.heap.size + 1) 3 _).block _ (by first | omega | (simp; omega)) (by simp)).trans (((grown_set _ (w.heap.size + 1) 4 _).block _ (by first | omega | (simp; omega)) (by simp)).trans K2.out))
          have L3 := hide ((K3.out.trans (set6_below (j := 4) (x := .int .i64 (p.1.cost)) K1.out.box (show w.heap.size ≤ w.heap.size + 1 by omega))).trans (set6_below (j := 3) (x := .int .i64 (D.cost)) (K1.out.far (p.1.cost)).box (show w.heap.size ≤ w.heap.size + 1 by omega)))
          have L4 := hide (set6_own (j := 3) (x := .int .i64 (D.cost)) (K1.out.far (p.1.cost)).box (set6_own (j := 4) (x := .int .i64 (p.1.cost)) K1.out.box KDU.out))
          have hs6 : ((((w3.setCell ⟨w.heap.size + 1, 2, none⟩ (.int .i64 4)).setCell ⟨w.heap.size + 1, 4, none⟩ (.int .i64 (p.1.cost))).setCell ⟨w.heap.size + 1, 3, none⟩ (.int .i64 (D.cost))).alloc (.cells #[.int .i64 D.to, .int .i64 D.cost, .slice da D.hops.length dc] 93)).heap.size = w3.heap.size + 1 := by simp
          have LIT := World.ownsRow_lit (base := w.heap.size) (e := 3) (size := 1) ((((w3.setCell ⟨w.heap.size + 1, 2, none⟩ (.int .i64 4)).setCell ⟨w.heap.size + 1, 4, none⟩ (.int .i64 (p.1.cost))).setCell ⟨w.heap.size + 1, 3, none⟩ (.int .i64 (D.cost))).alloc (.cells #[.int .i64 D.to, .int .i64 D.cost, .slice da D.hops.length dc] 93)) #[] 0 (by rw [hs6]; omega) (by decide) rfl
          have HA := sadd_any (.slice (some ⟨((((w3.setCell ⟨w.heap.size + 1, 2, none⟩ (.int .i64 4)).setCell ⟨w.heap.size + 1, 4, none⟩ (.int .i64 (p.1.cost))).setCell ⟨w.heap.size + 1, 3, none⟩ (.int .i64 (D.cost))).alloc (.cells #[.int .i64 D.to, .int .i64 D.cost, .slice da D.hops.length dc] 93)).heap.size, 0, none⟩) 0 0) (.slice da D.hops.length dc) [] D.hops (((((w3.setCell ⟨w.heap.size + 1, 2, none⟩ (.int .i64 4)).setCell ⟨w.heap.size + 1, 4, none⟩ (.int .i64 (p.1.cost))).setCell ⟨w.heap.size + 1, 3, none⟩ (.int .i64 (D.cost))).alloc (.cells #[.int .i64 D.to, .int .i64 D.cost, .slice da D.hops.length dc] 93)).alloc (.cells #[] 3)) (by simp) (by omega) (hops_of (l := []) LIT) (hops_of ((L4.out.alloc _).alloc _))
          rw [hs6, HNIL.out] at HA
          have lx := heap_alloc_new (((w3.setCell ⟨w.heap.size + 1, 2, none⟩ (.int .i64 4)).setCell ⟨w.heap.size + 1, 4, none⟩ (.int .i64 (p.1.cost))).setCell ⟨w.heap.size + 1, 3, none⟩ (.int .i64 (D.cost))) (.cells #[.int .i64 D.to, .int .i64 D.cost, .slice da D.hops.length dc] 93)
          rw [show (((w3.setCell ⟨w.heap.size + 1, 2, none⟩ (.int .i64 4)).setCell ⟨w.heap.size + 1, 4, none⟩ (.int .i64 (p.1.cost))).setCell ⟨w.heap.size + 1, 3, none⟩ (.int .i64 (D.cost))).heap.size = w3.heap.size by simp] at lx
          have ld2 := cells_at ((((Below.refl ((((w3.setCell ⟨w.heap.size + 1, 2, none⟩ (.int .i64 4)).setCell ⟨w.heap.size + 1, 4, none⟩ (.int .i64 (p.1.cost))).setCell ⟨w.heap.size + 1, 3, none⟩ (.int .i64 (D.cost))).alloc (.cells #[.int .i64 D.to, .int .i64 D.cost, .slice da D.hops.length dc] 93)).heap.size ((((w3.setCell ⟨w.heap.size + 1, 2, none⟩ (.int .i64 4)).setCell ⟨w.heap.size + 1, 4, none⟩ (.int .i64 (p.1.cost))).setCell ⟨w.heap.size + 1, 3, none⟩ (.int .i64 (D.cost))).alloc (.cells #[.int .i64 D.to, .int .i64 D.cost, .slice da D.hops.length dc] 93))).alloc (Nat.le_refl _) (.cells #[] 3)).block _ (lt_of_heap lx)).trans lx) 2
          simp only [List.getElem?_toArray, List.getElem?_cons_succ, List.getElem?_cons_zero] at ld2
          clear lx
          have HAA := hide HA
          have HBA := hide (((Below.refl (((w3.setCell ⟨w.heap.size + 1, 2, none⟩ (.int .i64 4)).setCell ⟨w.heap.size + 1, 4, none⟩ (.int .i64 (p.1.cost))).setCell ⟨w.heap.size + 1, 3, none⟩ (.int .i64 (D.cost))).heap.size (((w3.setCell ⟨w.heap.size + 1, 2, none⟩ (.int .i64 4)).setCell ⟨w.heap.size + 1, 4, none⟩ (.int .i64 (p.1.cost))).setCell ⟨w.heap.size + 1, 3, none⟩ (.int .i64 (D.cost)))).alloc (Nat.le_refl _) (.cells #[.int .i64 D.to, .int .i64 D.cost, .slice da D.hops.length dc] 93)).alloc (by simp) (.cells #[] 3))
          clear HA LIT HLESS M1 M2 M3 K1 K2 K3 KDU HDU HNIL HMR
          go_wp2_with fail
          refine HAA.out.mono ?_
          rintro e w7 ⟨x, rfl, hx, b7⟩
          obtain ⟨xa, xc, rfl⟩ := owns_lenS hx
          have X1 := (L1.out.below HBA.out).below b7
          have hb7 := b7.size
          have hba := HBA.out.size
          have x2 := (HBA.out.block _ (lt_of_heap L2.out)).trans L2.out
          have X2 := hide ((b7.block _ (lt_of_heap x2)).trans x2)
          have l3 := L3.out.size
          have X3 := hide ((L3.out.trans (HBA.out.mono L3.out.size)).trans (b7.mono (by have := L3.out.size; omega)))
          have xb := X1.box
          unfold rtC at xb
          have x5 := cells_at xb 5
          have xf := frozen_at xb
          simp only [List.getElem?_toArray, List.getElem?_cons_succ, List.getElem?_cons_zero] at x5
          have Y1 := hide (X1.hop (l := D.hops) (owns_baseS hx (Nat.le_trans l3 hba)) (by omega))
          have Y2 := hide (((grown_set w7 (w.heap.size + 1) 5 (.slice xa D.hops.length xc)).block _ (lt_of_heap X2.out) (by simp)).trans X2.out)
          have Y3 := hide (X3.out.trans (set6_below (j := 5) (x := .slice xa D.hops.length xc) X1.box (show w.heap.size ≤ w.heap.size + 1 by omega)))
          clear xb X1 X2 X3 L1 L2 L3 L4 hx b7 HAA HBA x2 l3 hba
          go_wp2
          go_roundw
          case rel => exact ⟨k + 1, _, _, by omega, by go_num, Y1.out, Y2, ⟨true, rfl, HT.out⟩, Y3.out⟩
          case measure => simp [intOf]; omega
        case true =>
          have hkd : kd = 4 := hk4 rfl rfl
          subst hkd
          clear hk4
          by_cases hl : p.1.cost < qf
          · clear HWORSE HLIKE
            have HL := hide hl
            have K1 := hide (M1.out.kind 4)
            have K2 := hide (show (w3.setCell ⟨w.heap.size + 1, 2, none⟩ (.int .i64 4)).heap[w.heap.size]? = some (.cells (rtC zeroQD (.slice none 0 0)) 26) from ((grown_set w3 (w.heap.size + 1) 2 (.int .i64 4)).block _ (by omega) (by simp)).trans M2.out)
            have K3 := hide (M3.out.trans (set6_below (j := 2) (x := .int .i64 4) M1.out.box (show w.heap.size ≤ w.heap.size + 1 by omega)))
            have KDU := hide (set6_own (j := 2) (x := .int .i64 4) M1.out.box HDU.out)
            have kb := (K1.out.below ((Below.refl (w3.setCell ⟨w.heap.size + 1, 2, none⟩ (.int .i64 4)).heap.size (w3.setCell ⟨w.heap.size + 1, 2, none⟩ (.int .i64 4))).alloc (Nat.le_refl _) (.cells #[.int .i64 D.to, .int .i64 D.cost, .slice da D.hops.length dc] 93))).box
            unfold rtC at kb
            have k3 := cells_at kb 3
            have k4 := cells_at kb 4
            have k5 := cells_at kb 5
            have kh : (w3.setCell ⟨w.heap.size + 1, 2, none⟩ (.int .i64 4)).heap.size = w3.heap.size := by first | rfl | simp
            have kx := heap_alloc_new (w3.setCell ⟨w.heap.size + 1, 2, none⟩ (.int .i64 4)) (.cells #[.int .i64 D.to, .int .i64 D.cost, .slice da D.hops.length dc] 93)
            rw [kh] at kx
            have kd2 := cells_at kx 2
            simp only [List.getElem?_toArray, List.getElem?_cons_succ, List.getElem?_cons_zero] at k3 k4 k5 kd2
            clear kb kx kh
            have HT := hide (HLESS.out (fun _ => .inl HL.out))
            have L1 := hide ((K1.out.far (p.1.cost)).cost (D.cost))
            have L2 := hide (show (((w3.setCell ⟨w.heap.size + 1, 2, none⟩ (.int .i64 4)).setCell ⟨w.heap.size + 1, 4, none⟩ (.int .i64 (p.1.cost))).setCell ⟨w.heap.size + 1, 3, none⟩ (.int .i64 (D.cost))).heap[w.heap.size]? = some (.cells (rtC zeroQD (.slice none 0 0)) 26) from ((grown_set _ (w.heap.size + 1) 3 _).block _ (by first | omega | (simp; omega)) (by simp)).trans (((grown_set _ (w.heap.size + 1) 4 _).block _ (by first | omega | (simp; omega)) (by simp)).trans K2.out))
            have L3 := hide ((K3.out.trans (set6_below (j := 4) (x := .int .i64 (p.1.cost)) K1.out.box (show w.heap.size ≤ w.heap.size + 1 by omega))).trans (set6_below (j := 3) (x := .int .i64 (D.cost)) (K1.out.far (p.1.cost)).box (show w.heap.size ≤ w.heap.size + 1 by omega)))
            have L4 := hide (set6_own (j := 3) (x := .int .i64 (D.cost)) (K1.out.far (p.1.cost)).box (set6_own (j := 4) (x := .int .i64 (p.1.cost)) K1.out.box KDU.out))
            have hs6 : ((((w3.setCell ⟨w.heap.size + 1, 2, none⟩ (.int .i64 4)).setCell ⟨w.heap.size + 1, 4, none⟩ (.int .i64 (p.1.cost))).setCell ⟨w.heap.size + 1, 3, none⟩ (.int .i64 (D.cost))).alloc (.cells #[.int .i64 D.to, .int .i64 D.cost, .slice da D.hops.length dc] 93)).heap.size = w3.heap.size + 1 := by simp
            have LIT := World.ownsRow_lit (base := w.heap.size) (e := 3) (size := 1) ((((w3.setCell ⟨w.heap.size + 1, 2, none⟩ (.int .i64 4)).setCell ⟨w.heap.size + 1, 4, none⟩ (.int .i64 (p.1.cost))).setCell ⟨w.heap.size + 1, 3, none⟩ (.int .i64 (D.cost))).alloc (.cells #[.int .i64 D.to, .int .i64 D.cost, .slice da D.hops.length dc] 93)) #[] 0 (by rw [hs6]; omega) (by decide) rfl
            have HA := sadd_any (.slice (some ⟨((((w3.setCell ⟨w.heap.size + 1, 2, none⟩ (.int .i64 4)).setCell ⟨w.heap.size + 1, 4, none⟩ (.int .i64 (p.1.cost))).setCell ⟨w.heap.size + 1, 3, none⟩ (.int .i64 (D.cost))).alloc (.cells #[.int .i64 D.to, .int .i64 D.cost, .slice da D.hops.length dc] 93)).heap.size, 0, none⟩) 0 0) (.slice da D.hops.length dc) [] D.hops (((((w3.setCell ⟨w.heap.size + 1, 2, none⟩ (.int .i64 4)).setCell ⟨w.heap.size + 1, 4, none⟩ (.int .i64 (p.1.cost))).setCell ⟨w.heap.size + 1, 3, none⟩ (.int .i64 (D.cost))).alloc (.cells #[.int .i64 D.to, .int .i64 D.cost, .slice da D.hops.length dc] 93)).alloc (.cells #[] 3)) (by simp) (by omega) (hops_of (l := []) LIT) (hops_of ((L4.out.alloc _).alloc _))
            rw [hs6, HNIL.out] at HA
            have lx := heap_alloc_new (((w3.setCell ⟨w.heap.size + 1, 2, none⟩ (.int .i64 4)).setCell ⟨w.heap.size + 1, 4, none⟩ (.int .i64 (p.1.cost))).setCell ⟨w.heap.size + 1, 3, none⟩ (.int .i64 (D.cost))) (.cells #[.int .i64 D.to, .int .i64 D.cost, .slice da D.hops.length dc] 93)
            rw [show (((w3.setCell ⟨w.heap.size + 1, 2, none⟩ (.int .i64 4)).setCell ⟨w.heap.size + 1, 4, none⟩ (.int .i64 (p.1.cost))).setCell ⟨w.heap.size + 1, 3, none⟩ (.int .i64 (D.cost))).heap.size = w3.heap.size by simp] at lx
            have ld2 := cells_at ((((Below.refl ((((w3.setCell ⟨w.heap.size + 1, 2, none⟩ (.int .i64 4)).setCell ⟨w.heap.size + 1, 4, none⟩ (.int .i64 (p.1.cost))).setCell ⟨w.heap.size + 1, 3, none⟩ (.int .i64 (D.cost))).alloc (.cells #[.int .i64 D.to, .int .i64 D.cost, .slice da D.hops.length dc] 93)).heap.size ((((w3.setCell ⟨w.heap.size + 1, 2, none⟩ (.int .i64 4)).setCell ⟨w.heap.size + 1, 4, none⟩ (.int .i64 (p.1.cost))).setCell ⟨w.heap.size + 1, 3, none⟩ (.int .i64 (D.cost))).alloc (.cells #[.int .i64 D.to, .int .i64 D.cost, .slice da D.hops.length dc] 93))).alloc (Nat.le_refl _) (.cells #[] 3)).block _ (lt_of_heap lx)).trans lx) 2
            simp only [List.getElem?_toArray, List.getElem?_cons_succ, List.getElem?_cons_zero] at ld2
            clear lx
            have HAA := hide HA
            have HBA := hide (((Below.refl (((w3.setCell ⟨w.heap.size + 1, 2, none⟩ (.int .i64 4)).setCell ⟨w.heap.size + 1, 4, none⟩ (.int .i64 (p.1.cost))).setCell ⟨w.heap.size + 1, 3, none⟩ (.int .i64 (D.cost))).heap.size (((w3.setCell ⟨w.heap.size + 1, 2, none⟩ (.int .i64 4)).setCell ⟨w.heap.size + 1, 4, none⟩ (.int .i64 (p.1.cost))).setCell ⟨w.heap.size + 1, 3, none⟩ (.int .i64 (D.cost)))).alloc (Nat.le_refl _) (.cells #[.int .i64 D.to, .int .i64 D.cost, .slice da D.hops.length dc] 93)).alloc (by simp) (.cells #[] 3))
            clear HA LIT HLESS M1 M2 M3 K1 K2 K3 KDU HDU HNIL HMR
            go_wp2_with fail
            refine HAA.out.mono ?_
            rintro e w7 ⟨x, rfl, hx, b7⟩
            obtain ⟨xa, xc, rfl⟩ := owns_lenS hx
            have X1 := (L1.out.below HBA.out).below b7
            have hb7 := b7.size
            have hba := HBA.out.size
            have x2 := (HBA.out.block _ (lt_of_heap L2.out)).trans L2.out
            have X2 := hide ((b7.block _ (lt_of_heap x2)).trans x2)
            have l3 := L3.out.size
            have X3 := hide ((L3.out.trans (HBA.out.mono L3.out.size)).trans (b7.mono (by have := L3.out.size; omega)))
            have xb := X1.box
            unfold rtC at xb
            have x5 := cells_at xb 5
            have xf := frozen_at xb
            simp only [List.getElem?_toArray, List.getElem?_cons_succ, List.getElem?_cons_zero] at x5
            have Y1 := hide (X1.hop (l := D.hops) (owns_baseS hx (Nat.le_trans l3 hba)) (by omega))
            have Y2 := hide (((grown_set w7 (w.heap.size + 1) 5 (.slice xa D.hops.length xc)).block _ (lt_of_heap X2.out) (by simp)).trans X2.out)
            have Y3 := hide (X3.out.trans (set6_below (j := 5) (x := .slice xa D.hops.length xc) X1.box (show w.heap.size ≤ w.heap.size + 1 by omega)))
            clear xb X1 X2 X3 L1 L2 L3 L4 hx b7 HAA HBA x2 l3 hba
            go_wp2
            go_roundw
            case rel => exact ⟨k + 1, _, _, by omega, by go_num, Y1.out, Y2, ⟨true, rfl, HT.out⟩, Y3.out⟩
            case measure => simp [intOf]; omega
          by_cases hq : p.1.cost = qf
          · have hqq : (p.1.cost == qf) = true := by simpa using hq
            have HQF := hide hq
            clear hq
            by_cases hl2 : D.cost < qc
            · clear HWORSE HLIKE
              have HL := hide hl2
              have K1 := hide (M1.out.kind 4)
              have K2 := hide (show (w3.setCell ⟨w.heap.size + 1, 2, none⟩ (.int .i64 4)).heap[w.heap.size]? = some (.cells (rtC zeroQD (.slice none 0 0)) 26) from ((grown_set w3 (w.heap.size + 1) 2 (.int .i64 4)).block _ (by omega) (by simp)).trans M2.out)
              have K3 := hide (M3.out.trans (set6_below (j := 2) (x := .int .i64 4) M1.out.box (show w.heap.size ≤ w.heap.size + 1 by omega)))
              have KDU := hide (set6_own (j := 2) (x := .int .i64 4) M1.out.box HDU.out)
              have kb := (K1.out.below ((Below.refl (w3.setCell ⟨w.heap.size + 1, 2, none⟩ (.int .i64 4)).heap.size (w3.setCell ⟨w.heap.size + 1, 2, none⟩ (.int .i64 4))).alloc (Nat.le_refl _) (.cells #[.int .i64 D.to, .int .i64 D.cost, .slice da D.hops.length dc] 93))).box
              unfold rtC at kb
              have k3 := cells_at kb 3
              have k4 := cells_at kb 4
              have k5 := cells_at kb 5
              have kh : (w3.setCell ⟨w.heap.size + 1, 2, none⟩ (.int .i64 4)).heap.size = w3.heap.size := by first | rfl | simp
              have kx := heap_alloc_new (w3.setCell ⟨w.heap.size + 1, 2, none⟩ (.int .i64 4)) (.cells #[.int .i64 D.to, .int .i64 D.cost, .slice da D.hops.length dc] 93)
              rw [kh] at kx
              have kd2 := cells_at kx 2
              simp only [List.getElem?_toArray, List.getElem?_cons_succ, List.getElem?_cons_zero] at k3 k4 k5 kd2
              clear kb kx kh
              have HT := hide (HLESS.out (fun _ => .inr ⟨HQF.out, HL.out⟩))
              have L1 := hide ((K1.out.far (p.1.cost)).cost (D.cost))
              have L2 := hide (show (((w3.setCell ⟨w.heap.size + 1, 2, none⟩ (.int .i64 4)).setCell ⟨w.heap.size + 1, 4, none⟩ (.int .i64 (p.1.cost))).setCell ⟨w.heap.size + 1, 3, none⟩ (.int .i64 (D.cost))).heap[w.heap.size]? = some (.cells (rtC zeroQD (.slice none 0 0)) 26) from ((grown_set _ (w.heap.size + 1) 3 _).block _ (by first | omega | (simp; omega)) (by simp)).trans (((grown_set _ (w.heap.size + 1) 4 _).block _ (by first | omega | (simp; omega)) (by simp)).trans K2.out))
              have L3 := hide ((K3.out.trans (set6_below (j := 4) (x := .int .i64 (p.1.cost)) K1.out.box (show w.heap.size ≤ w.heap.size + 1 by omega))).trans (set6_below (j := 3) (x := .int .i64 (D.cost)) (K1.out.far (p.1.cost)).box (show w.heap.size ≤ w.heap.size + 1 by omega)))
              have L4 := hide (set6_own (j := 3) (x := .int .i64 (D.cost)) (K1.out.far (p.1.cost)).box (set6_own (j := 4) (x := .int .i64 (p.1.cost)) K1.out.box KDU.out))
              have hs6 : ((((w3.setCell ⟨w.heap.size + 1, 2, none⟩ (.int .i64 4)).setCell ⟨w.heap.size + 1, 4, none⟩ (.int .i64 (p.1.cost))).setCell ⟨w.heap.size + 1, 3, none⟩ (.int .i64 (D.cost))).alloc (.cells #[.int .i64 D.to, .int .i64 D.cost, .slice da D.hops.length dc] 93)).heap.size = w3.heap.size + 1 := by simp
              have LIT := World.ownsRow_lit (base := w.heap.size) (e := 3) (size := 1) ((((w3.setCell ⟨w.heap.size + 1, 2, none⟩ (.int .i64 4)).setCell ⟨w.heap.size + 1, 4, none⟩ (.int .i64 (p.1.cost))).setCell ⟨w.heap.size + 1, 3, none⟩ (.int .i64 (D.cost))).alloc (.cells #[.int .i64 D.to, .int .i64 D.cost, .slice da D.hops.length dc] 93)) #[] 0 (by rw [hs6]; omega) (by decide) rfl
              have HA := sadd_any (.slice (some ⟨((((w3.setCell ⟨w.heap.size + 1, 2, none⟩ (.int .i64 4)).setCell ⟨w.heap.size + 1, 4, none⟩ (.int .i64 (p.1.cost))).setCell ⟨w.heap.size + 1, 3, none⟩ (.int .i64 (D.cost))).alloc (.cells #[.int .i64 D.to, .int .i64 D.cost, .slice da D.hops.length dc] 93)).heap.size, 0, none⟩) 0 0) (.slice da D.hops.length dc) [] D.hops (((((w3.setCell ⟨w.heap.size + 1, 2, none⟩ (.int .i64 4)).setCell ⟨w.heap.size + 1, 4, none⟩ (.int .i64 (p.1.cost))).setCell ⟨w.heap.size + 1, 3, none⟩ (.int .i64 (D.cost))).alloc (.cells #[.int .i64 D.to, .int .i64 D.cost, .slice da D.hops.length dc] 93)).alloc (.cells #[] 3)) (by simp) (by omega) (hops_of (l := []) LIT) (hops_of ((L4.out.alloc _).alloc _))
              rw [hs6, HNIL.out] at HA
              have lx := heap_alloc_new (((w3.setCell ⟨w.heap.size + 1, 2, none⟩ (.int .i64 4)).setCell ⟨w.heap.size + 1, 4, none⟩ (.int .i64 (p.1.cost))).setCell ⟨w.heap.size + 1, 3, none⟩ (.int .i64 (D.cost))) (.cells #[.int .i64 D.to, .int .i64 D.cost, .slice da D.hops.length dc] 93)
              rw [show (((w3.setCell ⟨w.heap.size + 1, 2, none⟩ (.int .i64 4)).setCell ⟨w.heap.size + 1, 4, none⟩ (.int .i64 (p.1.cost))).setCell ⟨w.heap.size + 1, 3, none⟩ (.int .i64 (D.cost))).heap.size = w3.heap.size by simp] at lx
              have ld2 := cells_at ((((Below.refl ((((w3.setCell ⟨w.heap.size + 1, 2, none⟩ (.int .i64 4)).setCell ⟨w.heap.size + 1, 4, none⟩ (.int .i64 (p.1.cost))).setCell ⟨w.heap.size + 1, 3, none⟩ (.int .i64 (D.cost))).alloc (.cells #[.int .i64 D.to, .int .i64 D.cost, .slice da D.hops.length dc] 93)).heap.size ((((w3.setCell ⟨w.heap.size + 1, 2, none⟩ (.int .i64 4)).setCell ⟨w.heap.size + 1, 4, none⟩ (.int .i64 (p.1.cost))).setCell ⟨w.heap.size + 1, 3, none⟩ (.int .i64 (D.cost))).alloc (.cells #[.int .i64 D.to, .int .i64 D.cost, .slice da D.hops.length dc] 93))).alloc (Nat.le_refl _) (.cells #[] 3)).block _ (lt_of_heap lx)).trans lx) 2
              simp only [List.getElem?_toArray, List.getElem?_cons_succ, List.getElem?_cons_zero] at ld2
              clear lx
              have HAA := hide HA
              have HBA := hide (((Below.refl (((w3.setCell ⟨w.heap.size + 1, 2, none⟩ (.int .i64 4)).setCell ⟨w.heap.size + 1, 4, none⟩ (.int .i64 (p.1.cost))).setCell ⟨w.heap.size + 1, 3, none⟩ (.int .i64 (D.cost))).heap.size (((w3.setCell ⟨w.heap.size + 1, 2, none⟩ (.int .i64 4)).setCell ⟨w.heap.size + 1, 4, none⟩ (.int .i64 (p.1.cost))).setCell ⟨w.heap.size + 1, 3, none⟩ (.int .i64 (D.cost)))).alloc (Nat.le_refl _) (.cells #[.int .i64 D.to, .int .i64 D.cost, .slice da D.hops.length dc] 93)).alloc (by simp) (.cells #[] 3))
              clear HA LIT HLESS M1 M2 M3 K1 K2 K3 KDU HDU HNIL HMR
              go_wp2_with fail
              refine HAA.out.mono ?_
              rintro e w7 ⟨x, rfl, hx, b7⟩
              obtain ⟨xa, xc, rfl⟩ := owns_lenS hx
              have X1 := (L1.out.below HBA.out).below b7
              have hb7 := b7.size
              have hba := HBA.out.size
              have x2 := (HBA.out.block _ (lt_of_heap L2.out)).trans L2.out
              have X2 := hide ((b7.block _ (lt_of_heap x2)).trans x2)
              have l3 := L3.out.size
              have X3 := hide ((L3.out.trans (HBA.out.mono L3.out.size)).trans (b7.mono (by have := L3.out.size; omega)))
              have xb := X1.box
              unfold rtC at xb
              have x5 := cells_at xb 5
              have xf := frozen_at xb
              simp only [List.getElem?_toArray, List.getElem?_cons_succ, List.getElem?_cons_zero] at x5
              have Y1 := hide (X1.hop (l := D.hops) (owns_baseS hx (Nat.le_trans l3 hba)) (by omega))
              have Y2 := hide (((grown_set w7 (w.heap.size + 1) 5 (.slice xa D.hops.length xc)).block _ (lt_of_heap X2.out) (by simp)).trans X2.out)
              have Y3 := hide (X3.out.trans (set6_below (j := 5) (x := .slice xa D.hops.length xc) X1.box (show w.heap.size ≤ w.heap.size + 1 by omega)))
              clear xb X1 X2 X3 L1 L2 L3 L4 hx b7 HAA HBA x2 l3 hba
              go_wp2
              go_roundw
              case rel => exact ⟨k + 1, _, _, by omega, by go_num, Y1.out, Y2, ⟨true, rfl, HT.out⟩, Y3.out⟩
              case measure => simp [intOf]; omega
            by_cases he : D.cost = qc
            · have hee : (D.cost == qc) = true := by simpa using he
              have HE := hide he
              clear HLESS HWORSE he
              have HT := hide (show ThSt key true true ⟨true, key, 4, qc, qf, addL qh D.hops⟩ (thK (fsts ps) DS ES src key true (k + 1)) from (HLIKE.out rfl).congr (fun d => by rw [← HMR.out d, ← HE.out, ← HQF.out]; exact Iff.rfl))
              have K1 := hide (M1.out.kind 4)
              have K2 := hide (show (w3.setCell ⟨w.heap.size + 1, 2, none⟩ (.int .i64 4)).heap[w.heap.size]? = some (.cells (rtC zeroQD (.slice none 0 0)) 26) from ((grown_set w3 (w.heap.size + 1) 2 (.int .i64 4)).block _ (by omega) (by simp)).trans M2.out)
              have K3 := hide (M3.out.trans (set6_below (j := 2) (x := .int .i64 4) M1.out.box (show w.heap.size ≤ w.heap.size + 1 by omega)))
              have KDU := hide (set6_own (j := 2) (x := .int .i64 4) M1.out.box HDU.out)
              have kb := (K1.out.below ((Below.refl (w3.setCell ⟨w.heap.size + 1, 2, none⟩ (.int .i64 4)).heap.size (w3.setCell ⟨w.heap.size + 1, 2, none⟩ (.int .i64 4))).alloc (Nat.le_refl _) (.cells #[.int .i64 D.to, .int .i64 D.cost, .slice da D.hops.length dc] 93))).box
              unfold rtC at kb
              have k3 := cells_at kb 3
              have k4 := cells_at kb 4
              have k5 := cells_at kb 5
              have kh : (w3.setCell ⟨w.heap.size + 1, 2, none⟩ (.int .i64 4)).heap.size = w3.heap.size := by first | rfl | simp
              have kx := heap_alloc_new (w3.setCell ⟨w.heap.size + 1, 2, none⟩ (.int .i64 4)) (.cells #[.int .i64 D.to, .int .i64 D.cost, .slice da D.hops.length dc] 93)
              rw [kh] at kx
              have kd2 := cells_at kx 2
              simp only [List.getElem?_toArray, List.getElem?_cons_succ, List.getElem?_cons_zero] at k3 k4 k5 kd2
              clear kb kx kh
              have hqh := K1.out.len
              have HA := hide (sadd_any (.slice ua qh.length uc) (.slice da D.hops.length dc) qh D.hops ((w3.setCell ⟨w.heap.size + 1, 2, none⟩ (.int .i64 4)).alloc (.cells #[.int .i64 D.to, .int .i64 D.cost, .slice da D.hops.length dc] 93)) (by simp only at hqh; omega) (by omega) (hops_of (K1.out.own.alloc _)) (hops_of (KDU.out.alloc _)))
              have BA5 := (Below.refl (w3.setCell ⟨w.heap.size + 1, 2, none⟩ (.int .i64 4)).heap.size (w3.setCell ⟨w.heap.size + 1, 2, none⟩ (.int .i64 4))).alloc (Nat.le_refl _) (.cells #[.int .i64 D.to, .int .i64 D.cost, .slice da D.hops.length dc] 93)
              have KK1 := hide (K1.out.below BA5)
              have KK2 := hide ((BA5.block _ (lt_of_heap K2.out)).trans K2.out)
              have KK3 := hide (K3.out.trans (BA5.mono K3.out.size))
              clear M1 M2 M3 KDU HDU HNIL HMR HLIKE hqh K1 K2 K3 BA5
              go_wp2_with fail
              refine HA.out.mono ?_
              rintro e w7 ⟨x, rfl, hx, b7⟩
              obtain ⟨xa, xc, rfl⟩ := owns_lenS hx
              have X1 := KK1.out.below b7
              have hb7 := b7.size
              have hk3s := KK3.out.size
              have X2 := hide ((b7.block _ (lt_of_heap KK2.out)).trans KK2.out)
              have X3 := hide (KK3.out.trans (b7.mono hk3s))
              have xb := X1.box
              unfold rtC at xb
              have x5 := cells_at xb 5
              have xf := frozen_at xb
              simp only [List.getElem?_toArray, List.getElem?_cons_succ, List.getElem?_cons_zero] at x5
              have Y1 := hide (X1.hop (l := addL qh D.hops) (owns_baseS hx hk3s) (addL_len _ _))
              have Y2 := hide (((grown_set w7 (w.heap.size + 1) 5 (.slice xa (addL qh D.hops).length xc)).block _ (by have := lt_of_heap X2.out; omega) (by simp)).trans X2.out)
              have Y3 := hide (X3.out.trans (set6_below (j := 5) (x := .slice xa (addL qh D.hops).length xc) X1.box (show w.heap.size ≤ w.heap.size + 1 by omega)))
              clear xb X1 X2 X3 KK1 KK2 KK3 hx b7 HA hk3s
              go_wp2
              go_roundw
              case rel => exact ⟨k + 1, _, _, by omega, by go_num, Y1.out, Y2, ⟨true, rfl, HT.out⟩, Y3.out⟩
              case measure => simp [intOf]; omega
            · have hee : (D.cost == qc) = false := by simpa using he
              have HT := hide (HWORSE.out rfl (by intro h; rcases h with h | h; exact hl h; exact hl2 h.2) (fun h => he h.2))
              clear HLESS HLIKE HWORSE he
              have K1 := hide (M1.out.kind 4)
              have K2 := hide (show (w3.setCell ⟨w.heap.size + 1, 2, none⟩ (.int .i64 4)).heap[w.heap.size]? = some (.cells (rtC zeroQD (.slice none 0 0)) 26) from ((grown_set w3 (w.heap.size + 1) 2 (.int .i64 4)).block _ (by omega) (by simp)).trans M2.out)
              have K3 := hide (M3.out.trans (set6_below (j := 2) (x := .int .i64 4) M1.out.box (show w.heap.size ≤ w.heap.size + 1 by omega)))
              have KDU := hide (set6_own (j := 2) (x := .int .i64 4) M1.out.box HDU.out)
              have kb := (K1.out.below ((Below.refl (w3.setCell ⟨w.heap.size + 1, 2, none⟩ (.int .i64 4)).heap.size (w3.setCell ⟨w.heap.size + 1, 2, none⟩ (.int .i64 4))).alloc (Nat.le_refl _) (.cells #[.int .i64 D.to, .int .i64 D.cost, .slice da D.hops.length dc] 93))).box
              unfold rtC at kb
              have k3 := cells_at kb 3
              have k4 := cells_at kb 4
              have k5 := cells_at kb 5
              have kh : (w3.setCell ⟨w.heap.size + 1, 2, none⟩ (.int .i64 4)).heap.size = w3.heap.size := by first | rfl | simp
              have kx := heap_alloc_new (w3.setCell ⟨w.heap.size + 1, 2, none⟩ (.int .i64 4)) (.cells #[.int .i64 D.to, .int .i64 D.cost, .slice da D.hops.length dc] 93)
              rw [kh] at kx
              have kd2 := cells_at kx 2
              simp only [List.getElem?_toArray, List.getElem?_cons_succ, List.getElem?_cons_zero] at k3 k4 k5 kd2
              clear kb kx kh
              have BA5 := (Below.refl (w3.setCell ⟨w.heap.size + 1, 2, none⟩ (.int .i64 4)).heap.size (w3.setCell ⟨w.heap.size + 1, 2, none⟩ (.int .i64 4))).alloc (Nat.le_refl _) (.cells #[.int .i64 D.to, .int .i64 D.cost, .slice da D.hops.length dc] 93)
              have KK1 := hide (K1.out.below BA5)
              have KK2 := hide ((BA5.block _ (lt_of_heap K2.out)).trans K2.out)
              have KK3 := hide (K3.out.trans (BA5.mono K3.out.size))
              clear M1 M2 M3 KDU HDU HNIL HMR K1 K2 K3 BA5
              go_wp2
              go_roundw
              case rel => exact ⟨k + 1, _, _, by omega, by go_num, KK1.out, KK2, ⟨true, rfl, HT.out⟩, KK3.out⟩
              case measure => simp [intOf]; omega
          · have hqq : (p.1.cost == qf) = false := by simpa using hq
            have HT := hide (HWORSE.out rfl (by intro h; rcases h with h | h; exact hl h; exact hq h.1) (fun h => hq h.1))
            clear HLESS HLIKE HWORSE hq
            have K1 := hide (M1.out.kind 4)
            have K2 := hide (show (w3.setCell ⟨w.heap.size + 1, 2, none⟩ (.int .i64 4)).heap[w.heap.size]? = some (.cells (rtC zeroQD (.slice none 0 0)) 26) from ((grown_set w3 (w.heap.size + 1) 2 (.int .i64 4)).block _ (by omega) (by simp)).trans M2.out)
            have K3 := hide (M3.out.trans (set6_below (j := 2) (x := .int .i64 4) M1.out.box (show w.heap.size ≤ w.heap.size + 1 by omega)))
            have KDU := hide (set6_own (j := 2) (x := .int .i64 4) M1.out.box HDU.out)
            have kb := (K1.out.below ((Below.refl (w3.setCell ⟨w.heap.size + 1, 2, none⟩ (.int .i64 4)).heap.size (w3.setCell ⟨w.heap.size + 1, 2, none⟩ (.int .i64 4))).alloc (Nat.le_refl _) (.cells #[.int .i64 D.to, .int .i64 D.cost, .slice da D.hops.length dc] 93))).box
            unfold rtC at kb
            have k3 := cells_at kb 3
            have k4 := cells_at kb 4
            have k5 := cells_at kb 5
            have kh : (w3.setCell ⟨w.heap.size + 1, 2, none⟩ (.int .i64 4)).heap.size = w3.heap.size := by first | rfl | simp
            have kx := heap_alloc_new (w3.setCell ⟨w.heap.size + 1, 2, none⟩ (.int .i64 4)) (.cells #[.int .i64 D.to, .int .i64 D.cost, .slice da D.hops.length dc] 93)
            rw [kh] at kx
            have kd2 := cells_at kx 2
            simp only [List.getElem?_toArray, List.getElem?_cons_succ, List.getElem?_cons_zero] at k3 k4 k5 kd2
            clear kb kx kh
            have BA5 := (Below.refl (w3.setCell ⟨w.heap.size + 1, 2, none⟩ (.int .i64 4)).heap.size (w3.setCell ⟨w.heap.size + 1, 2, none⟩ (.int .i64 4))).alloc (Nat.le_refl _) (.cells #[.int .i64 D.to, .int .i64 D.cost, .slice da D.hops.length dc] 93)
            have KK1 := hide (K1.out.below BA5)
            have KK2 := hide ((BA5.block _ (lt_of_heap K2.out)).trans K2.out)
            have KK3 := hide (K3.out.trans (BA5.mono K3.out.size))
            clear M1 M2 M3 KDU HDU HNIL HMR K1 K2 K3 BA5
            go_wp2
            go_roundw
            case rel => exact ⟨k + 1, _, _, by omega, by go_num, KK1.out, KK2, ⟨true, rfl, HT.out⟩, KK3.out⟩
            case measure => simp [intOf]; omega
    · have hkn : ¬ (k : Int) < (ps.length : Int) := by omega
      have hke : k = ps.length := by omega
      subst hke
      have hb0 := hbx.box
      unfold rtC at hb0
      have e0 := cells_at hb0 0
      have e1 := cells_at hb0 1
      have e2 := cells_at hb0 2
      have e3 := cells_at hb0 3
      have e4 := cells_at hb0 4
      have e5 := cells_at hb0 5
      simp only [List.getElem?_toArray, List.getElem?_cons_succ, List.getElem?_cons_zero] at e0 e1 e2 e3 e4 e5
      have hr0 := HRZ.out
      unfold rtC at hr0
      have o0 := cells_at hr0 0
      have o1 := cells_at hr0 1
      have o2 := cells_at hr0 2
      have o3 := cells_at hr0 3
      have o4 := cells_at hr0 4
      have o5 := cells_at hr0 5
      have of := frozen_at hr0
      simp only [List.getElem?_toArray, List.getElem?_cons_succ, List.getElem?_cons_zero] at o0 o1 o2 o3 o4 o5
      have EE := rt_end w.heap.size (⟨true, key, kd, qc, qf, qh⟩ : RtD) (.slice ua qh.length uc) hr0 hbx.own
      have FF := hide EE.1
      have OO := hide EE.2.1
      have BB := hide (BW.trans EE.2.2)
      have HL := hide hbx.len
      have HST := hide hst
      clear EE hb0 hr0 hbx HRZ hst BW HOW HHOP HGO HRT HV
      go_wp2_with fail
      (try simp only [Exit.inBlock, Exit.then])
      refine bodyPost_ret (results_cell_row_tmpW rfl _ _ w.heap.size 26 (rtC ⟨true, key, kd, qc, qf, qh⟩ (.slice ua qh.length uc)) (0, 0) _ rfl FF.out Tryd.underlying26 rfl (by kernel_rfl)) rfl ?_
      exact ⟨_, _, _, rfl, ⟨F, rfl, HST.out⟩, HL.out, OO.out, BB.out⟩
end Go.Proofs.YthmmpmbnpfhloaaDoor
