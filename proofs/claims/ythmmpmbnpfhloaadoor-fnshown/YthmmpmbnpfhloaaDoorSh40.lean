/-
  spec.RoutesOf over a right store: its walk.
-/
import Derived.Test.YthmmpmbnpfhloaaDoorSh32
import Derived.Test.YthmmpmbnpfhloaaDoorSh39
import Derived.Deep.RegionHeldLaw
import Derived.Deep.AppendLies
namespace Go.Proofs.YthmmpmbnpfhloaaDoor
open Go.RowKit

set_option linter.unusedSimpArgs false

/-- all but rows of routes is as it was -/
def TyK (W W' : World) : Prop := ∀ (k : Nat) (cs : Array Value) (t : TypeId) (fr : Nat × Nat), W.heap[k]? = some (.cells cs t fr) → t ≠ 26 → W'.heap[k]? = W.heap[k]?

theorem TyK.refl (W : World) : TyK W W := fun _ _ _ _ _ _ => rfl

theorem TyK.trans {A B C : World} (h : TyK A B) (k : TyK B C) : TyK A C := fun j cs t fr h1 h2 => by
  have e := h j cs t fr h1 h2
  rw [← e]
  exact k j cs t fr (e.trans h1) h2

theorem TyK.below {W W' : World} (h : Below W.heap.size W W') : TyK W W' := fun j _ _ _ h1 _ => h.block j (lt_of_heap h1)

theorem TyK.grown {W W' : World} {base n : Nat} {v : Value} {xs : List Value} (h : W.ownsRow base 26 6 v n xs) (hg : W.grownBy W' v.ownBlock) : TyK W W' := fun j cs t fr h1 h2 => by
  refine hg.block j (lt_of_heap h1) (fun e => ?_)
  rcases h.2 with ⟨e0, _⟩ | ⟨g, cap, cur, e0, _, hh, _⟩
  · rw [e0] at e; simp [Value.ownBlock] at e
  · rw [e0] at e
    simp [Value.ownBlock] at e
    subst e
    rw [hh] at h1
    injection h1 with h1
    injection h1 with _ h3 _
    exact h2 h3.symm

theorem TyK.ways {W W' : World} (h : TyK W W') {lo hi : Nat} {v : Value} {ps : List WP} (hw : WaysOwn W lo hi v ps) : WaysOwn W' lo hi v ps := hw.typed (by decide) (by decide) h

theorem TyK.hop {W W' : World} (h : TyK W W') {lo hi : Nat} {q : QP} (hq : RHopOwn W lo hi q) : RHopOwn W' lo hi q := ⟨owns_typed hq.1 (by decide) h, hq.2⟩

theorem grown_drewR {W W' : World} {r : Option Nat} (h : W.drew.grownBy W' r) : W.grownBy W' r := ⟨h.os, h.tape, h.output, h.size, h.block⟩

theorem info_route : ∃ i, Tryd.prog.info? 26 = some i ∧ i.zero = some (.agg (rtC zeroQD (.slice none 0 0))) ∧ i.size = 6 ∧ i.bytes = 64 := by
  have hi := Tryd.infoRoute
  cases hf : Tryd.prog.info? 26 with
  | none => rw [hf] at hi; cases hi
  | some i0 =>
    rw [hf] at hi
    simp only [Option.map_some, Option.some.injEq, Prod.mk.injEq] at hi
    exact ⟨i0, rfl, hi.1, hi.2.1, hi.2.2⟩

theorem ways_below {W : World} {lo hi : Nat} {v : Value} {ps : List WP} {k : Nat} {p : WP} (h : WaysOwn W lo hi v ps) (hp : ps[k]? = some p) : ∃ g cap, v = .slice (some ⟨g, 0, none⟩) ps.length cap ∧ g < W.heap.size ∧ W.cell? ⟨g, k * 3, none⟩ = some (.int .i64 p.1.to) ∧ W.cell? ⟨g, k * 3 + 1, none⟩ = some (.int .i64 p.1.cost) ∧ W.cell? ⟨g, k * 3 + 2, none⟩ = some p.2 ∧ ∃ cs, W.heap[g]? = some (.cells cs 93) := by
  obtain ⟨hk, _⟩ := List.getElem?_eq_some_iff.1 hp
  rcases h.row.2 with ⟨_, e0⟩ | ⟨g, cap, cur, e0, hb, hg, hnn, hm, hs, ht⟩
  · omega
  · have hc : ∀ r, r < 3 → W.cell? ⟨g, k * 3 + r, none⟩ = (encW p)[r]? := fun r hr => by
      have h1 := flat_get encW_len ps k r p hp hr
      rw [← ht, List.getElem?_take, if_pos (by omega), Array.getElem?_toList] at h1
      rw [← h1]
      simp [World.cell?, hg]
    exact ⟨g, cap, e0, lt_of_heap hg, hc 0 (by omega), hc 1 (by omega), hc 2 (by omega), cur, hg⟩

theorem thing_off {key : Int} {far : Bool} {q : RtD} {S : WayD → Prop} (hk : 1 ≤ key ∧ key ≤ 9) (h : ThIn key far q) (hb : BestOf key S (some ⟨key, rank2 far q.far q.cost, q.hops⟩)) (hS : ∀ w, S w → GoodT w ∧ w.to = key) : OffR q ∧ wOf q = ⟨key, rank2 far q.far q.cost, q.hops⟩ := by
  have h6 := hb.hop6 (fun w hw => (hS w hw).1.hop6)
  refine ⟨⟨h.thing, ?_, h.cost, ⟨h.far.1, h.far.2.1⟩, hb.2.2.2.1, h6, by rw [h.to]; exact hk⟩, ?_⟩
  · have h1 := h.kind
    cases far
    · exact .inl ⟨by simpa using h1, h.far.2.2 rfl⟩
    · exact .inr (by simpa using h1)
  · have h1 := h.kind
    unfold wOf rank2
    rw [h.to]
    cases far
    · have h3 : q.kind = 3 := by simpa using h1
      rw [h3]
      simp
    · have h4 : q.kind = 4 := by simpa using h1
      rw [h4]
      simp

/-- routes with hops of the call's own -/
def HopsR (W : World) (lo : Nat) (ts : List QP) : Prop := (∀ q ∈ ts, RHopOwn W lo W.heap.size q) ∧ ts.Pairwise ApartQ

set_option maxRecDepth 100000 in
set_option maxHeartbeats 8000000 in
theorem sroutes_any (v u : Value) (ps : List RP) (al : List Int) (hi : Nat) (border : Bool) (src : Int) (w : World) (hv : RecsIn w hi v ps) (ha : HopsAt w u al hi) (hhi : hi ≤ w.heap.size) (hn : tot ps ≤ 1048576) (hal : al.length ≤ 1048576) (hs : storeB (fsts ps) = true) :
    Calls Tryd.prog 30 #[v, u, .bool border, .int .i64 src] w fun e w' => ∃ x qs, e = .returned x ∧ IsRoutes (fsts ps) al border src (fstsQ qs) ∧ RtsOwn w' w.heap.size w'.heap.size x qs ∧ Below w.heap.size w w' := by
  obtain ⟨i0, hi0, hz0, hs0, hb0⟩ := info_route
  have HI0 := hide hi0
  have HZ0 := hide hz0
  have HS0 := hide hs0
  have HB0 := hide hb0
  clear hi0 hz0 hs0 hb0
  obtain ⟨a1, c1, rfl⟩ := owns_lenS hv.row
  obtain ⟨a2, c2, rfl⟩ := ha.shape
  have LIT := World.ownsRow_lit (base := w.heap.size) (e := 26) (size := 6) w #[] 0 (Nat.le_refl _) (by unfold maxLen; omega) (by simp)
  have B0 : Below w.heap.size w (w.alloc (.cells #[] 26)) := (Below.refl _ _).alloc (Nat.le_refl _) _
  obtain ⟨w0, hw0⟩ : ∃ W, W = w.alloc (.cells #[] 26) := ⟨_, rfl⟩
  rw [← hw0] at LIT B0
  have HWI := hide (swithin_any (.slice a1 ps.length c1) (.slice a2 al.length c2) ps al hi src w0 (hv.below B0 hhi) (RowAt.later ha B0 hhi) (Nat.le_trans hhi B0.size) hn hal)
  have HBY := hide (fun W (hb : Below w.heap.size w W) => sbeyond_any (.slice a1 ps.length c1) (.slice a2 al.length c2) ps al hi border src W (hv.below hb hhi) (RowAt.later ha hb hhi) (Nat.le_trans hhi hb.size) hn hal)
  have HSK := hide (fun W (hb : Below w.heap.size w W) => sstoreOk_any (.slice a1 ps.length c1) ps W hn (RecsAt.more ((hv.below hb hhi).at) (Nat.le_trans hhi hb.size)))
  rw [hs] at HSK
  have HTH := hide (fun uw ub ws bs lo1 hi1 lo2 hi2 key far W (hb : Below w.heap.size w W) hw hh1 hnw hu hh2 hnb hgd hge => sthingR_any (.slice a1 ps.length c1) uw ub ps ws bs hi lo1 hi1 lo2 hi2 key src far W (hv.below hb hhi) (Nat.le_trans hhi hb.size) hn hw hh1 hnw hu hh2 hnb hs hgd hge)
  have HLIT := hide LIT
  have HSS := hide hs
  clear hv ha hs LIT
  go_enter Tryd.func30, Tryd.ntmps30
  go_wp2_with fail
  rw [← hw0]
  clear hw0
  refine HWI.out.mono ?_
  rintro e w1 ⟨uw, ws, rfl, hbw, how, b1⟩
  obtain ⟨wsa, wsc, rfl⟩ := owns_lenS how.row
  have hb0s := B0.size
  have hb1 := b1.size
  have B1 : Below w.heap.size w w1 := B0.trans (b1.mono hb0s)
  have htw := best_totS hbw (fun to d h => withinS_good h)
  have HL1 := hide (owns_below HLIT.out b1 (Nat.le_refl _))
  have HW1 := hide how
  have HBW := hide hbw
  clear how hbw HWI HLIT b1
  go_wp2_with fail
  refine (HBY.out _ B1).mono ?_
  rintro e w2 ⟨ub, bs, rfl, hbb, hob, b2⟩
  obtain ⟨bsa, bsc, rfl⟩ := owns_lenS hob.row
  have hb2 := b2.size
  have htb := best_totS hbb (fun to d h => beyondS_good h)
  have B2 : Below w.heap.size w w2 := B1.trans (b2.mono B1.size)
  have HL2 := hide (owns_below HL1.out b2 (Nat.le_refl _))
  have HW2 := hide (HW1.out.below b2 (Nat.le_refl _))
  have HB2 := hide hob
  have HBB := hide hbb
  clear hob hbb HBY HL1 HW1 b2
  go_wp2_with fail
  refine (HSK.out _ B2).mono ?_
  rintro e w3 ⟨rfl, b3⟩
  have hb3 := b3.size
  have B3 : Below w.heap.size w w3 := B2.trans (b3.mono B2.size)
  have HL3 := hide (owns_below HL2.out b3 (Nat.le_refl _))
  have HW3 := hide (HW2.out.below b3 (by omega))
  have HB3 := hide (HB2.out.below b3 (Nat.le_refl _))
  have hwl := totW_len ws
  have hbl := totW_len bs
  have hws42 : ws.length ≤ 42 := Nat.le_trans hwl htw
  have hbs42 : bs.length ≤ 42 := Nat.le_trans hbl htb
  have hb13 := B1.size
  have HGD := hide (show GoodL (fstsW ws) from HBW.out.good (fun to d h => withinS_good h))
  have HGE := hide (show GoodL (fstsW bs) from HBB.out.good (fun to d h => beyondS_good h))
  clear HL2 HW2 HB2 HSK b3
  go_wp2
  go_loopw [12, 9] (fun i o wr => ∃ (k : Nat) (x : Value) (qW : List QP), k ≤ ws.length ∧ i = .int .i64 (k : Int) ∧ o = x ∧ Hid (qW = nodesQ 1 src (ws.take k)) ∧ qW.length ≤ 0 + k ∧ wr.ownsRow w.heap.size 26 6 x qW.length (flat encQ qW) ∧ TyK w3 wr ∧ Below w.heap.size w wr ∧ w3.heap.size ≤ wr.heap.size) (fun i _ _ => ws.length - (intOf i).toNat)
  case atStart => exact ⟨0, _, _, by omega, rfl, rfl, hide (show ([] : List QP) = nodesQ 1 src (ws.take 0) by simp [nodesQ]), by simp, HL3.out, TyK.refl _, B3, Nat.le_refl _⟩
  case round =>
    obtain ⟨k, x, qW, hk, rfl, rfl, HQ, hql, hown, hty, hnx, hsz⟩ := hrel
    obtain ⟨xa, xc, rfl⟩ := owns_lenS hown
    by_cases hlt : k < ws.length
    · obtain ⟨p, hp⟩ : ∃ p, ws[k]? = some p := ⟨ws[k], List.getElem?_eq_getElem hlt⟩
      have hwr := hty.ways HW3.out
      obtain ⟨gw, cw, hve, hgw, c0, c1, c2, cs, hcs⟩ := ways_below hwr hp
      cases hve
      obtain ⟨pa, pc, hpn⟩ := owns_lenS (hwr.nears p (List.mem_of_getElem? hp)).1
      rw [hpn] at c2
      have hki : (0 : Int) ≤ (k : Int) := by omega
      have hkj : (k : Int) < (ws.length : Int) := by omega
      have HP := hide hp
      have HPN := hide hpn
      by_cases ht : p.1.to = src
      · have hd : (p.1.to != src) = false := by simpa using ht
        have HN := hide (show qW = nodesQ 1 src (ws.take (k + 1)) from by rw [HQ.out, nodesQ_no HP.out ht])
        have N1 := hide hown
        have N2 := hide hty
        have N3 := hide hnx
        clear hp hpn hown hnx hty hwr ht HQ HP HPN hcs
        go_wp2
        go_roundw
        case rel => exact ⟨k + 1, _, qW, by omega, by go_num, rfl, HN, by omega, N1.out, N2.out, N3.out, hsz⟩
        case measure => simp [intOf]; omega
      · have hd : (p.1.to != src) = true := by simpa using ht
        have HN := hide (show qW ++ [(nodeQ 1 (p.1, .slice pa p.1.hops.length pc))] = nodesQ 1 src (ws.take (k + 1)) from by
          rw [nodesQ_yes HP.out ht, HQ.out, ← HPN.out])
        have BA : Below wr.heap.size wr (wr.alloc (.cells (encQ (nodeQ 1 (p.1, .slice pa p.1.hops.length pc))).toArray 26)) := (Below.refl _ _).alloc (Nat.le_refl _) _
        have OW := hide (hown.alloc (.cells (encQ (nodeQ 1 (p.1, .slice pa p.1.hops.length pc))).toArray 26))
        have HOB := hide (fun j (hj : (Value.slice xa qW.length xc).ownBlock = some j) => (hown.lt j hj).1)
        have HNE := hide (show some gw ≠ (Value.slice xa qW.length xc).ownBlock from own_type_ne2 hown hcs (by decide))
        have HTY := hide hty
        have HNX := hide hnx
        have HBA := hide BA
        have NEWS := hide (news_struct (w := wr) (cs := encQ (nodeQ 1 (p.1, .slice pa p.1.hops.length pc))) (t := 26))
        have HTG := hide (fun W (hg : (wr.alloc (.cells (encQ (nodeQ 1 (p.1, .slice pa p.1.hops.length pc))).toArray 26)).grownBy W (Value.slice xa qW.length xc).ownBlock) => TyK.grown OW.out hg)
        have hgw2 : gw < (wr.alloc (.cells (encQ (nodeQ 1 (p.1, .slice pa p.1.hops.length pc))).toArray 26)).heap.size := Nat.lt_of_lt_of_le hgw BA.size
        have hwls := hnx.size
        clear hp hpn hown hnx hty hwr ht HQ HP HPN hcs BA
        go_wp2
        go_region_held_law (fun W => W.cell? ⟨gw, k * 3, none⟩ = some (.int .i64 p.1.to) ∧ W.cell? ⟨gw, k * 3 + 1, none⟩ = some (.int .i64 p.1.cost) ∧ W.cell? ⟨gw, k * 3 + 2, none⟩ = some (.slice pa p.1.hops.length pc)) (first | go_keep | (go_split_ands; refine ⟨?_, ?_, ?_⟩ <;> (rw [hgrow.cell_far _ hgw2 HNE.out]; assumption))) ((refine step_append_lies _ (by rfl) _ _ _ (by rfl) w.heap.size 26 i0 (.agg (rtC zeroQD (.slice none 0 0))) 6 64 Tryd.underlying33 HI0.out HZ0.out HS0.out HB0.out rfl (by omega) (.slice xa qW.length xc) qW.length (flat encQ qW) (by rfl) OW.out ⟨wr.heap.size, 0, none⟩ 1 1 (encQ (nodeQ 1 (p.1, .slice pa p.1.hops.length pc))) (by rfl) rfl NEWS.out (encQ_one _ _ _ _) (by omega) (by unfold maxLen; omega) (by omega) (by simp; omega) (wr.heap.size + 1) (by simp) ?_; intro gn cn w6 hown' hgrow hat hlt6))
        rename_i hheld
        clear hheld
        have hgr := grown_drewR hgrow
        have N1 := hide (show w6.ownsRow w.heap.size 26 6 (.slice (some ⟨gn, 0, none⟩) (qW.length + 1) cn) (qW ++ [(nodeQ 1 (p.1, .slice pa p.1.hops.length pc))]).length (flat encQ (qW ++ [(nodeQ 1 (p.1, .slice pa p.1.hops.length pc))])) by rw [flat_append, List.length_append]; simpa [flat] using hown')
        have N2 := hide (HTY.out.trans ((TyK.below HBA.out).trans (HTG.out w6 hgr)))
        have N3 := hide ((HNX.out.trans (HBA.out.mono hwls)).grown (show (wr.alloc (.cells (encQ (nodeQ 1 (p.1, .slice pa p.1.hops.length pc))).toArray 26)).grownBy w6 (Value.slice xa qW.length xc).ownBlock from hgr) (Nat.le_trans hwls HBA.out.size) HOB.out)
        have hsz6 : w3.heap.size ≤ w6.heap.size := Nat.le_trans hsz (Nat.le_trans HBA.out.size (show (wr.alloc (.cells (encQ (nodeQ 1 (p.1, .slice pa p.1.hops.length pc))).toArray 26)).grownBy w6 (Value.slice xa qW.length xc).ownBlock from hgr).size)
        clear hown' hgrow hgr hat hlt6 OW HOB HNE HTY HNX HBA NEWS HTG hgw2 c0 c1 c2
        go_wp2
        go_roundw
        case rel => exact ⟨k + 1, _, qW ++ [(nodeQ 1 (p.1, .slice pa p.1.hops.length pc))], by omega, by go_num, rfl, HN, by simp; omega, N1.out, N2.out, N3.out, hsz6⟩
        case measure => simp [intOf]; omega
    · have hkn : ¬ (k : Int) < (ws.length : Int) := by omega
      have hke : ws.take k = ws := List.take_of_length_le (by omega)
      have HQE := hide (show qW = nodesQ 1 src ws by rw [HQ.out, hke])
      clear HQ hke
      have HN1 := hide hown
      have HT1 := hide hty
      have HX1 := hide hnx
      have hl1 : qW.length ≤ ws.length := by rw [HQE.out]; exact nodesQ_len 1 src ws
      have HQW := HQE
      clear hown hty hnx hql HQE
      rename World => wa
      go_wp2
      go_loopw [13, 9] (fun i o wr => ∃ (k : Nat) (x : Value) (qB : List QP), k ≤ bs.length ∧ i = .int .i64 (k : Int) ∧ o = x ∧ Hid (qB = qW ++ nodesQ 2 src (bs.take k)) ∧ qB.length ≤ qW.length + k ∧ wr.ownsRow w.heap.size 26 6 x qB.length (flat encQ qB) ∧ TyK w3 wr ∧ Below w.heap.size w wr ∧ w3.heap.size ≤ wr.heap.size) (fun i _ _ => bs.length - (intOf i).toNat)
      case atStart => exact ⟨0, _, _, by omega, rfl, rfl, hide (show qW = qW ++ nodesQ 2 src (bs.take 0) by simp [nodesQ]), by omega, HN1.out, HT1.out, HX1.out, hsz⟩
      case round =>
        obtain ⟨k, x, qB, hk, rfl, rfl, HQ, hql, hown, hty, hnx, hsz⟩ := hrel
        obtain ⟨xa, xc, rfl⟩ := owns_lenS hown
        by_cases hlt : k < bs.length
        · obtain ⟨p, hp⟩ : ∃ p, bs[k]? = some p := ⟨bs[k], List.getElem?_eq_getElem hlt⟩
          have hwr := hty.ways HB3.out
          obtain ⟨gw, cw, hve, hgw, c0, c1, c2, cs, hcs⟩ := ways_below hwr hp
          cases hve
          obtain ⟨pa, pc, hpn⟩ := owns_lenS (hwr.nears p (List.mem_of_getElem? hp)).1
          rw [hpn] at c2
          have hki : (0 : Int) ≤ (k : Int) := by omega
          have hkj : (k : Int) < (bs.length : Int) := by omega
          have HP := hide hp
          have HPN := hide hpn
          by_cases ht : p.1.to = src
          · have hd : (p.1.to != src) = false := by simpa using ht
            have HN := hide (show qB = qW ++ nodesQ 2 src (bs.take (k + 1)) from by rw [HQ.out, nodesQ_no HP.out ht])
            have N1 := hide hown
            have N2 := hide hty
            have N3 := hide hnx
            clear hp hpn hown hnx hty hwr ht HQ HP HPN hcs
            go_wp2
            go_roundw
            case rel => exact ⟨k + 1, _, qB, by omega, by go_num, rfl, HN, by omega, N1.out, N2.out, N3.out, hsz⟩
            case measure => simp [intOf]; omega
          · have hd : (p.1.to != src) = true := by simpa using ht
            have HN := hide (show qB ++ [(nodeQ 2 (p.1, .slice pa p.1.hops.length pc))] = qW ++ nodesQ 2 src (bs.take (k + 1)) from by
              rw [nodesQ_yes HP.out ht, HQ.out, ← HPN.out, List.append_assoc])
            have BA : Below wr.heap.size wr (wr.alloc (.cells (encQ (nodeQ 2 (p.1, .slice pa p.1.hops.length pc))).toArray 26)) := (Below.refl _ _).alloc (Nat.le_refl _) _
            have OW := hide (hown.alloc (.cells (encQ (nodeQ 2 (p.1, .slice pa p.1.hops.length pc))).toArray 26))
            have HOB := hide (fun j (hj : (Value.slice xa qB.length xc).ownBlock = some j) => (hown.lt j hj).1)
            have HNE := hide (show some gw ≠ (Value.slice xa qB.length xc).ownBlock from own_type_ne2 hown hcs (by decide))
            have HTY := hide hty
            have HNX := hide hnx
            have HBA := hide BA
            have NEWS := hide (news_struct (w := wr) (cs := encQ (nodeQ 2 (p.1, .slice pa p.1.hops.length pc))) (t := 26))
            have HTG := hide (fun W (hg : (wr.alloc (.cells (encQ (nodeQ 2 (p.1, .slice pa p.1.hops.length pc))).toArray 26)).grownBy W (Value.slice xa qB.length xc).ownBlock) => TyK.grown OW.out hg)
            have hgw2 : gw < (wr.alloc (.cells (encQ (nodeQ 2 (p.1, .slice pa p.1.hops.length pc))).toArray 26)).heap.size := Nat.lt_of_lt_of_le hgw BA.size
            have hwls := hnx.size
            clear hp hpn hown hnx hty hwr ht HQ HP HPN hcs BA
            go_wp2
            go_region_held_law (fun W => W.cell? ⟨gw, k * 3, none⟩ = some (.int .i64 p.1.to) ∧ W.cell? ⟨gw, k * 3 + 1, none⟩ = some (.int .i64 p.1.cost) ∧ W.cell? ⟨gw, k * 3 + 2, none⟩ = some (.slice pa p.1.hops.length pc)) (first | go_keep | (go_split_ands; refine ⟨?_, ?_, ?_⟩ <;> (rw [hgrow.cell_far _ hgw2 HNE.out]; assumption))) ((refine step_append_lies _ (by rfl) _ _ _ (by rfl) w.heap.size 26 i0 (.agg (rtC zeroQD (.slice none 0 0))) 6 64 Tryd.underlying33 HI0.out HZ0.out HS0.out HB0.out rfl (by omega) (.slice xa qB.length xc) qB.length (flat encQ qB) (by rfl) OW.out ⟨wr.heap.size, 0, none⟩ 1 1 (encQ (nodeQ 2 (p.1, .slice pa p.1.hops.length pc))) (by rfl) rfl NEWS.out (encQ_one _ _ _ _) (by omega) (by unfold maxLen; omega) (by omega) (by simp; omega) (wr.heap.size + 1) (by simp) ?_; intro gn cn w6 hown' hgrow hat hlt6))
            rename_i hheld
            clear hheld
            have hgr := grown_drewR hgrow
            have N1 := hide (show w6.ownsRow w.heap.size 26 6 (.slice (some ⟨gn, 0, none⟩) (qB.length + 1) cn) (qB ++ [(nodeQ 2 (p.1, .slice pa p.1.hops.length pc))]).length (flat encQ (qB ++ [(nodeQ 2 (p.1, .slice pa p.1.hops.length pc))])) by rw [flat_append, List.length_append]; simpa [flat] using hown')
            have N2 := hide (HTY.out.trans ((TyK.below HBA.out).trans (HTG.out w6 hgr)))
            have N3 := hide ((HNX.out.trans (HBA.out.mono hwls)).grown (show (wr.alloc (.cells (encQ (nodeQ 2 (p.1, .slice pa p.1.hops.length pc))).toArray 26)).grownBy w6 (Value.slice xa qB.length xc).ownBlock from hgr) (Nat.le_trans hwls HBA.out.size) HOB.out)
            have hsz6 : w3.heap.size ≤ w6.heap.size := Nat.le_trans hsz (Nat.le_trans HBA.out.size (show (wr.alloc (.cells (encQ (nodeQ 2 (p.1, .slice pa p.1.hops.length pc))).toArray 26)).grownBy w6 (Value.slice xa qB.length xc).ownBlock from hgr).size)
            clear hown' hgrow hgr hat hlt6 OW HOB HNE HTY HNX HBA NEWS HTG hgw2 c0 c1 c2
            go_wp2
            go_roundw
            case rel => exact ⟨k + 1, _, qB ++ [(nodeQ 2 (p.1, .slice pa p.1.hops.length pc))], by omega, by go_num, rfl, HN, by simp; omega, N1.out, N2.out, N3.out, hsz6⟩
            case measure => simp [intOf]; omega
        · have hkn : ¬ (k : Int) < (bs.length : Int) := by omega
          have hke : bs.take k = bs := List.take_of_length_le (by omega)
          have HQE := hide (show qB = qW ++ nodesQ 2 src bs by rw [HQ.out, hke])
          clear HQ hke
          have HN1 := hide hown
          have HT1 := hide hty
          have HX1 := hide hnx
          have hl2 : qB.length ≤ ws.length + bs.length := by rw [HQE.out, List.length_append]; have := nodesQ_len 2 src bs; omega
          have hqb84 : qB.length ≤ 84 := by omega
          have HQB := HQE
          clear hown hty hnx hql HQE
          rename World => wb
          go_wp2
          go_loopw [14, 9] (fun i o wr => ∃ (t : Nat) (x : Value) (ts : List QP), 1 ≤ t ∧ t ≤ 10 ∧ i = .int .i64 (t : Int) ∧ o = x ∧ wr.ownsRow w.heap.size 26 6 x (qB ++ ts).length (flat encQ (qB ++ ts)) ∧ Hid (IsBest (fun to d => to < (t : Int) ∧ thingS (fsts ps) (fstsW ws) (fstsW bs) src to d) ((fstsQ ts).map wOf)) ∧ OffL ts ∧ HopsR wr w3.heap.size ts ∧ TyK w3 wr ∧ Below w.heap.size w wr ∧ w3.heap.size ≤ wr.heap.size) (fun i _ _ => 11 - (intOf i).toNat)
          case atStart => exact ⟨1, _, [], by omega, by omega, rfl, rfl, by rw [List.append_nil]; exact HN1.out, hide (isBest_none (fun to d ⟨h1, h2⟩ => by have h3 := thingS_good HSS.out HGD.out HGE.out h2; have := h3.1.node; rw [h3.2] at this; omega)), fun b hb => by simp at hb, ⟨fun q hq => by simp at hq, by simp⟩, HT1.out, HX1.out, hsz⟩
          case round =>
            obtain ⟨t, x, ts, ht1, ht10, rfl, rfl, hown, HB, hol, hhop, hty, hnx, hsz⟩ := hrel
            clear HN1 HT1 HX1
            rw [List.length_append] at hown
            obtain ⟨xa, xc, rfl⟩ := owns_lenS hown
            have hlen9 : ts.length ≤ 9 := by
              have h := things_len HB.out.1 (fun d hd => by
                obtain ⟨y, hy, rfl⟩ := List.mem_map.1 hd
                obtain ⟨b, hb, rfl⟩ := List.mem_map.1 hy
                exact (hol b hb).node)
              simpa [fstsQ] using h
            by_cases ht : t ≤ 9
            · have ht9 : (t : Int) ≤ 9 := by omega
              have hw := hty.ways HW3.out
              have hbw2 := hty.ways HB3.out
              have HC1 := hide (HTH.out (.slice wsa ws.length wsc) (.slice bsa bs.length bsc) ws bs w0.heap.size w1.heap.size w1.heap.size w2.heap.size (t : Int) false wr hnx hw (by omega) (by omega) hbw2 (by omega) (by omega) HGD.out HGE.out)
              have HC2 := hide (fun W (hb : Below wr.heap.size wr W) => HTH.out (.slice wsa ws.length wsc) (.slice bsa bs.length bsc) ws bs w0.heap.size w1.heap.size w1.heap.size w2.heap.size (t : Int) true W (hnx.trans (hb.mono hnx.size)) (hw.below hb (by omega)) (by have := hb.size; omega) (by omega) (hbw2.below hb (by omega)) (by have := hb.size; omega) (by omega) HGD.out HGE.out)
              have HOWN := hide hown
              have HOL := hide hol
              have HHOP := hide hhop
              have HTY := hide hty
              have HNX := hide hnx
              have hwr := hnx.size
              clear hown hol hhop hty hnx hw hbw2
              go_wp2_with fail
              refine HC1.out.mono ?_
              rintro e w4 ⟨q, u, fv, rfl, hth, hq6, hu, b4⟩
              obtain ⟨ua, uc, rfl⟩ := owns_lenS hu
              obtain ⟨F1, hF1, hst⟩ := hth
              subst hF1
              have hb4 := b4.size
              unfold rtC
              cases F1
              case true =>
                have hTN := thing_near HSS.out HGD.out HGE.out (by simpa [fsts] using hst)
                have HTN := hide hTN
                have HBQ := hide (b4.alloc hb4 (.cells #[.bool q.thing, .int .i64 q.to, .int .i64 q.kind, .int .i64 q.cost, .int .i64 q.far, .slice ua q.hops.length uc] 26))
                have BXQ := hide (show BoxR (w4.alloc (.cells #[.bool q.thing, .int .i64 q.to, .int .i64 q.kind, .int .i64 q.cost, .int .i64 q.far, .slice ua q.hops.length uc] 26)) w4.heap.size wr.heap.size q (.slice ua q.hops.length uc) from ⟨heap_alloc_new _ _, hu.alloc _, hq6⟩)
                have HSQ := hide (show (w4.alloc (.cells #[.bool q.thing, .int .i64 q.to, .int .i64 q.kind, .int .i64 q.cost, .int .i64 q.far, .slice ua q.hops.length uc] 26)).heap.size = w4.heap.size + 1 by simp)
                clear hTN hst hu b4 HC1 HC2
                have LITI := World.ownsRow_lit (base := wr.heap.size) (e := 3) (size := 1) (w4.alloc (.cells #[.bool q.thing, .int .i64 q.to, .int .i64 q.kind, .int .i64 q.cost, .int .i64 q.far, .slice ua q.hops.length uc] 26)) #[] 0 HBQ.out.size (by decide) rfl
                rw [HSQ.out] at LITI
                have OWL := hide LITI
                have OWU := hide (BXQ.out.own.alloc (.cells #[] 3))
                have LB := (Below.refl (w4.alloc (.cells #[.bool q.thing, .int .i64 q.to, .int .i64 q.kind, .int .i64 q.cost, .int .i64 q.far, .slice ua q.hops.length uc] 26)).heap.size (w4.alloc (.cells #[.bool q.thing, .int .i64 q.to, .int .i64 q.kind, .int .i64 q.cost, .int .i64 q.far, .slice ua q.hops.length uc] 26))).alloc (Nat.le_refl _) (.cells #[] 3)
                have lbx := (LB.block _ (lt_of_heap BXQ.out.box)).trans BXQ.out.box
                unfold rtC at lbx
                have lb5 := cells_at lbx 5
                simp only [List.getElem?_toArray, List.getElem?_cons_succ, List.getElem?_cons_zero] at lb5
                have hq6b := BXQ.out.len
                have HLB := hide LB
                have HLX := hide lbx
                have hzl : w4.heap.size < w4.heap.size + 1 := by have h1 := lt_of_heap BXQ.out.box; have h2 := HSQ.out; omega
                clear LITI LB lbx
                go_wp2_with (first
                  | (at_builtin; refine append_row5 int_flat1 (by omega) intE_one (by omega) _ rfl _ _ 24 rfl wr.heap.size 3 Tryd.underlying24 (.int .i64 0) rfl Tryd.info3 _ [] rfl OWL.out wr.heap.size _ q.hops rfl OWU.out (by simp only [List.length_nil]; omega) (Nat.le_trans HBQ.out.size HLB.out.size) ?_))
                intro vh wh hownh hgrowh
                (try simp only [List.nil_append] at hownh)
                obtain ⟨ha, hc, rfl⟩ := owns_lenS hownh
                have zb := (hgrowh.block _ (lt_of_heap HLX.out) (by first | (simp [Value.ownBlock]; done) | (simp [Value.ownBlock]; omega))).trans HLX.out
                have zf := frozen_at zb
                have z0 := cells_at zb 0
                have z1 := cells_at zb 1
                have z2 := cells_at zb 2
                have z3 := cells_at zb 3
                have z4 := cells_at zb 4
                have z5 := cells_at zb 5
                simp only [List.getElem?_toArray, List.getElem?_cons_succ, List.getElem?_cons_zero] at z0 z1 z2 z3 z4 z5
                have BH : Below wr.heap.size wr wh := (HBQ.out.trans (HLB.out.mono HBQ.out.size)).grown hgrowh (by have h1 := HBQ.out.size; have h2 := HLB.out.size; omega) (fun j hj => (OWL.out.lt j hj).1)
                have bxh : BoxR wh (w4.heap.size) wr.heap.size q (.slice ua q.hops.length uc) := ⟨zb, owns_keepB OWU.out (fun j hj => hgrowh.block j (OWU.out.lt j hj).2 (by have h1 := (BXQ.out.own.lt j hj).2; rw [HSQ.out] at h1; simp [Value.ownBlock]; omega)), hq6b⟩
                have bxn := bxh.hop (l := q.hops) hownh hq6b
                have hzw : wr.heap.size ≤ w4.heap.size := by omega
                have BN : Below wr.heap.size wr (wh.setCell ⟨w4.heap.size, 5, none⟩ (.slice ha q.hops.length hc)) := BH.trans (set6_below zb hzw)
                have hsn : (wh.setCell ⟨w4.heap.size, 5, none⟩ (.slice ha q.hops.length hc)).heap.size = wh.heap.size := by simp
                have BN2 := hide (BN.alloc BN.size (.cells (encQ ((q, .slice ha q.hops.length hc) : QP)).toArray 26))
                have OW := hide (show ((wh.setCell ⟨w4.heap.size, 5, none⟩ (.slice ha q.hops.length hc)).alloc (.cells (encQ ((q, .slice ha q.hops.length hc) : QP)).toArray 26)).ownsRow w.heap.size 26 6 (.slice xa (qB.length + ts.length) xc) (qB ++ ts).length (flat encQ (qB ++ ts)) by rw [List.length_append]; exact (owns_below HOWN.out BN (Nat.le_refl _)).alloc _)
                have HXN := hide (bxn.own.alloc (.cells (encQ ((q, .slice ha q.hops.length hc) : QP)).toArray 26))
                have HSN := hide hsn
                have NEWS := hide (news_struct (w := (wh.setCell ⟨w4.heap.size, 5, none⟩ (.slice ha q.hops.length hc))) (cs := encQ ((q, .slice ha q.hops.length hc) : QP)) (t := 26))
                rw [hsn] at NEWS
                have HOB := hide (fun j (hj : (Value.slice xa (qB.length + ts.length) xc).ownBlock = some j) => (HOWN.out.lt j hj).1)
                have hww := BN.size
                clear bxn BN hsn bxh zb hgrowh hownh OWL OWU HLB HLX BXQ HBQ HSQ BH lb5
                go_wp2_with (first
                  | (at_builtin; refine append_struct6 encQ_len (by omega) (by omega) _ rfl _ _ 33 rfl w.heap.size 26 Tryd.underlying33 (.agg (rtC zeroQD (.slice none 0 0))) rfl Tryd.infoRoute _ (qB ++ ts) ((q, .slice ha q.hops.length hc) : QP) (encQ_one _ _ _ _) rfl OW.out ⟨wh.heap.size, 0, none⟩ 1 rfl NEWS.out (by rw [List.length_append]; omega) (Nat.le_trans hwr BN2.out.size) ?_))
                intro v' w6 hown' hgrow hat
                have TY6 := (TyK.below BN2.out).trans (TyK.grown OW.out hgrow)
                have hs6 := Nat.le_trans BN2.out.size hgrow.size
                have hOF := thing_off (by omega) HTN.out.1 HTN.out.2 (fun d hd => thingS_good HSS.out HGD.out HGE.out hd)
                have N1 := hide (show w6.ownsRow w.heap.size 26 6 v' (qB ++ (ts ++ [((q, .slice ha q.hops.length hc) : QP)])).length (flat encQ (qB ++ (ts ++ [((q, .slice ha q.hops.length hc) : QP)]))) by rw [← List.append_assoc]; simpa using hown')
                have N2 := hide (show IsBest (fun to d => to < ((t + 1 : Nat) : Int) ∧ thingS (fsts ps) (fstsW ws) (fstsW bs) src to d) ((fstsQ (ts ++ [((q, .slice ha q.hops.length hc) : QP)])).map wOf) by
                  rw [show ((t + 1 : Nat) : Int) = (t : Int) + 1 by omega, fstsQ_append, List.map_append]
                  refine HB.out.push (S := thingS (fsts ps) (fstsW ws) (fstsW bs) src) (t := (t : Int)) (b := wOf q) ?_
                  rw [hOF.2]
                  exact HTN.out.2)
                have N3 := hide (offL_push (p := ((q, .slice ha q.hops.length hc) : QP)) HOL.out hOF.1)
                have N4 := hide (show HopsR w6 w3.heap.size (ts ++ [((q, .slice ha q.hops.length hc) : QP)]) from ⟨fun r hr => by
                  rcases List.mem_append.1 hr with h1 | h1
                  · exact (TY6.hop (HHOP.out.1 r h1)).wide (Nat.le_refl _) hs6
                  · have : r = ((q, .slice ha q.hops.length hc) : QP) := by simpa using h1
                    subst this
                    have h2 := owns_typed HXN.out (by decide) (TyK.grown OW.out hgrow)
                    exact ⟨owns_baseS h2 hsz, fun j hj => (h2.lt j hj).2⟩, by
                  rw [List.pairwise_append]
                  refine ⟨HHOP.out.2, by simp, fun a ha' b hb' j hj e => ?_⟩
                  have : b = ((q, .slice ha q.hops.length hc) : QP) := by simpa using hb'
                  subst this
                  have h1 := (HHOP.out.1 a ha').2 j hj
                  have h2 := (HXN.out.lt j e).1
                  omega⟩)
                have N5 := hide (HTY.out.trans TY6)
                have N6 := hide ((HNX.out.trans (BN2.out.mono hwr)).grown hgrow (Nat.le_trans hwr BN2.out.size) HOB.out)
                have hsz6 : w3.heap.size ≤ w6.heap.size := by omega
                obtain ⟨va, vc, rfl⟩ := owns_lenS hown'
                clear hown' hgrow hat OW BN2 HXN NEWS HOB TY6 hOF HTN HOWN HHOP HOL HB HTY HNX HSN
                go_wp2
                go_roundw
                case rel => exact ⟨t + 1, _, ts ++ [((q, .slice ha q.hops.length hc) : QP)], by omega, by omega, by go_num, rfl, N1.out, N2, N3.out, N4.out, N5.out, N6.out, hsz6⟩
                case measure => simp [intOf]; omega
              case false =>
                have HN0 := hide (show ThSt (t : Int) false false q (thK (fsts ps) (fstsW ws) (fstsW bs) src (t : Int) false (fsts ps).length) by simpa [fsts] using hst)
                have BA4 : Below wr.heap.size wr (w4.alloc (.cells #[.bool q.thing, .int .i64 q.to, .int .i64 q.kind, .int .i64 q.cost, .int .i64 q.far, .slice ua q.hops.length uc] 26)) := b4.alloc hb4 _
                have HBX4 := hide (heap_alloc_new w4 (.cells #[.bool q.thing, .int .i64 q.to, .int .i64 q.kind, .int .i64 q.cost, .int .i64 q.far, .slice ua q.hops.length uc] 26))
                have HCC := hide (HC2.out _ BA4)
                have HBA4 := hide BA4
                have h4s : (w4.alloc (.cells #[.bool q.thing, .int .i64 q.to, .int .i64 q.kind, .int .i64 q.cost, .int .i64 q.far, .slice ua q.hops.length uc] 26)).heap.size = w4.heap.size + 1 := by simp
                have H4S := hide h4s
                clear hst hu b4 HC1 HC2 BA4 h4s
                go_wp2_with fail
                refine HCC.out.mono ?_
                rintro e w5 ⟨q2, u2, fv2, rfl, hth2, hq62, hu2, b5⟩
                obtain ⟨ua2, uc2, rfl⟩ := owns_lenS hu2
                obtain ⟨F2, hF2, hst2⟩ := hth2
                subst hF2
                unfold rtC
                have hb5 := b5.size
                have hx5 := (b5.block _ (lt_of_heap HBX4.out)).trans HBX4.out
                have x0 := cells_at hx5 0
                have x1 := cells_at hx5 1
                have x2 := cells_at hx5 2
                have x3 := cells_at hx5 3
                have x4 := cells_at hx5 4
                have x5 := cells_at hx5 5
                have xf := frozen_at hx5
                simp only [List.getElem?_toArray, List.getElem?_cons_succ, List.getElem?_cons_zero] at x0 x1 x2 x3 x4 x5
                have h4s := H4S.out
                have RE := rt_end (q := q) (y := .slice ua q.hops.length uc) wr.heap.size q2 (.slice ua2 q2.hops.length uc2) hx5 (owns_baseS hu2 (by omega))
                have B5 : Below wr.heap.size wr w5 := HBA4.out.trans (b5.mono HBA4.out.size)
                have HBQ := hide (B5.trans (RE.2.2.mono hb4))
                have BXQ := hide (show BoxR (putR6 w5 w4.heap.size q2 (.slice ua2 q2.hops.length uc2)) w4.heap.size wr.heap.size q2 (.slice ua2 q2.hops.length uc2) from ⟨RE.1, RE.2.1, hq62⟩)
                have HSQ := hide (show (putR6 w5 w4.heap.size q2 (.slice ua2 q2.hops.length uc2)).heap.size = w5.heap.size by simp [putR6])
                have hTF := thing_far (HN0.out) (by simpa [fsts] using hst2)
                clear RE B5 hu2 b5 hx5 HBX4 HBA4 HCC H4S h4s hst2 HN0
                cases F2
                case true =>
                  have hTF2 := hTF
                  unfold ThSt at hTF2
                  rw [if_pos rfl] at hTF2
                  have HTN := hide hTF2
                  clear hTF hTF2
                  have LITI := World.ownsRow_lit (base := wr.heap.size) (e := 3) (size := 1) (putR6 w5 w4.heap.size q2 (.slice ua2 q2.hops.length uc2)) #[] 0 HBQ.out.size (by decide) rfl
                  rw [HSQ.out] at LITI
                  have OWL := hide LITI
                  have OWU := hide (BXQ.out.own.alloc (.cells #[] 3))
                  have LB := (Below.refl (putR6 w5 w4.heap.size q2 (.slice ua2 q2.hops.length uc2)).heap.size (putR6 w5 w4.heap.size q2 (.slice ua2 q2.hops.length uc2))).alloc (Nat.le_refl _) (.cells #[] 3)
                  have lbx := (LB.block _ (lt_of_heap BXQ.out.box)).trans BXQ.out.box
                  unfold rtC at lbx
                  have lb5 := cells_at lbx 5
                  unfold putR6 at lb5
                  simp only [List.getElem?_toArray, List.getElem?_cons_succ, List.getElem?_cons_zero] at lb5
                  have hq6b := BXQ.out.len
                  have HLB := hide LB
                  have HLX := hide lbx
                  have hzl : w4.heap.size < w5.heap.size := by have h1 := lt_of_heap BXQ.out.box; have h2 := HSQ.out; omega
                  clear LITI LB lbx
                  go_wp2_with (first
                    | (at_builtin; refine append_row5 int_flat1 (by omega) intE_one (by omega) _ rfl _ _ 24 rfl wr.heap.size 3 Tryd.underlying24 (.int .i64 0) rfl Tryd.info3 _ [] rfl OWL.out wr.heap.size _ q2.hops rfl OWU.out (by simp only [List.length_nil]; omega) (Nat.le_trans HBQ.out.size HLB.out.size) ?_))
                  intro vh wh hownh hgrowh
                  (try simp only [List.nil_append] at hownh)
                  obtain ⟨ha, hc, rfl⟩ := owns_lenS hownh
                  have zb := (hgrowh.block _ (lt_of_heap HLX.out) (by first | (simp [Value.ownBlock]; done) | (simp [Value.ownBlock]; omega))).trans HLX.out
                  have zf := frozen_at zb
                  have z0 := cells_at zb 0
                  have z1 := cells_at zb 1
                  have z2 := cells_at zb 2
                  have z3 := cells_at zb 3
                  have z4 := cells_at zb 4
                  have z5 := cells_at zb 5
                  simp only [List.getElem?_toArray, List.getElem?_cons_succ, List.getElem?_cons_zero] at z0 z1 z2 z3 z4 z5
                  have BH : Below wr.heap.size wr wh := (HBQ.out.trans (HLB.out.mono HBQ.out.size)).grown hgrowh (by have h1 := HBQ.out.size; have h2 := HLB.out.size; omega) (fun j hj => (OWL.out.lt j hj).1)
                  have bxh : BoxR wh (w4.heap.size) wr.heap.size q2 (.slice ua2 q2.hops.length uc2) := ⟨zb, owns_keepB OWU.out (fun j hj => hgrowh.block j (OWU.out.lt j hj).2 (by have h1 := (BXQ.out.own.lt j hj).2; rw [HSQ.out] at h1; simp [Value.ownBlock]; omega)), hq6b⟩
                  have bxn := bxh.hop (l := q2.hops) hownh hq6b
                  have hzw : wr.heap.size ≤ w4.heap.size := by omega
                  have BN : Below wr.heap.size wr (wh.setCell ⟨w4.heap.size, 5, none⟩ (.slice ha q2.hops.length hc)) := BH.trans (set6_below zb hzw)
                  have hsn : (wh.setCell ⟨w4.heap.size, 5, none⟩ (.slice ha q2.hops.length hc)).heap.size = wh.heap.size := by simp
                  have BN2 := hide (BN.alloc BN.size (.cells (encQ ((q2, .slice ha q2.hops.length hc) : QP)).toArray 26))
                  have OW := hide (show ((wh.setCell ⟨w4.heap.size, 5, none⟩ (.slice ha q2.hops.length hc)).alloc (.cells (encQ ((q2, .slice ha q2.hops.length hc) : QP)).toArray 26)).ownsRow w.heap.size 26 6 (.slice xa (qB.length + ts.length) xc) (qB ++ ts).length (flat encQ (qB ++ ts)) by rw [List.length_append]; exact (owns_below HOWN.out BN (Nat.le_refl _)).alloc _)
                  have HXN := hide (bxn.own.alloc (.cells (encQ ((q2, .slice ha q2.hops.length hc) : QP)).toArray 26))
                  have HSN := hide hsn
                  have NEWS := hide (news_struct (w := (wh.setCell ⟨w4.heap.size, 5, none⟩ (.slice ha q2.hops.length hc))) (cs := encQ ((q2, .slice ha q2.hops.length hc) : QP)) (t := 26))
                  rw [hsn] at NEWS
                  have HOB := hide (fun j (hj : (Value.slice xa (qB.length + ts.length) xc).ownBlock = some j) => (HOWN.out.lt j hj).1)
                  have hww := BN.size
                  clear bxn BN hsn bxh zb hgrowh hownh OWL OWU HLB HLX BXQ HBQ HSQ BH lb5
                  go_wp2_with (first
                    | (at_builtin; refine append_struct6 encQ_len (by omega) (by omega) _ rfl _ _ 33 rfl w.heap.size 26 Tryd.underlying33 (.agg (rtC zeroQD (.slice none 0 0))) rfl Tryd.infoRoute _ (qB ++ ts) ((q2, .slice ha q2.hops.length hc) : QP) (encQ_one _ _ _ _) rfl OW.out ⟨wh.heap.size, 0, none⟩ 1 rfl NEWS.out (by rw [List.length_append]; omega) (Nat.le_trans hwr BN2.out.size) ?_))
                  intro v' w6 hown' hgrow hat
                  have TY6 := (TyK.below BN2.out).trans (TyK.grown OW.out hgrow)
                  have hs6 := Nat.le_trans BN2.out.size hgrow.size
                  have hOF := thing_off (by omega) HTN.out.1 HTN.out.2 (fun d hd => thingS_good HSS.out HGD.out HGE.out hd)
                  have N1 := hide (show w6.ownsRow w.heap.size 26 6 v' (qB ++ (ts ++ [((q2, .slice ha q2.hops.length hc) : QP)])).length (flat encQ (qB ++ (ts ++ [((q2, .slice ha q2.hops.length hc) : QP)]))) by rw [← List.append_assoc]; simpa using hown')
                  have N2 := hide (show IsBest (fun to d => to < ((t + 1 : Nat) : Int) ∧ thingS (fsts ps) (fstsW ws) (fstsW bs) src to d) ((fstsQ (ts ++ [((q2, .slice ha q2.hops.length hc) : QP)])).map wOf) by
                    rw [show ((t + 1 : Nat) : Int) = (t : Int) + 1 by omega, fstsQ_append, List.map_append]
                    refine HB.out.push (S := thingS (fsts ps) (fstsW ws) (fstsW bs) src) (t := (t : Int)) (b := wOf q2) ?_
                    rw [hOF.2]
                    exact HTN.out.2)
                  have N3 := hide (offL_push (p := ((q2, .slice ha q2.hops.length hc) : QP)) HOL.out hOF.1)
                  have N4 := hide (show HopsR w6 w3.heap.size (ts ++ [((q2, .slice ha q2.hops.length hc) : QP)]) from ⟨fun r hr => by
                    rcases List.mem_append.1 hr with h1 | h1
                    · exact (TY6.hop (HHOP.out.1 r h1)).wide (Nat.le_refl _) hs6
                    · have : r = ((q2, .slice ha q2.hops.length hc) : QP) := by simpa using h1
                      subst this
                      have h2 := owns_typed HXN.out (by decide) (TyK.grown OW.out hgrow)
                      exact ⟨owns_baseS h2 hsz, fun j hj => (h2.lt j hj).2⟩, by
                    rw [List.pairwise_append]
                    refine ⟨HHOP.out.2, by simp, fun a ha' b hb' j hj e => ?_⟩
                    have : b = ((q2, .slice ha q2.hops.length hc) : QP) := by simpa using hb'
                    subst this
                    have h1 := (HHOP.out.1 a ha').2 j hj
                    have h2 := (HXN.out.lt j e).1
                    omega⟩)
                  have N5 := hide (HTY.out.trans TY6)
                  have N6 := hide ((HNX.out.trans (BN2.out.mono hwr)).grown hgrow (Nat.le_trans hwr BN2.out.size) HOB.out)
                  have hsz6 : w3.heap.size ≤ w6.heap.size := by omega
                  obtain ⟨va, vc, rfl⟩ := owns_lenS hown'
                  clear hown' hgrow hat OW BN2 HXN NEWS HOB TY6 hOF HTN HOWN HHOP HOL HB HTY HNX HSN
                  go_wp2
                  go_roundw
                  case rel => exact ⟨t + 1, _, ts ++ [((q2, .slice ha q2.hops.length hc) : QP)], by omega, by omega, by go_num, rfl, N1.out, N2, N3.out, N4.out, N5.out, N6.out, hsz6⟩
                  case measure => simp [intOf]; omega
                case false =>
                  have hTF2 := hTF
                  unfold ThSt at hTF2
                  rw [if_neg (by simp)] at hTF2
                  have N2 := hide (show IsBest (fun to d => to < ((t + 1 : Nat) : Int) ∧ thingS (fsts ps) (fstsW ws) (fstsW bs) src to d) ((fstsQ ts).map wOf) by
                    rw [show ((t + 1 : Nat) : Int) = (t : Int) + 1 by omega]
                    exact HB.out.skip (S := thingS (fsts ps) (fstsW ws) (fstsW bs) src) (t := (t : Int)) hTF2.2)
                  have N1 := hide (show (putR6 w5 w4.heap.size q2 (.slice ua2 q2.hops.length uc2)).ownsRow w.heap.size 26 6 (.slice xa (qB.length + ts.length) xc) (qB ++ ts).length (flat encQ (qB ++ ts)) by rw [List.length_append]; exact owns_below HOWN.out HBQ.out (Nat.le_refl _))
                  have N4 := hide (show HopsR (putR6 w5 w4.heap.size q2 (.slice ua2 q2.hops.length uc2)) w3.heap.size ts from ⟨fun r hr => ((TyK.below HBQ.out).hop (HHOP.out.1 r hr)).wide (Nat.le_refl _) HBQ.out.size, HHOP.out.2⟩)
                  have N5 := hide (HTY.out.trans (TyK.below HBQ.out))
                  have N6 := hide (HNX.out.trans (HBQ.out.mono hwr))
                  have hsz6 := Nat.le_trans hsz HBQ.out.size
                  clear hTF hTF2 HOWN HHOP HTY HNX HBQ BXQ HSQ HB
                  go_wp2
                  go_roundw
                  case rel => exact ⟨t + 1, _, ts, by omega, by omega, by go_num, rfl, N1.out, N2, HOL.out, N4.out, N5.out, N6.out, hsz6⟩
                  case measure => simp [intOf]; omega
            · have ht9 : ¬ (t : Int) ≤ 9 := by omega
              have HE := hide (show IsBest (thingS (fsts ps) (fstsW ws) (fstsW bs) src) ((fstsQ ts).map wOf) from HB.out.congr (fun to d => ⟨fun h => h.2, fun h => ⟨by have h3 := thingS_good HSS.out HGD.out HGE.out h; have := h3.1.node; rw [h3.2] at this; omega, h⟩⟩))
              have hw := hty.ways HW3.out
              have hbw2 := hty.ways HB3.out
              have hqq : qB ++ ts = nodesQ 1 src ws ++ nodesQ 2 src bs ++ ts := by rw [HQB.out, HQW.out]
              have hfin : RtsOwn wr w.heap.size wr.heap.size (.slice xa (qB.length + ts.length) xc) (qB ++ ts) := ⟨by rw [List.length_append]; exact hown, fun k hk => (hown.lt k hk).2, fun p hp => by
                rw [hqq] at hp
                rcases List.mem_append.1 hp with h0 | h0
                · rcases List.mem_append.1 h0 with h1 | h1
                  · exact (nodesQ_hop hw 1 src p h1).wide (by omega) (by omega)
                  · exact (nodesQ_hop hbw2 2 src p h1).wide (by omega) (by omega)
                · exact (hhop.1 p h0).wide (by omega) (Nat.le_refl _), by
                rw [hqq, List.pairwise_append, List.pairwise_append]
                refine ⟨⟨nodesQ_apart hw 1 src, nodesQ_apart hbw2 2 src, fun a ha b hb k hk e => ?_⟩, hhop.2, fun a ha b hb k hk e => ?_⟩
                · have h1 := (nodesQ_hop hw 1 src a ha).2 k hk
                  have h2 := ((nodesQ_hop hbw2 2 src b hb).1.lt k e).1
                  omega
                · have h2 := ((hhop.1 b hb).1.lt k e).1
                  rcases List.mem_append.1 ha with h0 | h0
                  · have h1 := (nodesQ_hop hw 1 src a h0).2 k hk
                    omega
                  · have h1 := (nodesQ_hop hbw2 2 src a h0).2 k hk
                    omega⟩
              have HRO := hide hfin
              have HIR := hide (show IsRoutes (fsts ps) al border src (fstsQ (qB ++ ts)) from ⟨fstsW ws, fstsW bs, (fstsQ ts).map wOf, HBW.out, HBB.out, HE.out, by rw [hqq, fstsQ_append, fstsQ_append, nodesQ_fst, nodesQ_fst, rtOf_all hol]⟩)
              have HBF := hide hnx
              clear hfin hown hnx hty hw hbw2 hol hhop hqq HB HE
              go_wp2
              go_ret
              first
                | exact ⟨_, _, rfl, HIR.out, HRO.out, HBF.out⟩
                | exact ⟨_, rfl, _, HIR.out, HRO.out, HBF.out⟩

end Go.Proofs.YthmmpmbnpfhloaaDoor
