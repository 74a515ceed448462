/-
  laws.szLineS, toLineS, eqLineS: their contracts.
  laws.szRecordS, toRecordS, eqRecordS: their contracts.
  laws.markRecordS, heldRecordS: only the list's own memory turns; what was marked is held.
-/
import Derived.Test.YtnpafmjfhglbhaaTb4
import Derived.Test.YtnpafmjfhglbhaaTb2
namespace Go.Proofs.Ytnpafmjfhglbhaa
open Go.RowKit

set_option maxRecDepth 100000 in
set_option maxHeartbeats 1000000 in
theorem szLineS_any (v : Value) (ps : List JP) (q : Int) (w : World) (hn : ps.length ≤ maxLen) (hns : ∀ p ∈ ps, p.1.hops.length ≤ maxLen) (hq0 : 0 ≤ q) (hq : q ≤ 1048576) (hv : LnsAt w v ps w.heap.size) :
    Calls Try.prog 34 #[v, .int .i64 q] w fun e w' => ∃ r : Int, e = .returned (.int .i64 r) ∧ (r < 0 ∨ (0 ≤ r ∧ r = q - (totJ ps : Int))) ∧ Below w.heap.size w w' := by
  obtain ⟨a, cap, rfl⟩ := hv.shape
  have hm : maxLen = 9223372036854775807 := rfl
  have HV := hide hv
  clear hv
  have HNS := hide (fun p hp => show ((p : JP).1.hops.length : Int) ≤ 9223372036854775807 by have := hns p hp; omega)
  clear hns
  rw [hm] at hn
  clear hm
  by_cases hneg : q - (ps.length : Int) < 0
  · go_enter Try.func34, Try.ntmps34
    go_wp2
    go_ret
    exact ⟨_, rfl, .inl (by omega), Below.refl _ _⟩
  go_enter Try.func34, Try.ntmps34
  go_wp2
  go_loopw [5, 1] (fun i r wr => ∃ (k : Nat) (c : Int), k ≤ ps.length ∧ i = .int .i64 k ∧ r = .int .i64 c ∧ 0 ≤ c ∧ c = q - (ps.length : Int) - ((totJ (ps.take k) : Int) - (k : Int)) ∧ Below w.heap.size w wr) (fun i _ _ => ps.length - (intOf i).toNat)
  case atStart => exact ⟨0, q - (ps.length : Int), by omega, rfl, rfl, by omega, by simp [totJ], Below.refl _ _⟩
  case round =>
    obtain ⟨k, c, hk, rfl, rfl, hc0, hc, hnx⟩ := hrel
    by_cases hlt : k < ps.length
    · obtain ⟨p, hp⟩ : ∃ p, ps[k]? = some p := ⟨ps[k], List.getElem?_eq_getElem hlt⟩
      have htk := totJ_take hp
      have htl := totJ_len (ps.take k)
      rw [List.length_take, Nat.min_eq_left (by omega)] at htl
      obtain ⟨b, off, cap', hve, hbb, c0, c1, c2, hnr⟩ := HV.out.cells k p hp
      cases hve
      rw [← hnx.cell (p := ⟨b, off + k * 3, none⟩) hbb] at c0
      rw [← hnx.cell (p := ⟨b, off + k * 3 + 1, none⟩) hbb] at c1
      rw [← hnx.cell (p := ⟨b, off + k * 3 + 2, none⟩) hbb] at c2
      obtain ⟨na, nc, hne⟩ := hnr.shape
      rw [hne] at c2
      have hki : (0 : Int) ≤ (k : Int) := by omega
      have hkj : (k : Int) < (ps.length : Int) := by omega
      have hcq : c ≤ 1048576 := by omega
      have HS := hide (fun W => szLine_any p.1 na p.1.hops.length nc c W (HNS.out p (List.mem_of_getElem? hp)) hc0 hcq)
      unfold lnC at HS
      have hsn := szW_neg (q := c) (n := p.1.hops.length)
      obtain ⟨z, hz⟩ : ∃ z, z = szW c p.1.hops.length := ⟨_, rfl⟩
      rw [← hz] at HS hsn
      have HT := hide htk
      have HTL := hide htl
      have HC := hide hc
      clear hp hz htk htl hnr hne hc
      rcases hsn with hzn | ⟨hz0, hze⟩
      · go_wp2_with fail
        refine (HS.out _).mono ?_
        rintro e w1 ⟨rfl, b1⟩
        go_wp2
        go_ret
        exact ⟨_, rfl, .inl (by omega), hnx.trans (b1.mono hnx.size)⟩
      · have HZ := hide hze
        clear hze
        go_wp2_with fail
        refine (HS.out _).mono ?_
        rintro e w1 ⟨rfl, b1⟩
        go_wp2
        go_roundw
        case rel => exact ⟨k + 1, z, by omega, by go_num, rfl, hz0, by have := HZ.out; have := HC.out; have := HT.out; omega, hnx.trans (b1.mono hnx.size)⟩
        case measure => simp [intOf]; omega
    · have hkn : k = ps.length := by omega
      have KN := hide hkn
      have HC := hide hc
      clear hkn hc
      go_wp2
      go_ret
      refine ⟨c, rfl, .inr ⟨hc0, ?_⟩, hnx⟩
      have h1 := HC.out
      rw [KN.out, List.take_length] at h1
      omega

theorem Try.infoLine : (Try.prog.info? 51).map (fun i => (i.zero, i.size, i.bytes)) = some (some (.agg (lnC zeroJD (.slice none 0 0))), 3, 40) := by kernel_rfl

set_option maxRecDepth 100000 in
set_option maxHeartbeats 2000000 in
theorem toLineS_any (v : Value) (ps : List JP) (w : World) (hn : ps.length ≤ 1048576) (hns : ∀ p ∈ ps, p.1.hops.length ≤ 1048576) (hv : LnsAt w v ps w.heap.size) :
    Calls Try.prog 36 #[v] w fun e w' => ∃ x qs, e = .returned x ∧ qs.map (·.1) = ps.map (·.1) ∧ LnsOwn w' w.heap.size w'.heap.size x qs ∧ Below w.heap.size w w' := by
  obtain ⟨a, cap, rfl⟩ := hv.shape
  have HV := hide hv
  have HNS := hide hns
  clear hv hns
  obtain ⟨i0, hi, hz0, hz1, hz2⟩ := info_parts Try.infoLine
  have HI := hide hi
  have HZ := hide hz0
  clear hi hz0
  go_enter Try.func36, Try.ntmps36
  go_wp2_with (first
    | (refine wpList_make_structs encJ_len (by omega) _ rfl _ _ 24 rfl w.heap.size 51 i0 (.agg (lnC zeroJD (.slice none 0 0))) zJ rfl Try.underlying24 HI.out HZ.out hz1 ps.length rfl rfl (by rw [hz2]; omega) (by unfold maxLen; omega) (Nat.le_refl _) ?_))
  intro w1 hown hg
  have b1 : Below w.heap.size w w1 := (Below.refl _ _).grown hg (Nat.le_refl _) (fun k hk => by simp at hk)
  have hg1 : w.heap.size < w1.heap.size := by
    rcases hown.2 with ⟨h0, _⟩ | ⟨g, cp, cur, hv, _, hh, _⟩
    · cases h0
    · cases hv; exact lt_of_heap hh
  have OW := hide hown
  clear hown hg
  go_wp2
  go_loopw [4] (fun i wr => ∃ (k : Nat) (qs : List JP), k ≤ ps.length ∧ i = .int .i64 k ∧ qs.map (·.1) = (ps.take k).map (·.1) ∧ wr.ownsRow w.heap.size 51 3 (.slice (some ⟨w.heap.size, 0, none⟩) ps.length ps.length) ps.length (flat encJ (qs ++ List.replicate (ps.length - k) zJ)) ∧ (∀ p ∈ qs, LHopOwn wr (w.heap.size + 1) wr.heap.size p) ∧ qs.Pairwise ApartJ ∧ Below w.heap.size w wr) (fun i _ => ps.length - (intOf i).toNat)
  case atStart => exact ⟨0, [], by omega, rfl, by simp, (by simpa using OW.out), by simp, by simp, b1⟩
  case round =>
    obtain ⟨k, qs, hk, rfl, hmap, hown, hnear, hap, hnx⟩ := hrel
    have hql : qs.length = k := by have := congrArg List.length hmap; simpa [List.length_take, Nat.min_eq_left hk] using this
    by_cases hlt : k < ps.length
    · obtain ⟨p, hp⟩ : ∃ p, ps[k]? = some p := ⟨ps[k], List.getElem?_eq_getElem hlt⟩
      obtain ⟨b, off, cap', hve, hbb, c0, c1, c2, hnr⟩ := HV.out.cells k p hp
      cases hve
      rw [← hnx.cell (p := ⟨b, off + k * 3, none⟩) hbb] at c0
      rw [← hnx.cell (p := ⟨b, off + k * 3 + 1, none⟩) hbb] at c1
      rw [← hnx.cell (p := ⟨b, off + k * 3 + 2, none⟩) hbb] at c2
      have hnr2 := (RowAt.later hnr hnx (Nat.le_refl _)).more hnx.size
      have HTO := hide (toLine_any (.agg (lnC p.1 p.2)) p.1 wr (HNS.out p (List.mem_of_getElem? hp)) ⟨_, rfl, hnr2⟩)
      unfold lnC at HTO
      have HP := hide hp
      have OW2 := hide hown
      have HM := hide hmap
      have HN := hide hnear
      have HQ := hide hql
      have HA := hide hap
      clear hp hown hmap hnear hql hap hnr hnr2
      have hki : (0 : Int) ≤ (k : Int) := by omega
      have hkj : (k : Int) < (ps.length : Int) := by omega
      go_wp2_with fail
      refine HTO.out.mono ?_
      rintro e w2 ⟨v1, rfl, hn2, b2⟩
      obtain ⟨n1a, n1c, rfl⟩ := owns_lenS hn2
      have hown2 := owns_below OW2.out b2 (Nat.le_refl _)
      have hln : (qs ++ List.replicate (ps.length - k) zJ).length = ps.length := by rw [List.length_append, HQ.out]; simp; omega
      have hex : ∀ r, r < 3 → ∃ u, w2.cell? ⟨w.heap.size, k * 3 + r, none⟩ = some u := fun r hr => own_cell hown2 _ (by omega)
      obtain ⟨u0, d0⟩ := hex 0 (by omega)
      obtain ⟨u1, d1⟩ := hex 1 (by omega)
      obtain ⟨u2, d2⟩ := hex 2 (by omega)
      rw [Nat.add_zero] at d0
      have f0 := hown2.frozenAt (k * 3)
      have f1 := hown2.frozenAt (k * 3 + 1)
      have f2 := hown2.frozenAt (k * 3 + 2)
      have hst := putJ_owns (j := k) (p := (p.1, .slice n1a p.1.hops.length n1c)) hown2 (by omega)
      have hsz := hnx.size
      have hgr := putJ_grown w2 w.heap.size (k * 3) (p.1, .slice n1a p.1.hops.length n1c)
      have hkeep : ∀ j, w.heap.size + 1 ≤ j → j < w2.heap.size → (putJ w2 w.heap.size (k * 3) (p.1, .slice n1a p.1.hops.length n1c)).heap[j]? = w2.heap[j]? := fun j h1 h2 => hgr.block j h2 (by simp; omega)
      have hgs := hgr.size
      have hrz : w.heap.size < wr.heap.size := by
        obtain ⟨u, hu⟩ := own_cell OW2.out (k * 3) (by omega)
        exact World.block_lt_of_cell? wr _ hu
      have b2s := b2.size
      have hnew : LHopOwn (putJ w2 w.heap.size (k * 3) (p.1, .slice n1a p.1.hops.length n1c)) (w.heap.size + 1) (putJ w2 w.heap.size (k * 3) (p.1, .slice n1a p.1.hops.length n1c)).heap.size (p.1, .slice n1a p.1.hops.length n1c) := by
        have h0 : LHopOwn w2 (w.heap.size + 1) w2.heap.size (p.1, .slice n1a p.1.hops.length n1c) := ⟨owns_baseS hn2 hrz, fun k hk => (hn2.lt k hk).2⟩
        exact (h0.keep (fun j h1 _ h3 => hkeep j h1 h3)).wide (Nat.le_refl _) hgs
      have hold : ∀ q ∈ qs, LHopOwn (putJ w2 w.heap.size (k * 3) (p.1, .slice n1a p.1.hops.length n1c)) (w.heap.size + 1) (putJ w2 w.heap.size (k * 3) (p.1, .slice n1a p.1.hops.length n1c)).heap.size q := fun q hq => by
        have h0 := (HN.out q hq).keep (W' := w2) (fun j _ h2 _ => b2.block j h2)
        exact ((h0.wide (Nat.le_refl _) b2s).keep (fun j h1 _ h3 => hkeep j h1 h3)).wide (Nat.le_refl _) hgs
      have hap2 := apartJ_add (p := (p.1, .slice n1a p.1.hops.length n1c)) HA.out HN.out (fun j hj => (hn2.lt j hj).1)
      have hbw : Below w.heap.size w (putJ w2 w.heap.size (k * 3) (p.1, .slice n1a p.1.hops.length n1c)) := (hnx.trans (b2.mono hsz)).grown hgr (by omega) (fun j hj => by simp at hj; omega)
      have ST := hide hst
      have HNEW := hide hnew
      have HOLD := hide hold
      have HAP2 := hide hap2
      have HBW := hide hbw
      clear hown2 hex hst hnew hold hap2 hbw hkeep hgr hgs hn2
      go_wp2
      refine ⟨⟨k + 1, qs ++ [(p.1, .slice n1a p.1.hops.length n1c)], by omega, by go_num, ?_, ?_, ?_, HAP2.out, HBW.out⟩, by simp [intOf]; omega⟩
      · rw [mapJ_take HP.out, ← HM.out]
        simp
      · have h4 := ST.out
        have e4 : (qs ++ List.replicate (ps.length - k) zJ).set k (p.1, .slice n1a p.1.hops.length n1c) = (qs ++ [(p.1, .slice n1a p.1.hops.length n1c)]) ++ List.replicate (ps.length - (k + 1)) zJ := by
          rw [List.set_append_right _ _ (by rw [HQ.out]; exact Nat.le_refl _), HQ.out, Nat.sub_self]
          have e2 : ps.length - k = (ps.length - (k + 1)) + 1 := by omega
          rw [e2, List.replicate_succ, List.set_cons_zero]
          simp
        rw [e4] at h4
        exact h4
      · intro q hq
        rcases List.mem_append.1 hq with h | h
        · exact HOLD.out q h
        · have : q = (p.1, .slice n1a p.1.hops.length n1c) := by simpa using h
          rw [this]
          exact HNEW.out
    · have hkn : k = ps.length := by omega
      have KN := hide hkn
      have OW2 := hide hown
      have HM := hide hmap
      have HN := hide hnear
      have HA := hide hap
      have HQ := hide hql
      clear hkn hown hmap hnear hap hql
      go_wp2
      go_ret
      have h1 := HM.out
      have h2 := OW2.out
      have h3 := HQ.out
      rw [KN.out, List.take_length] at h1
      rw [KN.out, Nat.sub_self, List.replicate_zero, List.append_nil] at h2
      rw [KN.out] at h3
      refine ⟨_, rfl, qs, h1, ⟨?_, ?_, fun q hq => (HN.out q hq).wide (by omega) (Nat.le_refl _), HA.out⟩, hnx⟩
      · rw [h3]; exact h2
      · exact fun j hj => (h2.lt j hj).2

def fstsJ (ps : List JP) : List LnD := ps.map (·.1)

theorem fstsJ_at {ps : List JP} {i : Nat} {p : JP} (h : ps[i]? = some p) : (fstsJ ps)[i]? = some p.1 := by simp [fstsJ, h]

set_option maxRecDepth 100000 in
set_option maxHeartbeats 2000000 in
theorem eqLineS_any (v1 v2 : Value) (ps qs : List JP) (w : World) (h1 : LnsAt w v1 ps w.heap.size) (h2 : LnsAt w v2 qs w.heap.size) (hn : ps.length ≤ 1048576) (hns : ∀ p ∈ ps, p.1.hops.length ≤ 1048576) :
    Calls Try.prog 9 #[v1, v2] w fun e w' => e = .returned (.bool (decide (fstsJ ps = fstsJ qs))) ∧ Below w.heap.size w w' := by
  obtain ⟨a1, c1, rfl⟩ := h1.shape
  obtain ⟨a2, c2, rfl⟩ := h2.shape
  by_cases hl : ps.length = qs.length
  · have K1 := hide h1
    have K2 := hide h2
    have HLN := hide hl
    have HNS := hide hns
    rw [← hl]
    clear h1 h2 hl hns
    go_enter Try.func9, Try.ntmps9
    go_wp2
    go_loopw [5] (fun i wr => ∃ k : Nat, k ≤ ps.length ∧ i = .int .i64 k ∧ (∀ j, j < k → (fstsJ ps)[j]? = (fstsJ qs)[j]?) ∧ Below w.heap.size w wr) (fun i _ => ps.length - (intOf i).toNat)
    case atStart => exact ⟨0, by omega, rfl, by omega, Below.refl _ _⟩
    case round =>
      obtain ⟨k, hk, rfl, hall, hnx⟩ := hrel
      have HALL := hide hall
      clear hall
      by_cases hlt : k < ps.length
      · obtain ⟨p, hp⟩ : ∃ l, ps[k]? = some l := ⟨ps[k], List.getElem?_eq_getElem hlt⟩
        obtain ⟨r, hr⟩ : ∃ l, qs[k]? = some l := ⟨qs[k], List.getElem?_eq_getElem (by have := HLN.out; omega)⟩
        obtain ⟨b1, o1, cp1, hv1, hb1, c0, c1', c2', n1⟩ := K1.out.cells k p hp
        obtain ⟨b2, o2, cp2, hv2, hb2, d0, d1, d2, n2⟩ := K2.out.cells k r hr
        cases hv1
        cases hv2
        rw [← hnx.cell (p := ⟨b1, o1 + k * 3, none⟩) hb1] at c0
        rw [← hnx.cell (p := ⟨b1, o1 + k * 3 + 1, none⟩) hb1] at c1'
        rw [← hnx.cell (p := ⟨b1, o1 + k * 3 + 2, none⟩) hb1] at c2'
        rw [← hnx.cell (p := ⟨b2, o2 + k * 3, none⟩) hb2] at d0
        rw [← hnx.cell (p := ⟨b2, o2 + k * 3 + 1, none⟩) hb2] at d1
        rw [← hnx.cell (p := ⟨b2, o2 + k * 3 + 2, none⟩) hb2] at d2
        have hzr := hnx.size
        have hb1' : b1 < wr.heap.size := by omega
        have hb2' : b2 < wr.heap.size := by omega
        have hki : (0 : Int) ≤ (k : Int) := by omega
        have hkj : (k : Int) < (ps.length : Int) := by omega
        have hkd : Below w.heap.size w wr.drew := hnx.drew
        have m1 := (RowAt.later n1 hkd (Nat.le_refl _)).more hkd.size
        have m2 := (RowAt.later n2 hkd (Nat.le_refl _)).more hkd.size
        have hq := eqLine_any (.agg (lnC p.1 p.2)) (.agg (lnC r.1 r.2)) p.1 r.1 wr.drew ⟨_, rfl, m1⟩ ⟨_, rfl, m2⟩ (HNS.out p (List.mem_of_getElem? hp))
        unfold lnC at hq
        obtain ⟨q, hqq⟩ : ∃ q, q = decide (p.1 = r.1) := ⟨_, rfl⟩
        rw [← hqq] at hq
        have HQ := hide hq
        have HQQ := hide hqq
        have HX := hide (fstsJ_at hp)
        have HY := hide (fstsJ_at hr)
        clear hq hqq hp hr n1 n2 m1 m2
        cases q
        · go_wp2
          go_region_held3 (fun W => W.cell? ⟨b1, o1 + k * 3, none⟩ = some (.bool p.1.thing) ∧ W.cell? ⟨b1, o1 + k * 3 + 1, none⟩ = some (.int .i64 p.1.to) ∧ W.cell? ⟨b1, o1 + k * 3 + 2, none⟩ = some (p.2) ∧ W.cell? ⟨b2, o2 + k * 3, none⟩ = some (.bool r.1.thing) ∧ W.cell? ⟨b2, o2 + k * 3 + 1, none⟩ = some (.int .i64 r.1.to) ∧ W.cell? ⟨b2, o2 + k * 3 + 2, none⟩ = some (r.2)) (first | go_keep | (refine ⟨?_, ?_, ?_, ?_, ?_, ?_⟩ <;> (rw [hbc.cell (by assumption)]; assumption))) (first | (go_at_call 32; refine HQ.out.mono ?_; rintro e w1 ⟨rfl, hbc⟩))
          go_wp2
          go_ret
          exact ⟨ret_bool_no (ne_at HX.out HY.out (of_decide_eq_false HQQ.out.symm)), hnx.trans ((Below.refl _ _).drew.trans (hbc.mono hzr))⟩
        · go_wp2
          go_region_held3 (fun W => W.cell? ⟨b1, o1 + k * 3, none⟩ = some (.bool p.1.thing) ∧ W.cell? ⟨b1, o1 + k * 3 + 1, none⟩ = some (.int .i64 p.1.to) ∧ W.cell? ⟨b1, o1 + k * 3 + 2, none⟩ = some (p.2) ∧ W.cell? ⟨b2, o2 + k * 3, none⟩ = some (.bool r.1.thing) ∧ W.cell? ⟨b2, o2 + k * 3 + 1, none⟩ = some (.int .i64 r.1.to) ∧ W.cell? ⟨b2, o2 + k * 3 + 2, none⟩ = some (r.2)) (first | go_keep | (refine ⟨?_, ?_, ?_, ?_, ?_, ?_⟩ <;> (rw [hbc.cell (by assumption)]; assumption))) (first | (go_at_call 32; refine HQ.out.mono ?_; rintro e w1 ⟨rfl, hbc⟩))
          go_wp2
          go_roundw
          case rel => exact ⟨k + 1, by omega, by go_num, (fun j hj => by
            by_cases e : j = k
            · subst e; rw [HX.out, HY.out, of_decide_eq_true HQQ.out.symm]
            · exact HALL.out j (by omega)), hnx.trans ((Below.refl _ _).drew.trans (hbc.mono hzr))⟩
          case measure => simp [intOf]; omega
      · have hkn : k = ps.length := by omega
        have KN := hide hkn
        clear hkn
        go_wp2
        go_ret
        exact ⟨ret_bool_yes (eq_all (by simp [fstsJ, HLN.out]) (by have := HALL.out; rw [KN.out] at this; simpa [fstsJ] using this)), hnx⟩
  · clear h1 h2
    have hd : ((ps.length : Int) != (qs.length : Int)) = true := by simp; omega
    go_enter Try.func9, Try.ntmps9
    go_wp2
    go_ret
    exact ⟨ret_bool_no (fun h => hl (by have := congrArg List.length h; simpa [fstsJ] using this)), Below.refl _ _⟩
end Go.Proofs.Ytnpafmjfhglbhaa
namespace Go.Proofs.Ytnpafmjfhglbhaa
open Go.RowKit

theorem szR_neg {q : Int} {n : Nat} : szR q n < 0 ∨ (0 ≤ szR q n ∧ szR q n = q - (n : Int)) := by
  unfold szR
  split <;> omega

def fsts (ps : List RP) : List RecD := ps.map (·.1)

theorem fsts_at {ps : List RP} {i : Nat} {p : RP} (h : ps[i]? = some p) : (fsts ps)[i]? = some p.1 := by simp [fsts, h]

end Go.Proofs.Ytnpafmjfhglbhaa
namespace Go.Proofs.Ytnpafmjfhglbhaa
open Go.RowKit

/-- the numbers of a record that is marked from c on -/
def mkR (c : Int) (p : RP) : RP := (⟨c, c + 1, c + 1 + 1, c + 1 + 1 + 1, c + 1 + 1 + 1 + 1, marks (c + 1 + 1 + 1 + 1 + 1) p.1.near.length, c + 1 + 1 + 1 + 1 + 1 + 2 * (p.1.near.length : Int), (c + 1 + 1 + 1 + 1 + 1 + 2 * (p.1.near.length : Int) + 1) % 3 == 0⟩, p.2)

def nxR (c : Int) (p : RP) : Int := c + 1 + 1 + 1 + 1 + 1 + 2 * (p.1.near.length : Int) + 1 + 1

def mkL : Int → List RP → List RP
  | _, [] => []
  | c, p :: ps => mkR c p :: mkL (nxR c p) ps

def mkE : Int → List RP → Int
  | c, [] => c
  | c, p :: ps => mkE (nxR c p) ps

theorem mkL_len (c : Int) (ps : List RP) : (mkL c ps).length = ps.length := by
  induction ps generalizing c with
  | nil => rfl
  | cons p ps ih => simp [mkL, ih]

theorem mkE_append (c : Int) (a b : List RP) : mkE c (a ++ b) = mkE (mkE c a) b := by
  induction a generalizing c with
  | nil => rfl
  | cons p a ih => exact ih _

theorem mkL_append (c : Int) (a b : List RP) : mkL c (a ++ b) = mkL c a ++ mkL (mkE c a) b := by
  induction a generalizing c with
  | nil => rfl
  | cons p a ih => simp only [List.cons_append, mkL, mkE, ih]

theorem mkE_step {ps : List RP} {k : Nat} {p : RP} (c : Int) (h : ps[k]? = some p) : mkE c (ps.take (k + 1)) = nxR (mkE c (ps.take k)) p := by
  obtain ⟨hk, e⟩ := List.getElem?_eq_some_iff.1 h
  rw [List.take_succ_eq_append_getElem hk, mkE_append, e]
  rfl

theorem mkL_step {ps : List RP} {k : Nat} {p : RP} (c : Int) (h : ps[k]? = some p) : mkL c (ps.take (k + 1)) = mkL c (ps.take k) ++ [mkR (mkE c (ps.take k)) p] := by
  obtain ⟨hk, e⟩ := List.getElem?_eq_some_iff.1 h
  rw [List.take_succ_eq_append_getElem hk, mkL_append, e]
  rfl

theorem mkE_tot (c : Int) (ps : List RP) : c + 2 * (tot ps : Int) ≤ mkE c ps ∧ mkE c ps ≤ c + 7 * (tot ps : Int) := by
  induction ps generalizing c with
  | nil => simp [mkE, tot]
  | cons p ps ih =>
    have h := ih (nxR c p)
    rw [tot_cons]
    simp only [mkE]
    unfold nxR at h ⊢
    omega

theorem tot_takeLe (ps : List RP) (k : Nat) : tot (ps.take k) ≤ tot ps := by
  have h := tot_append (ps.take k) (ps.drop k)
  rw [List.take_append_drop] at h
  omega

theorem mkL_at {ps : List RP} {k : Nat} {p : RP} (c : Int) (h : ps[k]? = some p) : (mkL c ps)[k]? = some (mkR (mkE c (ps.take k)) p) := by
  obtain ⟨hk, e⟩ := List.getElem?_eq_some_iff.1 h
  have e2 : ps = ps.take k ++ (p :: ps.drop (k + 1)) := by
    rw [← e]
    simp
  have e3 : mkL c ps = mkL c (ps.take k) ++ (mkR (mkE c (ps.take k)) p :: mkL (nxR (mkE c (ps.take k)) p) (ps.drop (k + 1))) := by
    conv => lhs; rw [e2]
    rw [mkL_append]
    rfl
  rw [e3, List.getElem?_append_right (by rw [mkL_len, List.length_take]; omega), mkL_len, List.length_take, Nat.min_eq_left (by omega), Nat.sub_self]
  rfl

theorem apart_snd (ps : List RP) : ps.Pairwise Apart ↔ (ps.map (·.2)).Pairwise (fun a b : Value => ∀ k, a.ownBlock = some k → b.ownBlock ≠ some k) := by
  rw [List.pairwise_map]
  exact Iff.rfl

theorem apart_at {ps : List RP} (h : ps.Pairwise Apart) {i k : Nat} {p q : RP} (hi : ps[i]? = some p) (hk : ps[k]? = some q) (hne : i ≠ k) : Apart p q := by
  obtain ⟨h1, e1⟩ := List.getElem?_eq_some_iff.1 hi
  obtain ⟨h2, e2⟩ := List.getElem?_eq_some_iff.1 hk
  rw [List.pairwise_iff_getElem] at h
  rcases Nat.lt_or_ge i k with hl | hl
  · have := h i k h1 h2 hl
    rw [e1, e2] at this
    exact this
  · have := h k i h2 h1 (by omega)
    rw [e1, e2] at this
    exact fun j hj he => this j he hj

theorem set_snd {ps : List RP} {k : Nat} {p q : RP} (hk : ps[k]? = some p) (h : q.2 = p.2) : (ps.set k q).map (·.2) = ps.map (·.2) := by
  apply List.ext_getElem?
  intro i
  by_cases e : i = k
  · subst e
    obtain ⟨h1, e1⟩ := List.getElem?_eq_some_iff.1 hk
    rw [List.getElem?_map, List.getElem?_set_self h1, List.getElem?_map, hk]
    simp [h]
  · simp [List.getElem?_set_ne (Ne.symm e)]

theorem set7 {xs : List RP} {k : Nat} {p q : RP} (hk : xs[k]? = some p) (hq : q.2 = p.2) :
    ((((((((flat encP xs).set (k * 8) (.int .i64 q.1.area)).set (k * 8 + 1) (.int .i64 q.1.kind)).set (k * 8 + 2) (.int .i64 q.1.owner)).set (k * 8 + 3) (.int .i64 q.1.key)).set (k * 8 + 4) (.int .i64 q.1.seq)).set (k * 8 + 6) (.int .i64 q.1.cost)).set (k * 8 + 7) (.bool q.1.far)) = flat encP (xs.set k q) := by
  obtain ⟨hlt, _⟩ := List.getElem?_eq_some_iff.1 hk
  have e : (((((((((flat encP xs).set (k * 8) (.int .i64 q.1.area)).set (k * 8 + 1) (.int .i64 q.1.kind)).set (k * 8 + 2) (.int .i64 q.1.owner)).set (k * 8 + 3) (.int .i64 q.1.key)).set (k * 8 + 4) (.int .i64 q.1.seq)).set (k * 8 + 5) q.2).set (k * 8 + 6) (.int .i64 q.1.cost)).set (k * 8 + 7) (.bool q.1.far)) = flat encP (xs.set k q) := flat_set encP_len xs k q hlt
  rw [← e]
  congr 2
  have h5 : ((((((flat encP xs).set (k * 8) (.int .i64 q.1.area)).set (k * 8 + 1) (.int .i64 q.1.kind)).set (k * 8 + 2) (.int .i64 q.1.owner)).set (k * 8 + 3) (.int .i64 q.1.key)).set (k * 8 + 4) (.int .i64 q.1.seq))[k * 8 + 5]? = some q.2 := by
    rw [List.getElem?_set_ne (by omega), List.getElem?_set_ne (by omega), List.getElem?_set_ne (by omega), List.getElem?_set_ne (by omega), List.getElem?_set_ne (by omega), flat_get encP_len xs k 5 p hk (by omega), hq]
    rfl
  obtain ⟨h6, e6⟩ := List.getElem?_eq_some_iff.1 h5
  rw [← e6]
  exact (List.set_getElem_self h6).symm

theorem own_type_ne2 {W : World} {base size n z : Nat} {e t : TypeId} {v : Value} {xs : List Value} {C : Array Value} {fr : Nat × Nat} (ho : W.ownsRow base e size v n xs) (h : W.heap[z]? = some (.cells C t fr)) (hne : e ≠ t) : some z ≠ v.ownBlock := by
  intro eq
  rcases ho.2 with ⟨h1, _⟩ | ⟨g', cap', cur', hv', _, hh', _⟩
  · rw [h1] at eq; simp [Value.ownBlock] at eq
  · rw [hv'] at eq
    simp [Value.ownBlock] at eq
    subst eq
    rw [h] at hh'
    simp at hh'
    exact hne hh'.2.1.symm

abbrev set5 (W : World) (g o : Nat) (z : Int) : World := ((((W.setCell ⟨g, o, none⟩ (.int .i64 z)).setCell ⟨g, o + 1, none⟩ (.int .i64 (z + 1))).setCell ⟨g, o + 2, none⟩ (.int .i64 (z + 1 + 1))).setCell ⟨g, o + 3, none⟩ (.int .i64 (z + 1 + 1 + 1))).setCell ⟨g, o + 4, none⟩ (.int .i64 (z + 1 + 1 + 1 + 1))

theorem set5_grown (W : World) (g o : Nat) (z : Int) : W.grownBy (set5 W g o z) (some g) :=
  grown_trans (grown_trans (grown_trans (grown_trans (grown_set W g _ _) (grown_set _ g _ _)) (grown_set _ g _ _)) (grown_set _ g _ _)) (grown_set _ g _ _)

end Go.Proofs.Ytnpafmjfhglbhaa
