/-
  laws.szRecordS, toRecordS, eqRecordS: their contracts.
-/
import Derived.Test.YthgihhngddhejaaRowsK
namespace Go.Proofs.Ythgihhngddhejaa
open Go.RowKit

theorem szR_neg {q : Int} {n : Nat} : szR q n < 0 ∨ (0 ≤ szR q n ∧ szR q n = q - (n : Int)) := by
  unfold szR
  split <;> omega

set_option maxRecDepth 100000 in
set_option maxHeartbeats 1000000 in
theorem szRecordS_any (v : Value) (ps : List RP) (q : Int) (w : World) (hn : ps.length ≤ maxLen) (hns : ∀ p ∈ ps, p.1.near.length ≤ maxLen) (hq0 : 0 ≤ q) (hq : q ≤ 1048576) (hv : RecsAt w v ps w.heap.size) :
    Calls Try.prog 4 #[v, .int .i64 q] w fun e w' => ∃ r : Int, e = .returned (.int .i64 r) ∧ (r < 0 ∨ (0 ≤ r ∧ r = q - (tot ps : Int))) ∧ Below w.heap.size w w' := by
  obtain ⟨a, cap, rfl⟩ := hv.shape
  have hm : maxLen = 9223372036854775807 := rfl
  have HV := hide hv
  clear hv
  have HNS := hide (fun p hp => show ((p : RP).1.near.length : Int) ≤ 9223372036854775807 by have := hns p hp; omega)
  clear hns
  rw [hm] at hn
  clear hm
  by_cases hneg : q - (ps.length : Int) < 0
  · go_enter Try.func4, Try.ntmps4
    go_wp2
    go_ret
    exact ⟨_, rfl, .inl (by omega), Below.refl _ _⟩
  go_enter Try.func4, Try.ntmps4
  go_wp2
  go_loopw [5, 1] (fun i r wr => ∃ (k : Nat) (c : Int), k ≤ ps.length ∧ i = .int .i64 k ∧ r = .int .i64 c ∧ 0 ≤ c ∧ c = q - (ps.length : Int) - ((tot (ps.take k) : Int) - (k : Int)) ∧ Below w.heap.size w wr) (fun i _ _ => ps.length - (intOf i).toNat)
  case atStart => exact ⟨0, q - (ps.length : Int), by omega, rfl, rfl, by omega, by simp [tot], Below.refl _ _⟩
  case round =>
    obtain ⟨k, c, hk, rfl, rfl, hc0, hc, hnx⟩ := hrel
    by_cases hlt : k < ps.length
    · obtain ⟨p, hp⟩ : ∃ p, ps[k]? = some p := ⟨ps[k], List.getElem?_eq_getElem hlt⟩
      have htk := tot_take hp
      have htl := tot_len (ps.take k)
      rw [List.length_take, Nat.min_eq_left (by omega)] at htl
      obtain ⟨b, off, cap', hve, hbb, c0, c1, c2, c3, c4, c5, c6, c7, hnr⟩ := HV.out.cells k p hp
      cases hve
      rw [← hnx.cell (p := ⟨b, off + k * 8, none⟩) hbb] at c0
      rw [← hnx.cell (p := ⟨b, off + k * 8 + 1, none⟩) hbb] at c1
      rw [← hnx.cell (p := ⟨b, off + k * 8 + 2, none⟩) hbb] at c2
      rw [← hnx.cell (p := ⟨b, off + k * 8 + 3, none⟩) hbb] at c3
      rw [← hnx.cell (p := ⟨b, off + k * 8 + 4, none⟩) hbb] at c4
      rw [← hnx.cell (p := ⟨b, off + k * 8 + 5, none⟩) hbb] at c5
      rw [← hnx.cell (p := ⟨b, off + k * 8 + 6, none⟩) hbb] at c6
      rw [← hnx.cell (p := ⟨b, off + k * 8 + 7, none⟩) hbb] at c7
      obtain ⟨na, nc, hne⟩ := hnr.shape
      rw [hne] at c5
      have hki : (0 : Int) ≤ (k : Int) := by omega
      have hkj : (k : Int) < (ps.length : Int) := by omega
      have hcq : c ≤ 1048576 := by omega
      have HS := hide (fun W => szRecord_any p.1 na p.1.near.length nc c W (HNS.out p (List.mem_of_getElem? hp)) hc0 hcq)
      unfold recC at HS
      have hsn := szR_neg (q := c) (n := p.1.near.length)
      obtain ⟨z, hz⟩ : ∃ z, z = szR c p.1.near.length := ⟨_, rfl⟩
      rw [← hz] at HS hsn
      have HT := hide htk
      have HTL := hide htl
      have HC := hide hc
      clear hp hz htk htl hnr hne hc
      rcases hsn with hzn | ⟨hz0, hze⟩
      · go_wp2_with fail
        refine (HS.out _).mono ?_
        rintro e w1 ⟨rfl, b1⟩
        go_wp2
        go_ret
        exact ⟨_, rfl, .inl (by omega), hnx.trans (b1.mono hnx.size)⟩
      · have HZ := hide hze
        clear hze
        go_wp2_with fail
        refine (HS.out _).mono ?_
        rintro e w1 ⟨rfl, b1⟩
        go_wp2
        go_roundw
        case rel => exact ⟨k + 1, z, by omega, by go_num, rfl, hz0, by have := HZ.out; have := HC.out; have := HT.out; omega, hnx.trans (b1.mono hnx.size)⟩
        case measure => simp [intOf]; omega
    · have hkn : k = ps.length := by omega
      have KN := hide hkn
      have HC := hide hc
      clear hkn hc
      go_wp2
      go_ret
      refine ⟨c, rfl, .inr ⟨hc0, ?_⟩, hnx⟩
      have h1 := HC.out
      rw [KN.out, List.take_length] at h1
      omega

theorem Try.infoRec : (Try.prog.info? 35).map (fun i => (i.zero, i.size, i.bytes)) = some (some (.agg (recC zeroRD (.slice none 0 0))), 8, 80) := by kernel_rfl

set_option maxRecDepth 100000 in
set_option maxHeartbeats 2000000 in
theorem toRecordS_any (v : Value) (ps : List RP) (w : World) (hn : ps.length ≤ 1048576) (hns : ∀ p ∈ ps, p.1.near.length ≤ 1048576) (hv : RecsAt w v ps w.heap.size) :
    Calls Try.prog 6 #[v] w fun e w' => ∃ x qs, e = .returned x ∧ qs.map (·.1) = ps.map (·.1) ∧ RecsOwn w' w.heap.size w'.heap.size x qs ∧ Below w.heap.size w w' := by
  obtain ⟨a, cap, rfl⟩ := hv.shape
  have HV := hide hv
  have HNS := hide hns
  clear hv hns
  obtain ⟨i0, hi, hz0, hz1, hz2⟩ := info_parts Try.infoRec
  have HI := hide hi
  have HZ := hide hz0
  clear hi hz0
  go_enter Try.func6, Try.ntmps6
  go_wp2_with (first
    | (refine wpList_make_structs encP_len (by omega) _ rfl _ _ 25 rfl w.heap.size 35 i0 (.agg (recC zeroRD (.slice none 0 0))) zP rfl Try.underlying25 HI.out HZ.out hz1 ps.length rfl rfl (by rw [hz2]; omega) (by unfold maxLen; omega) (Nat.le_refl _) ?_))
  intro w1 hown hg
  have b1 : Below w.heap.size w w1 := (Below.refl _ _).grown hg (Nat.le_refl _) (fun k hk => by simp at hk)
  have hg1 : w.heap.size < w1.heap.size := by
    rcases hown.2 with ⟨h0, _⟩ | ⟨g, cp, cur, hv, _, hh, _⟩
    · cases h0
    · cases hv; exact lt_of_heap hh
  have OW := hide hown
  clear hown hg
  go_wp2
  go_loopw [4] (fun i wr => ∃ (k : Nat) (qs : List RP), k ≤ ps.length ∧ i = .int .i64 k ∧ qs.map (·.1) = (ps.take k).map (·.1) ∧ wr.ownsRow w.heap.size 35 8 (.slice (some ⟨w.heap.size, 0, none⟩) ps.length ps.length) ps.length (flat encP (qs ++ List.replicate (ps.length - k) zP)) ∧ (∀ p ∈ qs, NearOwn wr (w.heap.size + 1) wr.heap.size p) ∧ qs.Pairwise Apart ∧ Below w.heap.size w wr) (fun i _ => ps.length - (intOf i).toNat)
  case atStart => exact ⟨0, [], by omega, rfl, by simp, (by simpa using OW.out), by simp, by simp, b1⟩
  case round =>
    obtain ⟨k, qs, hk, rfl, hmap, hown, hnear, hap, hnx⟩ := hrel
    have hql : qs.length = k := by have := congrArg List.length hmap; simpa [List.length_take, Nat.min_eq_left hk] using this
    by_cases hlt : k < ps.length
    · obtain ⟨p, hp⟩ : ∃ p, ps[k]? = some p := ⟨ps[k], List.getElem?_eq_getElem hlt⟩
      obtain ⟨b, off, cap', hve, hbb, c0, c1, c2, c3, c4, c5, c6, c7, hnr⟩ := HV.out.cells k p hp
      cases hve
      rw [← hnx.cell (p := ⟨b, off + k * 8, none⟩) hbb] at c0
      rw [← hnx.cell (p := ⟨b, off + k * 8 + 1, none⟩) hbb] at c1
      rw [← hnx.cell (p := ⟨b, off + k * 8 + 2, none⟩) hbb] at c2
      rw [← hnx.cell (p := ⟨b, off + k * 8 + 3, none⟩) hbb] at c3
      rw [← hnx.cell (p := ⟨b, off + k * 8 + 4, none⟩) hbb] at c4
      rw [← hnx.cell (p := ⟨b, off + k * 8 + 5, none⟩) hbb] at c5
      rw [← hnx.cell (p := ⟨b, off + k * 8 + 6, none⟩) hbb] at c6
      rw [← hnx.cell (p := ⟨b, off + k * 8 + 7, none⟩) hbb] at c7
      have hnr2 := (RowAt.later hnr hnx (Nat.le_refl _)).more hnx.size
      have HTO := hide (toRecord_any (.agg (recC p.1 p.2)) p.1 wr (HNS.out p (List.mem_of_getElem? hp)) ⟨_, rfl, hnr2⟩)
      unfold recC at HTO
      have HP := hide hp
      have OW2 := hide hown
      have HM := hide hmap
      have HN := hide hnear
      have HQ := hide hql
      have HA := hide hap
      clear hp hown hmap hnear hql hap hnr hnr2
      have hki : (0 : Int) ≤ (k : Int) := by omega
      have hkj : (k : Int) < (ps.length : Int) := by omega
      go_wp2_with fail
      refine HTO.out.mono ?_
      rintro e w2 ⟨v1, rfl, hn2, b2⟩
      obtain ⟨n1a, n1c, rfl⟩ := owns_lenS hn2
      have hown2 := owns_below OW2.out b2 (Nat.le_refl _)
      have hln : (qs ++ List.replicate (ps.length - k) zP).length = ps.length := by rw [List.length_append, HQ.out]; simp; omega
      have hex : ∀ r, r < 8 → ∃ u, w2.cell? ⟨w.heap.size, k * 8 + r, none⟩ = some u := fun r hr => own_cell hown2 _ (by omega)
      obtain ⟨u0, d0⟩ := hex 0 (by omega)
      obtain ⟨u1, d1⟩ := hex 1 (by omega)
      obtain ⟨u2, d2⟩ := hex 2 (by omega)
      obtain ⟨u3, d3⟩ := hex 3 (by omega)
      obtain ⟨u4, d4⟩ := hex 4 (by omega)
      obtain ⟨u5, d5⟩ := hex 5 (by omega)
      obtain ⟨u6, d6⟩ := hex 6 (by omega)
      obtain ⟨u7, d7⟩ := hex 7 (by omega)
      rw [Nat.add_zero] at d0
      have f0 := hown2.frozenAt (k * 8)
      have f1 := hown2.frozenAt (k * 8 + 1)
      have f2 := hown2.frozenAt (k * 8 + 2)
      have f3 := hown2.frozenAt (k * 8 + 3)
      have f4 := hown2.frozenAt (k * 8 + 4)
      have f5 := hown2.frozenAt (k * 8 + 5)
      have f6 := hown2.frozenAt (k * 8 + 6)
      have f7 := hown2.frozenAt (k * 8 + 7)
      have hst := putP_owns (j := k) (p := (p.1, .slice n1a p.1.near.length n1c)) hown2 (by omega)
      have hsz := hnx.size
      have hgr := putP_grown w2 w.heap.size (k * 8) (p.1, .slice n1a p.1.near.length n1c)
      have hkeep : ∀ j, w.heap.size + 1 ≤ j → j < w2.heap.size → (putP w2 w.heap.size (k * 8) (p.1, .slice n1a p.1.near.length n1c)).heap[j]? = w2.heap[j]? := fun j h1 h2 => hgr.block j h2 (by simp; omega)
      have hgs := hgr.size
      have hrz : w.heap.size < wr.heap.size := by
        obtain ⟨u, hu⟩ := own_cell OW2.out (k * 8) (by omega)
        exact World.block_lt_of_cell? wr _ hu
      have b2s := b2.size
      have hnew : NearOwn (putP w2 w.heap.size (k * 8) (p.1, .slice n1a p.1.near.length n1c)) (w.heap.size + 1) (putP w2 w.heap.size (k * 8) (p.1, .slice n1a p.1.near.length n1c)).heap.size (p.1, .slice n1a p.1.near.length n1c) := by
        have h0 : NearOwn w2 (w.heap.size + 1) w2.heap.size (p.1, .slice n1a p.1.near.length n1c) := ⟨owns_baseS hn2 hrz, fun k hk => (hn2.lt k hk).2⟩
        exact (h0.keep (fun j h1 _ h3 => hkeep j h1 h3)).wide (Nat.le_refl _) hgs
      have hold : ∀ q ∈ qs, NearOwn (putP w2 w.heap.size (k * 8) (p.1, .slice n1a p.1.near.length n1c)) (w.heap.size + 1) (putP w2 w.heap.size (k * 8) (p.1, .slice n1a p.1.near.length n1c)).heap.size q := fun q hq => by
        have h0 := (HN.out q hq).keep (W' := w2) (fun j _ h2 _ => b2.block j h2)
        exact ((h0.wide (Nat.le_refl _) b2s).keep (fun j h1 _ h3 => hkeep j h1 h3)).wide (Nat.le_refl _) hgs
      have hap2 := apart_add (p := (p.1, .slice n1a p.1.near.length n1c)) HA.out HN.out (fun j hj => (hn2.lt j hj).1)
      have hbw : Below w.heap.size w (putP w2 w.heap.size (k * 8) (p.1, .slice n1a p.1.near.length n1c)) := (hnx.trans (b2.mono hsz)).grown hgr (by omega) (fun j hj => by simp at hj; omega)
      have ST := hide hst
      have HNEW := hide hnew
      have HOLD := hide hold
      have HAP2 := hide hap2
      have HBW := hide hbw
      clear hown2 hex hst hnew hold hap2 hbw hkeep hgr hgs hn2
      go_wp2
      refine ⟨⟨k + 1, qs ++ [(p.1, .slice n1a p.1.near.length n1c)], by omega, by go_num, ?_, ?_, ?_, HAP2.out, HBW.out⟩, by simp [intOf]; omega⟩
      · rw [map_take HP.out, ← HM.out]
        simp
      · have h4 := ST.out
        have e4 : (qs ++ List.replicate (ps.length - k) zP).set k (p.1, .slice n1a p.1.near.length n1c) = (qs ++ [(p.1, .slice n1a p.1.near.length n1c)]) ++ List.replicate (ps.length - (k + 1)) zP := by
          rw [List.set_append_right _ _ (by rw [HQ.out]; exact Nat.le_refl _), HQ.out, Nat.sub_self]
          have e2 : ps.length - k = (ps.length - (k + 1)) + 1 := by omega
          rw [e2, List.replicate_succ, List.set_cons_zero]
          simp
        rw [e4] at h4
        exact h4
      · intro q hq
        rcases List.mem_append.1 hq with h | h
        · exact HOLD.out q h
        · have : q = (p.1, .slice n1a p.1.near.length n1c) := by simpa using h
          rw [this]
          exact HNEW.out
    · have hkn : k = ps.length := by omega
      have KN := hide hkn
      have OW2 := hide hown
      have HM := hide hmap
      have HN := hide hnear
      have HA := hide hap
      have HQ := hide hql
      clear hkn hown hmap hnear hap hql
      go_wp2
      go_ret
      have h1 := HM.out
      have h2 := OW2.out
      have h3 := HQ.out
      rw [KN.out, List.take_length] at h1
      rw [KN.out, Nat.sub_self, List.replicate_zero, List.append_nil] at h2
      rw [KN.out] at h3
      refine ⟨_, rfl, qs, h1, ⟨?_, ?_, fun q hq => (HN.out q hq).wide (by omega) (Nat.le_refl _), HA.out⟩, hnx⟩
      · rw [h3]; exact h2
      · exact fun j hj => (h2.lt j hj).2

def fsts (ps : List RP) : List RecD := ps.map (·.1)

theorem fsts_at {ps : List RP} {i : Nat} {p : RP} (h : ps[i]? = some p) : (fsts ps)[i]? = some p.1 := by simp [fsts, h]

set_option maxRecDepth 100000 in
set_option maxHeartbeats 2000000 in
theorem eqRecordS_any (v1 v2 : Value) (ps qs : List RP) (w : World) (h1 : RecsAt w v1 ps w.heap.size) (h2 : RecsAt w v2 qs w.heap.size) (hn : ps.length ≤ 1048576) (hns : ∀ p ∈ ps, p.1.near.length ≤ 1048576) :
    Calls Try.prog 8 #[v1, v2] w fun e w' => e = .returned (.bool (decide (fsts ps = fsts qs))) ∧ Below w.heap.size w w' := by
  obtain ⟨a1, c1, rfl⟩ := h1.shape
  obtain ⟨a2, c2, rfl⟩ := h2.shape
  by_cases hl : ps.length = qs.length
  · have K1 := hide h1
    have K2 := hide h2
    have HLN := hide hl
    have HNS := hide hns
    rw [← hl]
    clear h1 h2 hl hns
    go_enter Try.func8, Try.ntmps8
    go_wp2
    go_loopw [5] (fun i wr => ∃ k : Nat, k ≤ ps.length ∧ i = .int .i64 k ∧ (∀ j, j < k → (fsts ps)[j]? = (fsts qs)[j]?) ∧ Below w.heap.size w wr) (fun i _ => ps.length - (intOf i).toNat)
    case atStart => exact ⟨0, by omega, rfl, by omega, Below.refl _ _⟩
    case round =>
      obtain ⟨k, hk, rfl, hall, hnx⟩ := hrel
      have HALL := hide hall
      clear hall
      by_cases hlt : k < ps.length
      · obtain ⟨p, hp⟩ : ∃ l, ps[k]? = some l := ⟨ps[k], List.getElem?_eq_getElem hlt⟩
        obtain ⟨r, hr⟩ : ∃ l, qs[k]? = some l := ⟨qs[k], List.getElem?_eq_getElem (by have := HLN.out; omega)⟩
        obtain ⟨b1, o1, cp1, hv1, hb1, c0, c1', c2', c3, c4, c5, c6, c7, n1⟩ := K1.out.cells k p hp
        obtain ⟨b2, o2, cp2, hv2, hb2, d0, d1, d2, d3, d4, d5, d6, d7, n2⟩ := K2.out.cells k r hr
        cases hv1
        cases hv2
        rw [← hnx.cell (p := ⟨b1, o1 + k * 8, none⟩) hb1] at c0
        rw [← hnx.cell (p := ⟨b1, o1 + k * 8 + 1, none⟩) hb1] at c1'
        rw [← hnx.cell (p := ⟨b1, o1 + k * 8 + 2, none⟩) hb1] at c2'
        rw [← hnx.cell (p := ⟨b1, o1 + k * 8 + 3, none⟩) hb1] at c3
        rw [← hnx.cell (p := ⟨b1, o1 + k * 8 + 4, none⟩) hb1] at c4
        rw [← hnx.cell (p := ⟨b1, o1 + k * 8 + 5, none⟩) hb1] at c5
        rw [← hnx.cell (p := ⟨b1, o1 + k * 8 + 6, none⟩) hb1] at c6
        rw [← hnx.cell (p := ⟨b1, o1 + k * 8 + 7, none⟩) hb1] at c7
        rw [← hnx.cell (p := ⟨b2, o2 + k * 8, none⟩) hb2] at d0
        rw [← hnx.cell (p := ⟨b2, o2 + k * 8 + 1, none⟩) hb2] at d1
        rw [← hnx.cell (p := ⟨b2, o2 + k * 8 + 2, none⟩) hb2] at d2
        rw [← hnx.cell (p := ⟨b2, o2 + k * 8 + 3, none⟩) hb2] at d3
        rw [← hnx.cell (p := ⟨b2, o2 + k * 8 + 4, none⟩) hb2] at d4
        rw [← hnx.cell (p := ⟨b2, o2 + k * 8 + 5, none⟩) hb2] at d5
        rw [← hnx.cell (p := ⟨b2, o2 + k * 8 + 6, none⟩) hb2] at d6
        rw [← hnx.cell (p := ⟨b2, o2 + k * 8 + 7, none⟩) hb2] at d7
        have hzr := hnx.size
        have hb1' : b1 < wr.heap.size := by omega
        have hb2' : b2 < wr.heap.size := by omega
        have hki : (0 : Int) ≤ (k : Int) := by omega
        have hkj : (k : Int) < (ps.length : Int) := by omega
        have hkd : Below w.heap.size w wr.drew := hnx.drew
        have m1 := (RowAt.later n1 hkd (Nat.le_refl _)).more hkd.size
        have m2 := (RowAt.later n2 hkd (Nat.le_refl _)).more hkd.size
        have hq := eqRecord_any (.agg (recC p.1 p.2)) (.agg (recC r.1 r.2)) p.1 r.1 wr.drew ⟨_, rfl, m1⟩ ⟨_, rfl, m2⟩ (HNS.out p (List.mem_of_getElem? hp))
        unfold recC at hq
        obtain ⟨q, hqq⟩ : ∃ q, q = decide (p.1 = r.1) := ⟨_, rfl⟩
        rw [← hqq] at hq
        have HQ := hide hq
        have HQQ := hide hqq
        have HX := hide (fsts_at hp)
        have HY := hide (fsts_at hr)
        clear hq hqq hp hr n1 n2 m1 m2
        cases q
        · go_wp2
          go_region_held3 (fun W => W.cell? ⟨b1, o1 + k * 8, none⟩ = some (.int .i64 p.1.area) ∧ W.cell? ⟨b1, o1 + k * 8 + 1, none⟩ = some (.int .i64 p.1.kind) ∧ W.cell? ⟨b1, o1 + k * 8 + 2, none⟩ = some (.int .i64 p.1.owner) ∧ W.cell? ⟨b1, o1 + k * 8 + 3, none⟩ = some (.int .i64 p.1.key) ∧ W.cell? ⟨b1, o1 + k * 8 + 4, none⟩ = some (.int .i64 p.1.seq) ∧ W.cell? ⟨b1, o1 + k * 8 + 5, none⟩ = some (p.2) ∧ W.cell? ⟨b1, o1 + k * 8 + 6, none⟩ = some (.int .i64 p.1.cost) ∧ W.cell? ⟨b1, o1 + k * 8 + 7, none⟩ = some (.bool p.1.far) ∧ W.cell? ⟨b2, o2 + k * 8, none⟩ = some (.int .i64 r.1.area) ∧ W.cell? ⟨b2, o2 + k * 8 + 1, none⟩ = some (.int .i64 r.1.kind) ∧ W.cell? ⟨b2, o2 + k * 8 + 2, none⟩ = some (.int .i64 r.1.owner) ∧ W.cell? ⟨b2, o2 + k * 8 + 3, none⟩ = some (.int .i64 r.1.key) ∧ W.cell? ⟨b2, o2 + k * 8 + 4, none⟩ = some (.int .i64 r.1.seq) ∧ W.cell? ⟨b2, o2 + k * 8 + 5, none⟩ = some (r.2) ∧ W.cell? ⟨b2, o2 + k * 8 + 6, none⟩ = some (.int .i64 r.1.cost) ∧ W.cell? ⟨b2, o2 + k * 8 + 7, none⟩ = some (.bool r.1.far)) (first | go_keep | (refine ⟨?_, ?_, ?_, ?_, ?_, ?_, ?_, ?_, ?_, ?_, ?_, ?_, ?_, ?_, ?_, ?_⟩ <;> (rw [hbc.cell (by assumption)]; assumption))) (first | (go_at_call 15; refine HQ.out.mono ?_; rintro e w1 ⟨rfl, hbc⟩))
          go_wp2
          go_ret
          exact ⟨ret_bool_no (ne_at HX.out HY.out (of_decide_eq_false HQQ.out.symm)), hnx.trans ((Below.refl _ _).drew.trans (hbc.mono hzr))⟩
        · go_wp2
          go_region_held3 (fun W => W.cell? ⟨b1, o1 + k * 8, none⟩ = some (.int .i64 p.1.area) ∧ W.cell? ⟨b1, o1 + k * 8 + 1, none⟩ = some (.int .i64 p.1.kind) ∧ W.cell? ⟨b1, o1 + k * 8 + 2, none⟩ = some (.int .i64 p.1.owner) ∧ W.cell? ⟨b1, o1 + k * 8 + 3, none⟩ = some (.int .i64 p.1.key) ∧ W.cell? ⟨b1, o1 + k * 8 + 4, none⟩ = some (.int .i64 p.1.seq) ∧ W.cell? ⟨b1, o1 + k * 8 + 5, none⟩ = some (p.2) ∧ W.cell? ⟨b1, o1 + k * 8 + 6, none⟩ = some (.int .i64 p.1.cost) ∧ W.cell? ⟨b1, o1 + k * 8 + 7, none⟩ = some (.bool p.1.far) ∧ W.cell? ⟨b2, o2 + k * 8, none⟩ = some (.int .i64 r.1.area) ∧ W.cell? ⟨b2, o2 + k * 8 + 1, none⟩ = some (.int .i64 r.1.kind) ∧ W.cell? ⟨b2, o2 + k * 8 + 2, none⟩ = some (.int .i64 r.1.owner) ∧ W.cell? ⟨b2, o2 + k * 8 + 3, none⟩ = some (.int .i64 r.1.key) ∧ W.cell? ⟨b2, o2 + k * 8 + 4, none⟩ = some (.int .i64 r.1.seq) ∧ W.cell? ⟨b2, o2 + k * 8 + 5, none⟩ = some (r.2) ∧ W.cell? ⟨b2, o2 + k * 8 + 6, none⟩ = some (.int .i64 r.1.cost) ∧ W.cell? ⟨b2, o2 + k * 8 + 7, none⟩ = some (.bool r.1.far)) (first | go_keep | (refine ⟨?_, ?_, ?_, ?_, ?_, ?_, ?_, ?_, ?_, ?_, ?_, ?_, ?_, ?_, ?_, ?_⟩ <;> (rw [hbc.cell (by assumption)]; assumption))) (first | (go_at_call 15; refine HQ.out.mono ?_; rintro e w1 ⟨rfl, hbc⟩))
          go_wp2
          go_roundw
          case rel => exact ⟨k + 1, by omega, by go_num, (fun j hj => by
            by_cases e : j = k
            · subst e; rw [HX.out, HY.out, of_decide_eq_true HQQ.out.symm]
            · exact HALL.out j (by omega)), hnx.trans ((Below.refl _ _).drew.trans (hbc.mono hzr))⟩
          case measure => simp [intOf]; omega
      · have hkn : k = ps.length := by omega
        have KN := hide hkn
        clear hkn
        go_wp2
        go_ret
        exact ⟨ret_bool_yes (eq_all (by simp [fsts, HLN.out]) (by have := HALL.out; rw [KN.out] at this; simpa [fsts] using this)), hnx⟩
  · clear h1 h2
    have hd : ((ps.length : Int) != (qs.length : Int)) = true := by simp; omega
    go_enter Try.func8, Try.ntmps8
    go_wp2
    go_ret
    exact ⟨ret_bool_no (fun h => hl (by have := congrArg List.length h; simpa [fsts] using this)), Below.refl _ _⟩
end Go.Proofs.Ythgihhngddhejaa
