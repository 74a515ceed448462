/-
  impl.ownRecords, takes: their contracts.
-/
import Derived.Test.YtdaigojpeofmpaaInstS
import Derived.Test.YtdaigojpeofmpaaIRecOk
namespace Go.Proofs.Ytdaigojpeofmpaa
open Go.RowKit

set_option linter.unusedSimpArgs false

set_option maxRecDepth 100000 in
set_option maxHeartbeats 2000000 in
theorem ownList_any (v : Value) (ps : List RP) (hi : Nat) (w : World) (hv : RecsIn w hi v ps) (hhi : hi ≤ w.heap.size) (hn : tot ps ≤ 1048576) :
    Calls Try.prog 42 #[v] w fun e w' => ∃ x qs, e = .returned x ∧ fsts qs = fsts ps ∧ RecsOwn w' w.heap.size w'.heap.size x qs ∧ Below w.heap.size w w' := by
  have hnl := tot_len ps
  obtain ⟨a1, c1, rfl⟩ := owns_lenS hv.row
  have HV := hide hv
  clear hv
  obtain ⟨i0, hi0, hz0, hz1, hz2⟩ := info_parts Try.infoRec
  have HI := hide hi0
  have HZ := hide hz0
  clear hi0 hz0
  go_enter Try.func42, Try.ntmps42
  go_wp2_with (first
    | (refine wpList_make_own _ rfl _ _ 74 rfl w.heap.size 56 i0 (.agg (recC zeroRD (.slice none 0 0))) 8 Try.underlying74 HI.out HZ.out hz1 .i64 .i64 (ps.length : Int) ps.length rfl rfl rfl (by rw [hz2]; omega) (by unfold maxLen; omega) (Nat.le_refl _) ?_))
  intro w0 ho0 hg0
  have B0 : Below w.heap.size w w0 := (Below.refl _ _).grown hg0 (Nat.le_refl _) (fun k hk => by simp at hk)
  have R0 := hide (show RecsOwn w0 w.heap.size w0.heap.size (.slice (some ⟨w.heap.size, 0, none⟩) 0 ps.length) [] from ⟨by simpa [flat] using ho0, fun k hk => (ho0.lt k hk).2, by simp, by simp⟩)
  clear ho0 hg0
  go_wp2
  go_loopw [11, 3] (fun i o wr => ∃ (k : Nat) (qs : List RP) (u : Value), k ≤ ps.length ∧ i = .int .i64 k ∧ o = u ∧ fsts qs = fsts (ps.take k) ∧ RecsOwn wr w.heap.size wr.heap.size u qs ∧ Below w.heap.size w wr) (fun i _ _ => ps.length - (intOf i).toNat)
  case atStart => exact ⟨0, [], _, by omega, rfl, rfl, by simp [fsts], R0.out, B0⟩
  case round =>
    obtain ⟨k, qs, u, hk, rfl, rfl, hmap, hown, hnx⟩ := hrel
    obtain ⟨ua, uc, rfl⟩ := owns_lenS hown.row
    have hsz := hnx.size
    by_cases hlt : k < ps.length
    · obtain ⟨p, hp⟩ : ∃ p, ps[k]? = some p := ⟨ps[k], List.getElem?_eq_getElem hlt⟩
      have hat := HV.out.at
      obtain ⟨b, off, cap', hve, hbb, c0, c1, c2, c3, c4, c5, c6, c7, _⟩ := hat.cells k p hp
      cases hve
      rw [← hnx.cell (p := ⟨b, off + k * 8, none⟩) (Nat.lt_of_lt_of_le hbb hhi)] at c0
      rw [← hnx.cell (p := ⟨b, off + k * 8 + 1, none⟩) (Nat.lt_of_lt_of_le hbb hhi)] at c1
      rw [← hnx.cell (p := ⟨b, off + k * 8 + 2, none⟩) (Nat.lt_of_lt_of_le hbb hhi)] at c2
      rw [← hnx.cell (p := ⟨b, off + k * 8 + 3, none⟩) (Nat.lt_of_lt_of_le hbb hhi)] at c3
      rw [← hnx.cell (p := ⟨b, off + k * 8 + 4, none⟩) (Nat.lt_of_lt_of_le hbb hhi)] at c4
      rw [← hnx.cell (p := ⟨b, off + k * 8 + 5, none⟩) (Nat.lt_of_lt_of_le hbb hhi)] at c5
      rw [← hnx.cell (p := ⟨b, off + k * 8 + 6, none⟩) (Nat.lt_of_lt_of_le hbb hhi)] at c6
      rw [← hnx.cell (p := ⟨b, off + k * 8 + 7, none⟩) (Nat.lt_of_lt_of_le hbb hhi)] at c7
      have hno := (HV.out.nears p (List.mem_of_getElem? hp)).keep (W' := wr) (fun j _ h2 _ => hnx.block j (by omega))
      obtain ⟨pa, pc, hpn⟩ := owns_lenS hno.1
      have HC := fun o => ownRec_any p.1 p.2 0 (wr.alloc o) (hno.1.alloc o) (by have := tot_mem (List.mem_of_getElem? hp); omega)
      unfold recC at HC
      rw [hpn] at c5 HC
      have HCP := hide HC
      have HP := hide hp
      have HM := hide hmap
      have OW := hide hown
      have HQL := hide (show qs.length ≤ 1048576 by
        have h1 := congrArg List.length hmap
        simp [fsts] at h1
        omega)
      clear hp hmap hown hno hpn HC hat
      have hki : (0 : Int) ≤ (k : Int) := by omega
      have hkj : (k : Int) < (ps.length : Int) := by omega
      go_wp2_with fail
      refine (HCP.out _).mono ?_
      rintro e w2 ⟨v1, rfl, hn2', b2'⟩
      obtain ⟨n1a, n1c, rfl⟩ := owns_lenS hn2'
      have hn2 := owns_baseS (b0 := wr.heap.size) hn2' (by simp)
      have b2 : Below wr.heap.size wr w2 := ((Below.refl _ _).alloc (Nat.le_refl _) _).trans (b2'.mono (by simp))
      clear hn2' b2'
      have b2s := b2.size
      go_wp2_with (first
        | (at_builtin; refine append_struct5 encP_len (by omega) (by omega) _ rfl _ _ 74 rfl w.heap.size 56 Try.underlying74 (.agg (recC zeroRD (.slice none 0 0))) rfl Try.infoRec _ qs (p.1, .slice n1a p.1.near.length n1c) (encP_one _ _ _ _) rfl ((owns_below OW.out.row b2 (Nat.le_refl _)).alloc _) ⟨w2.heap.size, 0, none⟩ 1 rfl (news_struct (cs := encP (p.1, .slice n1a p.1.near.length n1c))) (by have := HQL.out; omega) (by simp; omega) ?_))
      intro v' w4 hown' hgrow
      have ow4 := OW.out.push (p := (p.1, .slice n1a p.1.near.length n1c)) (b2.alloc b2.size _) (by omega) (NearOwn.wide (NearOwn.keep ⟨hn2, fun k hk => (hn2.lt k hk).2⟩ (fun j _ _ h3 => Below.heap_alloc _ _ _ h3)) (Nat.le_refl _) (by simp)) hown' hgrow
      obtain ⟨va, vc, rfl⟩ := owns_lenS hown'
      have B4 : Below w.heap.size w w4 := ((hnx.trans (b2.mono hsz)).alloc (by omega) _).grown hgrow (by simp; omega) (fun k hk => (OW.out.row.lt k hk).1)
      have OW4 := hide ow4
      clear ow4 hown' hgrow hn2
      go_wp2
      go_roundw
      case rel => exact ⟨k + 1, qs ++ [(p.1, .slice n1a p.1.near.length n1c)], _, by omega, by go_num, rfl, by rw [show fsts (ps.take (k + 1)) = fsts (ps.take k) ++ [p.1] from map_take HP.out, ← HM.out]; simp [fsts], OW4.out, B4⟩
      case measure => simp [intOf]; omega
    · have hkn : k = ps.length := by omega
      have KN := hide hkn
      have OW := hide hown
      have HM := hide hmap
      clear hkn hown hmap
      go_wp2
      go_ret
      have h1 := HM.out
      rw [KN.out, List.take_length] at h1
      first
        | exact ⟨_, qs, rfl, h1, OW.out, hnx⟩
        | exact ⟨_, rfl, qs, h1, OW.out, hnx⟩

set_option maxRecDepth 100000 in
set_option maxHeartbeats 2000000 in
theorem takes_any (v : Value) (ps : List RP) (hi : Nat) (r : RP) (w : World) (hv : RecsIn w hi v ps) (hhi : hi ≤ w.heap.size) (hn : tot ps ≤ 1048576) (hr : NearOwn w 0 hi r) (hrl : r.1.near.length ≤ 1048576) :
    Calls Try.prog 79 #[v, .agg (recC r.1 r.2)] w fun e w' => e = .returned (.bool (takesB (fsts ps) r.1)) ∧ Below w.heap.size w w' := by
  obtain ⟨TT, hTT⟩ : ∃ T, T = takesB (fsts ps) r.1 := ⟨_, rfl⟩
  rw [← hTT]
  have HT0 := hide hTT
  clear hTT
  have hnl := tot_len ps
  have hfl : (fsts ps).length = ps.length := by simp [fsts]
  obtain ⟨a1, c1, rfl⟩ := owns_lenS hv.row
  obtain ⟨ra, rc, hrn⟩ := owns_lenS hr.1
  have BX : Below w.heap.size w (w.alloc (.cells #[.int .i64 r.1.area, .int .i64 r.1.kind, .int .i64 r.1.owner, .int .i64 r.1.key, .int .i64 r.1.seq, .slice ra r.1.near.length rc, .int .i64 r.1.cost, .bool r.1.far] 56)) := (Below.refl _ _).alloc (Nat.le_refl _) _
  have hx := heap_alloc_new w (.cells #[.int .i64 r.1.area, .int .i64 r.1.kind, .int .i64 r.1.owner, .int .i64 r.1.key, .int .i64 r.1.seq, .slice ra r.1.near.length rc, .int .i64 r.1.cost, .bool r.1.far] 56)
  obtain ⟨w0, hw0⟩ : ∃ w0, w0 = w.alloc (.cells #[.int .i64 r.1.area, .int .i64 r.1.kind, .int .i64 r.1.owner, .int .i64 r.1.key, .int .i64 r.1.seq, .slice ra r.1.near.length rc, .int .i64 r.1.cost, .bool r.1.far] 56) := ⟨_, rfl⟩
  rw [← hw0] at BX hx
  have hsx := lt_of_heap hx
  have HOK := hide (irecOk_any r.2 r.1 w0 hrl (RowAt.then (owns_rowAt hr.1) BX))
  have HAT := hide (fun W (hb : Below w.heap.size w W) => placeI_any (.slice a1 ps.length c1) ps hi r.1 W (hv.below hb hhi) (by have := hb.size; omega) hn)
  have HKEY := hide (fun W => keyOf_raw r.1.area r.1.kind r.1.owner r.1.key r.1.seq (.slice ra r.1.near.length rc) r.1.cost r.1.far W)
  have HV := hide hv
  unfold keyV at HAT
  unfold recC at *
  rw [hrn] at HOK ⊢
  clear hv hr hrn
  by_cases hok : recOkB r.1 = false
  · rw [hok] at HOK
    have HF := hide (HT0.out.trans (takes_bad (xs := fsts ps) hok))
    clear hok
    go_enter Try.func79, Try.ntmps79
    go_wp2_with fail
    rw [← hw0]
    refine HOK.out.mono ?_
    rintro e w1 ⟨rfl, b1⟩
    go_wp2
    go_ret
    exact ⟨ret_bool HF.out, BX.trans (b1.mono BX.size)⟩
  have hok : recOkB r.1 = true := by cases h : recOkB r.1 with | true => rfl | false => exact absurd h hok
  rw [hok] at HOK
  rcases atZ_cases (fsts ps) r.1 with hz | ⟨j, y, hz, hy, _⟩
  · rw [hz] at HAT
    rw [show plV (-1) = .tuple #[.int .i64 0, .bool false] from rfl] at HAT
    have ht := takes_none hok hz
    rw [hfl] at ht
    have HF := hide (HT0.out.trans ht)
    clear ht hz hfl hok
    go_enter Try.func79, Try.ntmps79
    go_wp2_with fail
    rw [← hw0]
    clear hw0
    refine HOK.out.mono ?_
    rintro e w1 ⟨rfl, b1⟩
    have b1s := b1.size
    have BW1 : Below w.heap.size w w1 := BX.trans (b1.mono BX.size)
    have hx1 := (b1.block _ hsx).trans hx
    have d0 := cells_at hx1 0
    have d1 := cells_at hx1 1
    have d2 := cells_at hx1 2
    have d3 := cells_at hx1 3
    have d4 := cells_at hx1 4
    have d5 := cells_at hx1 5
    have d6 := cells_at hx1 6
    have d7 := cells_at hx1 7
    simp at d0 d1 d2 d3 d4 d5 d6 d7
    clear b1 hx
    go_wp2_with fail
    refine (HKEY.out _).mono ?_
    rintro e w2 ⟨rfl, b2⟩
    have BW2 : Below w.heap.size w w2 := BW1.trans (b2.mono BW1.size)
    have hx2 := (b2.block _ (lt_of_heap hx1)).trans hx1
    clear b2 hx1 d0 d1 d2 d3 d4 d5 d6 d7
    go_wp2_with fail
    refine (HAT.out _ BW2).mono ?_
    rintro e w3 ⟨rfl, b3⟩
    have BW3 : Below w.heap.size w w3 := BW2.trans (b3.mono BW2.size)
    have hx3 := (b3.block _ (lt_of_heap hx2)).trans hx2
    clear b3 hx2 BW1
    go_wp2
    go_ret
    exact ⟨ret_bool (by rw [HF.out]; exact decide_eq_decide.2 (by omega)), BW3⟩
  · rw [hz] at HAT
    rw [show plV (j : Int) = .tuple #[.int .i64 (j : Int), .bool true] from by unfold plV; rw [if_neg (by omega)]] at HAT
    have ht := takes_at hok hz hy
    have HF := hide (HT0.out.trans ht)
    obtain ⟨t, htj, hty⟩ := fsts_some6 hy
    have hjl : j < ps.length := (List.getElem?_eq_some_iff.1 htj).1
    have hji : (0 : Int) ≤ (j : Int) := by omega
    have hjj : (j : Int) < (ps.length : Int) := by omega
    obtain ⟨b, off, cp, hve, hbb, _, _, _, _, e4, _, _, _, _⟩ := HV.out.at.cells j t htj
    cases hve
    rw [hty] at e4
    have hbw : b < w.heap.size := by omega
    clear hz hy htj hty hfl hok ht
    go_enter Try.func79, Try.ntmps79
    go_wp2_with fail
    rw [← hw0]
    clear hw0
    refine HOK.out.mono ?_
    rintro e w1 ⟨rfl, b1⟩
    have b1s := b1.size
    have BW1 : Below w.heap.size w w1 := BX.trans (b1.mono BX.size)
    have hx1 := (b1.block _ hsx).trans hx
    have d0 := cells_at hx1 0
    have d1 := cells_at hx1 1
    have d2 := cells_at hx1 2
    have d3 := cells_at hx1 3
    have d4 := cells_at hx1 4
    have d5 := cells_at hx1 5
    have d6 := cells_at hx1 6
    have d7 := cells_at hx1 7
    simp at d0 d1 d2 d3 d4 d5 d6 d7
    clear b1 hx
    go_wp2_with fail
    refine (HKEY.out _).mono ?_
    rintro e w2 ⟨rfl, b2⟩
    have BW2 : Below w.heap.size w w2 := BW1.trans (b2.mono BW1.size)
    have hx2 := (b2.block _ (lt_of_heap hx1)).trans hx1
    clear b2 hx1 d0 d1 d2 d3 d4 d5 d6 d7
    go_wp2_with fail
    refine (HAT.out _ BW2).mono ?_
    rintro e w3 ⟨rfl, b3⟩
    have BW3 : Below w.heap.size w w3 := BW2.trans (b3.mono BW2.size)
    have hx3 := (b3.block _ (lt_of_heap hx2)).trans hx2
    clear b3 hx2 BW1
    rw [← BW3.cell (p := ⟨b, off + j * 8 + 4, none⟩) hbw] at e4
    have d4 := cells_at hx3 4
    simp at d4
    go_wp2
    go_quiet (fail)
    go_wp2
    go_ret
    exact ⟨ret_bool (by rw [HF.out]), BW3.trans ⟨rfl, rfl, rfl, Nat.le_refl _, fun _ _ => rfl⟩⟩
end Go.Proofs.Ytdaigojpeofmpaa
