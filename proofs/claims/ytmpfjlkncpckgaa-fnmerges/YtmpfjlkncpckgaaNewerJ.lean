/-
  impl.Newer: its contract.
-/
import Derived.Test.YtmpfjlkncpckgaaNewerS
import Derived.Test.YtmpfjlkncpckgaaPlaceJ
namespace Go.Proofs.Ytmpfjlkncpckgaa
open Go.RowKit

set_option linter.unusedSimpArgs false

set_option maxRecDepth 100000 in
set_option maxHeartbeats 4000000 in
theorem inewerI_any (v v2 : Value) (ps ts : List RP) (hi : Nat) (w : World) (hv : RecsIn w hi v ps) (hhi : hi ≤ w.heap.size) (ht : RecsIn w hi v2 ts) (hn : tot ps ≤ 1048576) (hn2 : tot ts ≤ 1048576) :
    Calls Try.prog 51 #[v, v2] w fun e w' => ∃ x qs, e = .returned x ∧ fsts qs = (fsts ps).filter (newerB (fsts ts)) ∧ RecsOwn w' w.heap.size w'.heap.size x qs ∧ Below w.heap.size w w' := by
  have hnl := tot_len ps
  have hnt := tot_len ts
  obtain ⟨a1, c1, rfl⟩ := owns_lenS hv.row
  obtain ⟨ta2, tc2, rfl⟩ := owns_lenS ht.row
  have HV := hide hv
  have HT := hide ht
  clear hv ht
  have R0 := hide (recs_lit w w.heap.size (Nat.le_refl _))
  have B0 : Below w.heap.size w (w.alloc (.cells #[] 26)) := (Below.refl _ _).alloc (Nat.le_refl _) _
  go_enter Try.func51, Try.ntmps51
  go_wp2
  generalize w.alloc (.cells #[] 26) = w0 at *
  go_loopw [13, 5] (fun i o wr => ∃ (k : Nat) (qs : List RP) (u : Value), k ≤ ps.length ∧ i = .int .i64 k ∧ o = u ∧ fsts qs = (fsts (ps.take k)).filter (newerB (fsts ts)) ∧ RecsOwn wr w.heap.size wr.heap.size u qs ∧ Below w.heap.size w wr) (fun i _ _ => ps.length - (intOf i).toNat)
  case atStart => exact ⟨0, [], _, by omega, rfl, rfl, by simp [fsts], R0.out, B0⟩
  case round =>
    obtain ⟨k, qs, u, hk, rfl, rfl, hmap, hown, hnx⟩ := hrel
    obtain ⟨ua, uc, rfl⟩ := owns_lenS hown.row
    have hsz := hnx.size
    by_cases hlt : k < ps.length
    · obtain ⟨p, hp⟩ : ∃ p, ps[k]? = some p := ⟨ps[k], List.getElem?_eq_getElem hlt⟩
      have hat := HV.out.at
      obtain ⟨b, off, cap', hve, hbb, c0, c1, c2, c3, c4, c5, c6, c7, _⟩ := hat.cells k p hp
      cases hve
      rw [← hnx.cell (p := ⟨b, off + k * 8, none⟩) (Nat.lt_of_lt_of_le hbb hhi)] at c0
      rw [← hnx.cell (p := ⟨b, off + k * 8 + 1, none⟩) (Nat.lt_of_lt_of_le hbb hhi)] at c1
      rw [← hnx.cell (p := ⟨b, off + k * 8 + 2, none⟩) (Nat.lt_of_lt_of_le hbb hhi)] at c2
      rw [← hnx.cell (p := ⟨b, off + k * 8 + 3, none⟩) (Nat.lt_of_lt_of_le hbb hhi)] at c3
      rw [← hnx.cell (p := ⟨b, off + k * 8 + 4, none⟩) (Nat.lt_of_lt_of_le hbb hhi)] at c4
      rw [← hnx.cell (p := ⟨b, off + k * 8 + 5, none⟩) (Nat.lt_of_lt_of_le hbb hhi)] at c5
      rw [← hnx.cell (p := ⟨b, off + k * 8 + 6, none⟩) (Nat.lt_of_lt_of_le hbb hhi)] at c6
      rw [← hnx.cell (p := ⟨b, off + k * 8 + 7, none⟩) (Nat.lt_of_lt_of_le hbb hhi)] at c7
      have hno := (HV.out.nears p (List.mem_of_getElem? hp)).keep (W' := wr) (fun j _ h2 _ => hnx.block j (by omega))
      obtain ⟨pa, pc, hpn⟩ := owns_lenS hno.1
      have HC := fun W (hb : Below wr.heap.size wr W) => ownRec_any p.1 p.2 0 W (owns_below hno.1 hb (Nat.le_refl _)) (by have := tot_mem (List.mem_of_getElem? hp); omega)
      have HA := fun W (hb : Below wr.heap.size wr W) => placeI_any (.slice ta2 ts.length tc2) ts hi p.1 W (HT.out.below (hnx.trans (hb.mono hsz)) hhi) (by have := hb.size; omega) hn2
      unfold recC at HC
      unfold keyV at HA
      rw [hpn] at c5 HC
      have HAT := hide HA
      have HKEY := hide (fun W => keyOf_raw p.1.area p.1.kind p.1.owner p.1.key p.1.seq (.slice pa p.1.near.length pc) p.1.cost p.1.far W)
      have HCP := hide HC
      have HP := hide hp
      have HM := hide hmap
      have OW := hide hown
      have HQL := hide (show qs.length ≤ 1048576 by
        have h1 := congrArg List.length hmap
        have h2 := List.length_filter_le (newerB (fsts ts)) (fsts (ps.take k))
        simp [fsts] at h1 h2
        omega)
      clear hp hmap hown hno hpn HC hat HA
      have hbw : b < wr.heap.size := by omega
      have hki : (0 : Int) ≤ (k : Int) := by omega
      have hkj : (k : Int) < (ps.length : Int) := by omega
      rcases atZ_cases (fsts ts) p.1 with hz | ⟨j, y, hz, hy, _⟩
      · have HF := hide (newer_none hz)
        rw [hz] at HAT
        rw [show plV (-1) = .tuple #[.int .i64 0, .bool false] from rfl] at HAT
        clear hz
        go_wp2_with fail
        refine (HKEY.out _).mono ?_
        rintro e wk ⟨rfl, bk⟩
        have hbx := heap_alloc_new wr (.cells #[.int .i64 p.1.area, .int .i64 p.1.kind, .int .i64 p.1.owner, .int .i64 p.1.key, .int .i64 p.1.seq, .slice pa p.1.near.length pc, .int .i64 p.1.cost, .bool p.1.far] 26)
        have hbk := (bk.block _ (by simp)).trans hbx
        have bwk : Below wr.heap.size wr wk := ((Below.refl _ _).alloc (Nat.le_refl _) _).trans (bk.mono (by simp))
        clear hbx bk
        go_wp2_with fail
        refine (HAT.out _ bwk).mono ?_
        rintro e w1 ⟨rfl, b1'⟩
        have b1 : Below wr.heap.size wr w1 := bwk.trans (b1'.mono bwk.size)
        have b1s := b1.size
        have hb1 := (b1'.block _ (lt_of_heap hbk)).trans hbk
        have d0 := cells_at hb1 0
        have d1 := cells_at hb1 1
        have d2 := cells_at hb1 2
        have d3 := cells_at hb1 3
        have d4 := cells_at hb1 4
        have d5 := cells_at hb1 5
        have d6 := cells_at hb1 6
        have d7 := cells_at hb1 7
        simp at d0 d1 d2 d3 d4 d5 d6 d7
        clear HAT HKEY hbk b1' bwk hb1
        go_wp2
        go_quiet (fail)
        go_wp2_with fail
        refine (HCP.out _ (bdrewN b1)).mono ?_
        rintro e w2 ⟨v1, rfl, hn2', b2'⟩
        obtain ⟨n1a, n1c, rfl⟩ := owns_lenS hn2'
        have hn2 := owns_baseS (b0 := wr.heap.size) hn2' (show wr.heap.size ≤ w1.heap.size by omega)
        have b2 : Below wr.heap.size wr w2 := (bdrewN b1 (n := nq)).trans (b2'.mono (show wr.heap.size ≤ w1.heap.size by omega))
        clear hn2' b2'
        have b2s := b2.size
        go_wp2_with (first
          | (at_builtin; refine append_struct5 encP_len (by omega) (by omega) _ rfl _ _ 41 rfl w.heap.size 26 Try.underlying41 (.agg (recC zeroRD (.slice none 0 0))) rfl Try.infoRec _ qs (p.1, .slice n1a p.1.near.length n1c) (encP_one _ _ _ _) rfl ((owns_below OW.out.row b2 (Nat.le_refl _)).alloc _) ⟨w2.heap.size, 0, none⟩ 1 rfl (news_struct (cs := encP (p.1, .slice n1a p.1.near.length n1c))) (by have := HQL.out; omega) (by simp; omega) ?_))
        intro v' w4 hown' hgrow
        have ow4 := OW.out.push (p := (p.1, .slice n1a p.1.near.length n1c)) (b2.alloc b2.size _) (by omega) (NearOwn.wide (NearOwn.keep ⟨hn2, fun k hk => (hn2.lt k hk).2⟩ (fun j _ _ h3 => Below.heap_alloc _ _ _ h3)) (Nat.le_refl _) (by simp)) hown' hgrow
        obtain ⟨va, vc, rfl⟩ := owns_lenS hown'
        have B4 : Below w.heap.size w w4 := ((hnx.trans (b2.mono hsz)).alloc (by omega) _).grown hgrow (by simp; omega) (fun k hk => (OW.out.row.lt k hk).1)
        have OW4 := hide ow4
        clear ow4 hown' hgrow hn2
        go_wp2
        go_roundw
        case rel => exact ⟨k + 1, qs ++ [(p.1, .slice n1a p.1.near.length n1c)], _, by omega, by go_num, rfl, by rw [filter_take _ HP.out, HF.out, ← HM.out]; simp [fsts], OW4.out, B4⟩
        case measure => simp [intOf]; omega
      · obtain ⟨t, htj, hty⟩ := fsts_some hy
        have hjl : j < ts.length := (List.getElem?_eq_some_iff.1 htj).1
        have hji : (0 : Int) ≤ (j : Int) := by omega
        have hjj : (j : Int) < (ts.length : Int) := by omega
        have hnat := newer_at hz hy
        rw [hz] at HAT
        rw [show plV (j : Int) = .tuple #[.int .i64 (j : Int), .bool true] from by unfold plV; rw [if_neg (by omega)]] at HAT
        obtain ⟨b2, off2, cp2, hve2, hbb2, _, _, _, _, e4, _, _, _, _⟩ := HT.out.at.cells j t htj
        rw [hty] at e4
        cases hve2
        rw [← hnx.cell (p := ⟨b2, off2 + j * 8 + 4, none⟩) (Nat.lt_of_lt_of_le hbb2 hhi)] at e4
        have hbw2 : b2 < wr.heap.size := by omega
        clear hz hy htj hty
        by_cases hsq : y.seq < p.1.seq
        · have HF := hide (show newerB (fsts ts) p.1 = true by rw [hnat]; exact decide_eq_true hsq)
          clear hnat
          go_wp2_with fail
          refine (HKEY.out _).mono ?_
          rintro e wk ⟨rfl, bk⟩
          have hbx := heap_alloc_new wr (.cells #[.int .i64 p.1.area, .int .i64 p.1.kind, .int .i64 p.1.owner, .int .i64 p.1.key, .int .i64 p.1.seq, .slice pa p.1.near.length pc, .int .i64 p.1.cost, .bool p.1.far] 26)
          have hbk := (bk.block _ (by simp)).trans hbx
          have bwk : Below wr.heap.size wr wk := ((Below.refl _ _).alloc (Nat.le_refl _) _).trans (bk.mono (by simp))
          clear hbx bk
          go_wp2_with fail
          refine (HAT.out _ bwk).mono ?_
          rintro e w1 ⟨rfl, b1'⟩
          have b1 : Below wr.heap.size wr w1 := bwk.trans (b1'.mono bwk.size)
          have b1s := b1.size
          have hb1 := (b1'.block _ (lt_of_heap hbk)).trans hbk
          have d0 := cells_at hb1 0
          have d1 := cells_at hb1 1
          have d2 := cells_at hb1 2
          have d3 := cells_at hb1 3
          have d4 := cells_at hb1 4
          have d5 := cells_at hb1 5
          have d6 := cells_at hb1 6
          have d7 := cells_at hb1 7
          simp at d0 d1 d2 d3 d4 d5 d6 d7
          clear HAT HKEY hbk b1' bwk hb1
          rw [← b1.cell (p := ⟨b2, off2 + j * 8 + 4, none⟩) hbw2] at e4
          go_wp2
          go_quiet (fail)
          go_wp2_with fail
          refine (HCP.out _ (bdrewN b1)).mono ?_
          rintro e w2 ⟨v1, rfl, hn2', b2'⟩
          obtain ⟨n1a, n1c, rfl⟩ := owns_lenS hn2'
          have hn2 := owns_baseS (b0 := wr.heap.size) hn2' (show wr.heap.size ≤ w1.heap.size by omega)
          have bz : Below wr.heap.size wr w2 := (bdrewN b1 (n := nq)).trans (b2'.mono (show wr.heap.size ≤ w1.heap.size by omega))
          clear hn2' b2'
          have bzs := bz.size
          go_wp2_with (first
            | (at_builtin; refine append_struct5 encP_len (by omega) (by omega) _ rfl _ _ 41 rfl w.heap.size 26 Try.underlying41 (.agg (recC zeroRD (.slice none 0 0))) rfl Try.infoRec _ qs (p.1, .slice n1a p.1.near.length n1c) (encP_one _ _ _ _) rfl ((owns_below OW.out.row bz (Nat.le_refl _)).alloc _) ⟨w2.heap.size, 0, none⟩ 1 rfl (news_struct (cs := encP (p.1, .slice n1a p.1.near.length n1c))) (by have := HQL.out; omega) (by simp; omega) ?_))
          intro v' w4 hown' hgrow
          have ow4 := OW.out.push (p := (p.1, .slice n1a p.1.near.length n1c)) (bz.alloc bz.size _) (by omega) (NearOwn.wide (NearOwn.keep ⟨hn2, fun k hk => (hn2.lt k hk).2⟩ (fun j _ _ h3 => Below.heap_alloc _ _ _ h3)) (Nat.le_refl _) (by simp)) hown' hgrow
          obtain ⟨va, vc, rfl⟩ := owns_lenS hown'
          have B4 : Below w.heap.size w w4 := ((hnx.trans (bz.mono hsz)).alloc (by omega) _).grown hgrow (by simp; omega) (fun k hk => (OW.out.row.lt k hk).1)
          have OW4 := hide ow4
          clear ow4 hown' hgrow hn2
          go_wp2
          go_roundw
          case rel => exact ⟨k + 1, qs ++ [(p.1, .slice n1a p.1.near.length n1c)], _, by omega, by go_num, rfl, by rw [filter_take _ HP.out, HF.out, ← HM.out]; simp [fsts], OW4.out, B4⟩
          case measure => simp [intOf]; omega
        · have HF := hide (show newerB (fsts ts) p.1 = false by rw [hnat]; exact decide_eq_false hsq)
          clear hnat
          go_wp2_with fail
          refine (HKEY.out _).mono ?_
          rintro e wk ⟨rfl, bk⟩
          have hbx := heap_alloc_new wr (.cells #[.int .i64 p.1.area, .int .i64 p.1.kind, .int .i64 p.1.owner, .int .i64 p.1.key, .int .i64 p.1.seq, .slice pa p.1.near.length pc, .int .i64 p.1.cost, .bool p.1.far] 26)
          have hbk := (bk.block _ (by simp)).trans hbx
          have bwk : Below wr.heap.size wr wk := ((Below.refl _ _).alloc (Nat.le_refl _) _).trans (bk.mono (by simp))
          clear hbx bk
          go_wp2_with fail
          refine (HAT.out _ bwk).mono ?_
          rintro e w1 ⟨rfl, b1'⟩
          have b1 : Below wr.heap.size wr w1 := bwk.trans (b1'.mono bwk.size)
          have b1s := b1.size
          have hb1 := (b1'.block _ (lt_of_heap hbk)).trans hbk
          have d0 := cells_at hb1 0
          have d1 := cells_at hb1 1
          have d2 := cells_at hb1 2
          have d3 := cells_at hb1 3
          have d4 := cells_at hb1 4
          have d5 := cells_at hb1 5
          have d6 := cells_at hb1 6
          have d7 := cells_at hb1 7
          simp at d0 d1 d2 d3 d4 d5 d6 d7
          clear HAT HKEY hbk b1' bwk hb1
          rw [← b1.cell (p := ⟨b2, off2 + j * 8 + 4, none⟩) hbw2] at e4
          go_wp2
          go_quiet (fail)
          have OWA := hide ((OW.out.below (bdrewN (n := nq) b1) (Nat.le_refl _)).wide (Nat.le_refl _) (show wr.heap.size ≤ (w1.drewN nq).heap.size from b1s))
          clear OW
          have OW := OWA
          have BW1 : Below w.heap.size w (w1.drewN nq) := hnx.trans ((bdrewN b1).mono hsz)
          go_wp2
          go_roundw
          case rel => exact ⟨k + 1, qs, _, by omega, by go_num, rfl, by rw [filter_take _ HP.out, HF.out, ← HM.out]; simp, OW.out, BW1⟩
          case measure => simp [intOf]; omega
    · have hkn : k = ps.length := by omega
      have KN := hide hkn
      have OW := hide hown
      have HM := hide hmap
      clear hkn hown hmap
      go_wp2
      go_ret
      have h1 := HM.out
      rw [KN.out, List.take_length] at h1
      first
        | exact ⟨_, qs, rfl, h1, OW.out, hnx⟩
        | exact ⟨_, rfl, qs, h1, OW.out, hnx⟩

end Go.Proofs.Ytmpfjlkncpckgaa
