/-
  spec.Walk: its contract.
-/
import Derived.Test.YtnpafmjfhglbhaaTabS
import Derived.Test.YtnpafmjfhglbhaaWalkI
namespace Go.Proofs.Ytnpafmjfhglbhaa
open Go.RowKit

set_option linter.unusedSimpArgs false

set_option maxRecDepth 100000 in
set_option maxHeartbeats 4000000 in
theorem swalk_any (v vp : Value) (ls : List LLP) (a0 z : Int) (ps : List Int) (w : World) (hv : LLAt w v ls w.heap.size) (hn : totLL ls ≤ 1048576) (hp : HopsAt w vp ps w.heap.size) :
    Calls Try.prog 15 #[v, .int .i64 a0, .int .i64 z, vp] w fun e w' => WalkRes (datLL ls) a0 z ps w w' e := by
  obtain ⟨a, cap, rfl⟩ := hv.shape
  obtain ⟨pa, pcap, rfl⟩ := hp.shape
  have hnl := totLL_len ls
  have HV := hide (fun W (hb : Below w.heap.size w W) => hv.then hb)
  have HP := hide (fun W (hb : Below w.heap.size w W) => hp.then hb)
  have HST := hide (AtW.start (datLL ls) a0 z ps)
  have HIN := hide (fun x => in_any x 1 (ls.length : Int))
  obtain ⟨O, hO⟩ : ∃ O, O = walkO (datLL ls) a0 z ps := ⟨_, rfl⟩
  rw [← hO] at HST
  have HO := hide hO
  clear hv hp hO
  go_enter Try.func15, Try.ntmps15
  go_wp2
  have b1 := (Below.refl w.heap.size w).alloc (Nat.le_refl _) (.cells #[.int .i64 a0] 3)
  have o1 := walk_row1 w w.heap.size a0 (Nat.le_refl _)
  generalize w.alloc (.cells #[.int .i64 a0] 3) = W1 at *
  have B1 := hide b1
  have O1 := hide o1
  clear b1 o1
  go_loopw [10, 11, 12] (fun n x t wr => ∃ (i : Nat) (x' : Int) (way : List Int) (ra : Option Addr) (rc : Nat), x = .int .i64 x' ∧ n = .slice ra (i + 1) rc ∧ t = .int .i64 (i : Int) ∧ i ≤ 12 ∧ Hid (AtW (datLL ls) z ps O i x' way) ∧ Hid (wr.ownsRow w.heap.size 3 1 (.slice ra (i + 1) rc) way.length (intsOf way)) ∧ Below w.heap.size w wr) (fun n _ _ _ => 14 - lenV n)
  case atStart => exact ⟨0, a0, [a0], _, 1, rfl, rfl, rfl, by omega, HST, hide O1.out, B1.out⟩
  case round =>
    obtain ⟨i, x, way, ra, rc, rfl, rfl, rfl, hi12, HAT, HOW, hnx⟩ := hrel
    by_cases hxz : x = z
    · subst hxz
      have he := HO.out.symm.trans HAT.out.there
      go_wp2
      go_returns
      exact walkRes_yes he HOW.out hnx
    have hd : (x != z) = true := by simpa using hxz
    have HXZ := hide hxz
    clear hxz
    have hsz := hnx.size
    have HINX := hide (HIN.out x)
    by_cases hin : 1 ≤ x ∧ x ≤ (ls.length : Int)
    case neg =>
      have hib : inB x 1 (ls.length : Int) = false := by
        unfold inB
        rw [Bool.and_eq_false_iff]
        by_cases h1 : 1 ≤ x
        · exact .inr (decide_eq_false (fun h => hin ⟨h1, h⟩))
        · exact .inl (decide_eq_false h1)
      rw [hib] at HINX
      have he := HO.out.symm.trans (HAT.out.off HXZ.out (hopsD_off (by rw [datLL_len]; exact hin)))
      clear hin hib
      go_wp2_with fail
      refine (HINX.out _).mono ?_
      rintro e w1 ⟨rfl, rfl⟩
      go_wp2
      go_returns
      exact walkRes_no he rfl hnx
    have hib : inB x 1 (ls.length : Int) = true := by unfold inB; rw [decide_eq_true hin.1, decide_eq_true hin.2]; rfl
    rw [hib] at HINX
    by_cases h12 : i = 12
    · subst h12
      have he := HO.out.symm.trans (HAT.out.over HXZ.out)
      clear hib hin
      go_wp2_with fail
      refine (HINX.out _).mono ?_
      rintro e w1 ⟨rfl, rfl⟩
      go_wp2
      go_returns
      exact walkRes_no he rfl hnx
    have hi1 : ¬ (12 : Int) ≤ (i : Int) := by omega
    have hi2 : ¬ 12 ≤ i := by omega
    obtain ⟨n0, rfl⟩ : ∃ n0 : Nat, x = (n0 : Int) + 1 := ⟨(x - 1).toNat, by omega⟩
    have hn0 : n0 < ls.length := by omega
    obtain ⟨p, hp⟩ : ∃ p, ls[n0]? = some p := ⟨ls[n0], List.getElem?_eq_getElem hn0⟩
    obtain ⟨b, off, cap', hve, hbb, c0, hnr⟩ := (HV.out wr hnx).cell n0 p hp
    cases hve
    obtain ⟨na, nc, hne⟩ := hnr.shape
    rw [hne] at c0 hnr
    have hpt : p.2.length ≤ 1048576 := by have := totLL_mem (List.mem_of_getElem? hp); have := totJ_len p.2; omega
    have HHD := hide (hopsD_on (D := datLL ls) (a := (n0 : Int) + 1) (z := z) (by omega) (datLL_at hp))
    have hnr2 := fun W (hb : Below wr.heap.size wr W) => hnr.then hb
    have HNR := hide hnr2
    have HAT2 := hide (l11At_any (.slice na p.2.length nc) p.2 ⟨false, z, []⟩ (.slice none 0 0) wr hnr hpt)
    unfold lnC at HAT2
    have hki : (0 : Int) ≤ (n0 : Int) := by omega
    have hkj : (n0 : Int) < (ls.length : Int) := by omega
    clear hp hnr hne hib hin hnr2
    go_wp2_with fail
    refine (HINX.out _).mono ?_
    rintro e w1 ⟨rfl, rfl⟩
    go_wp2_with fail
    refine HAT2.out.mono ?_
    rintro e w2 ⟨rfl, b2⟩
    have bw2 : Below w.heap.size w w2 := hnx.trans (b2.mono hsz)
    have HOW2 := hide (owns_below HOW.out b2 (Nat.le_refl _))
    rw [← b2.cell (p := ⟨b, off + n0, none⟩) hbb] at c0
    have hw2s := bw2.size
    clear HOW
    rcases idxZ_cases (fstsJ p.2) false z with hk | ⟨k, xl, hk, hkx, hkl⟩
    · have he := HO.out.symm.trans (HAT.out.off HXZ.out (HHD.out.trans (hopsL_none hk)))
      simp only [] at *
      rw [hk]
      clear hk
      go_wp2
      go_returns
      exact walkRes_no he rfl bw2
    have hhl := hopsL_hit hk hkx
    simp only [] at *
    rw [hk]
    obtain ⟨q, hq⟩ : ∃ q, p.2[k]? = some q := by
      have := (List.getElem?_eq_some_iff.1 hkx).1
      simp [fstsJ] at this
      exact ⟨p.2[k], List.getElem?_eq_getElem this⟩
    have hqx : xl = q.1 := by have := fstsJ_at hq; rw [hkx] at this; exact Option.some.inj this
    subst hqx
    obtain ⟨b3, off3, cp3, hve3, hbb3, d0, d1, d2, hh⟩ := (HNR.out _ b2).cells k q hq
    cases hve3
    obtain ⟨ha, hc, hhe⟩ := hh.shape
    rw [hhe] at d2 hh
    have hkp : k < p.2.length := (List.getElem?_eq_some_iff.1 hq).1
    have hk1 : (0 : Int) ≤ (k : Int) := by omega
    have hk2 : (k : Int) < (p.2.length : Int) := by omega
    obtain ⟨H, hH⟩ : ∃ H, H = q.1.hops := ⟨_, rfl⟩
    rw [← hH] at d2 hh hhl
    have HHD2 := hide (HHD.out.trans hhl)
    have HU2 := hide hh
    clear hh hhe hq hkx hkl hk hhl hH d0 d1
    by_cases h0 : H.length = 0
    · have hH0 : H = [] := List.length_eq_zero_iff.1 h0
      have he := HO.out.symm.trans (HAT.out.off HXZ.out (HHD2.out.trans hH0))
      have hl0 : ((H.length : Int) == 0) = true := by rw [h0]; rfl
      clear hH0
      go_wp2
      go_returns
      exact walkRes_no he rfl bw2
    have hl0 : ((H.length : Int) == 0) = false := by simp; intro h; exact h0 (by rw [h]; rfl)
    have hHne : H ≠ [] := fun h => h0 (by rw [h]; rfl)
    obtain ⟨j, hj, hjl, hjg⟩ := hopAt_get (p := pickD ps i) hHne
    have HSTEP := HAT.out.step HXZ.out (by rw [HHD2.out]; exact hHne) h12
    rw [HHD2.out] at HSTEP
    obtain ⟨y, hy⟩ : ∃ y, y = hopAt H (pickD ps i) := ⟨_, rfl⟩
    rw [← hy] at HSTEP hjg
    have HS := hide HSTEP
    obtain ⟨b5, off5, cp5, hve5, hbb5, e0⟩ := HU2.out.cell j y hjg
    cases hve5
    have HWL := hide HAT.out.len
    have hp0 := pickD_pos ps i
    obtain ⟨pk, hpk⟩ : ∃ pk, pk = pickD ps i := ⟨_, rfl⟩
    rw [← hpk] at hj hp0
    clear hy HSTEP hjg HAT hHne h0 h12
    unfold pickD at hpk
    by_cases hip : i < ps.length
    case neg =>
      rw [if_neg hip] at hpk
      have hq0 : ¬ (i : Int) < (ps.length : Int) := by omega
      subst hpk
      have hj0 : j = 0 := by have h := hj; simp at h; omega
      subst hj0
      rw [Nat.add_zero] at e0
      have hl1 : (0 : Int) < (H.length : Int) := by omega
      clear hj
      go_wp2_with (first
        | (at_builtin; refine wpList_append_int _ rfl _ _ 34 rfl w.heap.size 3 Try.underlying34 Try.info3 (.slice ra (i + 1) rc) way y rfl (HOW2.out.alloc _) ⟨w2.heap.size, 0, none⟩ 1 rfl ?_ (by have := HWL.out; omega) (by simp; omega) ?_))
      (first | (rw [add_zero', World.cell?_alloc_at _ _ _ _ rfl]; rfl) | skip)
      intro v' w4 l' hl' hown' hgrow
      have hb4 : Below w.heap.size w w4 := (bw2.alloc hw2s _).grown hgrow (by simp; omega) (fun k hk => (HOW2.out.lt k hk).1)
      have hwl : l' = way ++ [y] := hl'.out
      subst hwl
      obtain ⟨va, vc, rfl⟩ := owns_len hown'
      have hlen : (way ++ [y]).length = i + 1 + 1 := by rw [List.length_append, HWL.out]; rfl
      rw [hlen] at hown' ⊢
      have OW4 := hide (show w4.ownsRow w.heap.size 3 1 (.slice va (i + 1 + 1) vc) (way ++ [y]).length (intsOf (way ++ [y])) by rw [hlen]; exact hown')
      clear hgrow hown' hl' hlen HOW2
      go_wp2
      go_roundw
      case rel => exact ⟨i + 1, y, way ++ [y], va, vc, rfl, rfl, by go_num, by have := HS.out.i12; omega, HS, OW4, hb4⟩
      case measure => simp [lenV]; omega
    rw [if_pos hip] at hpk
    obtain ⟨g, hg⟩ : ∃ g, ps[i]? = some g := ⟨ps[i], List.getElem?_eq_getElem hip⟩
    obtain ⟨b6, off6, cp6, hve6, hbb6, g0⟩ := (HP.out _ bw2).cell i g hg
    cases hve6
    have eg : ps.getD i 0 = g := by simp [List.getD, hg]
    rw [eg] at hpk
    have hq0 : (i : Int) < (ps.length : Int) := by omega
    have hq1 : (0 : Int) ≤ (i : Int) := by omega
    clear eg hg
    by_cases hg0 : 0 < g
    case neg =>
      have hpk0 : pk = 0 := by omega
      subst hpk0
      clear hpk
      have hj0 : j = 0 := by have h := hj; simp at h; omega
      subst hj0
      rw [Nat.add_zero] at e0
      have hl1 : (0 : Int) < (H.length : Int) := by omega
      clear hj
      go_wp2_with (first
        | (at_builtin; refine wpList_append_int _ rfl _ _ 34 rfl w.heap.size 3 Try.underlying34 Try.info3 (.slice ra (i + 1) rc) way y rfl (HOW2.out.alloc _) ⟨w2.heap.size, 0, none⟩ 1 rfl ?_ (by have := HWL.out; omega) (by simp; omega) ?_))
      (first | (rw [add_zero', World.cell?_alloc_at _ _ _ _ rfl]; rfl) | skip)
      intro v' w4 l' hl' hown' hgrow
      have hb4 : Below w.heap.size w w4 := (bw2.alloc hw2s _).grown hgrow (by simp; omega) (fun k hk => (HOW2.out.lt k hk).1)
      have hwl : l' = way ++ [y] := hl'.out
      subst hwl
      obtain ⟨va, vc, rfl⟩ := owns_len hown'
      have hlen : (way ++ [y]).length = i + 1 + 1 := by rw [List.length_append, HWL.out]; rfl
      rw [hlen] at hown' ⊢
      have OW4 := hide (show w4.ownsRow w.heap.size 3 1 (.slice va (i + 1 + 1) vc) (way ++ [y]).length (intsOf (way ++ [y])) by rw [hlen]; exact hown')
      clear hgrow hown' hl' hlen HOW2
      go_wp2
      go_roundw
      case rel => exact ⟨i + 1, y, way ++ [y], va, vc, rfl, rfl, by go_num, by have := HS.out.i12; omega, HS, OW4, hb4⟩
      case measure => simp [lenV]; omega
    have hpkg : pk = g := by omega
    subst hpkg
    clear hpk
    go_wp2_with (first
      | (at_builtin; refine wpList_append_int _ rfl _ _ 34 rfl w.heap.size 3 Try.underlying34 Try.info3 (.slice ra (i + 1) rc) way y rfl (HOW2.out.alloc _) ⟨w2.heap.size, 0, none⟩ 1 rfl ?_ (by have := HWL.out; omega) (by simp; omega) ?_))
    (first | (rw [add_zero', World.cell?_alloc_at _ _ _ _ rfl]; rfl) | skip)
    intro v' w4 l' hl' hown' hgrow
    have hb4 : Below w.heap.size w w4 := (bw2.alloc hw2s _).grown hgrow (by simp; omega) (fun k hk => (HOW2.out.lt k hk).1)
    have hwl : l' = way ++ [y] := hl'.out
    subst hwl
    obtain ⟨va, vc, rfl⟩ := owns_len hown'
    have hlen : (way ++ [y]).length = i + 1 + 1 := by rw [List.length_append, HWL.out]; rfl
    rw [hlen] at hown' ⊢
    have OW4 := hide (show w4.ownsRow w.heap.size 3 1 (.slice va (i + 1 + 1) vc) (way ++ [y]).length (intsOf (way ++ [y])) by rw [hlen]; exact hown')
    clear hgrow hown' hl' hlen HOW2
    go_wp2
    go_roundw
    case rel => exact ⟨i + 1, y, way ++ [y], va, vc, rfl, rfl, by go_num, by have := HS.out.i12; omega, HS, OW4, hb4⟩
    case measure => simp [lenV]; omega
end Go.Proofs.Ytnpafmjfhglbhaa
