/-
  spec.Scope, impl.Scope: their contracts.
-/
import Derived.Test.YtnfockhbcneegaaPushK
namespace Go.Proofs.Ytnfockhbcneegaa
open Go.RowKit

def inScope (a : Int) (x : RecD) : Bool := x.area == a || x.area == 9

set_option maxRecDepth 100000 in
set_option maxHeartbeats 2000000 in
theorem sscope_any (v : Value) (ps : List RP) (lo hi : Nat) (a : Int) (w : World) (hv : RecsOwn w lo hi v ps) (hhi : hi ≤ w.heap.size) (hn : tot ps ≤ 1048576) :
    Calls Try.prog 9 #[v, .int .i64 a] w fun e w' => ∃ x qs, e = .returned x ∧ fsts qs = (fsts ps).filter (inScope a) ∧ RecsOwn w' w.heap.size w'.heap.size x qs ∧ Below w.heap.size w w' := by
  have hnl := tot_len ps
  obtain ⟨a1, c1, rfl⟩ := owns_lenS hv.row
  have HV := hide hv
  clear hv
  have R0 := hide (recs_lit w w.heap.size (Nat.le_refl _))
  have B0 : Below w.heap.size w (w.alloc (.cells #[] 50)) := (Below.refl _ _).alloc (Nat.le_refl _) _
  go_enter Try.func9, Try.ntmps9
  go_wp2
  generalize w.alloc (.cells #[] 50) = w0 at *
  go_loopw [6, 5] (fun i o wr => ∃ (k : Nat) (qs : List RP) (u : Value), k ≤ ps.length ∧ i = .int .i64 k ∧ o = u ∧ fsts qs = (fsts (ps.take k)).filter (inScope a) ∧ RecsOwn wr w.heap.size wr.heap.size u qs ∧ Below w.heap.size w wr) (fun i _ _ => ps.length - (intOf i).toNat)
  case atStart => exact ⟨0, [], _, by omega, rfl, rfl, by simp [fsts], R0.out, B0⟩
  case round =>
    obtain ⟨k, qs, u, hk, rfl, rfl, hmap, hown, hnx⟩ := hrel
    obtain ⟨ua, uc, rfl⟩ := owns_lenS hown.row
    have hsz := hnx.size
    by_cases hlt : k < ps.length
    · obtain ⟨p, hp⟩ : ∃ p, ps[k]? = some p := ⟨ps[k], List.getElem?_eq_getElem hlt⟩
      have hat := HV.out.at
      obtain ⟨b, off, cap', hve, hbb, c0, c1, c2, c3, c4, c5, c6, c7, _⟩ := hat.cells k p hp
      cases hve
      rw [← hnx.cell (p := ⟨b, off + k * 8, none⟩) (Nat.lt_of_lt_of_le hbb hhi)] at c0
      rw [← hnx.cell (p := ⟨b, off + k * 8 + 1, none⟩) (Nat.lt_of_lt_of_le hbb hhi)] at c1
      rw [← hnx.cell (p := ⟨b, off + k * 8 + 2, none⟩) (Nat.lt_of_lt_of_le hbb hhi)] at c2
      rw [← hnx.cell (p := ⟨b, off + k * 8 + 3, none⟩) (Nat.lt_of_lt_of_le hbb hhi)] at c3
      rw [← hnx.cell (p := ⟨b, off + k * 8 + 4, none⟩) (Nat.lt_of_lt_of_le hbb hhi)] at c4
      rw [← hnx.cell (p := ⟨b, off + k * 8 + 5, none⟩) (Nat.lt_of_lt_of_le hbb hhi)] at c5
      rw [← hnx.cell (p := ⟨b, off + k * 8 + 6, none⟩) (Nat.lt_of_lt_of_le hbb hhi)] at c6
      rw [← hnx.cell (p := ⟨b, off + k * 8 + 7, none⟩) (Nat.lt_of_lt_of_le hbb hhi)] at c7
      have hno := (HV.out.nears p (List.mem_of_getElem? hp)).keep (W' := wr) (fun j _ h2 _ => hnx.block j (by omega))
      obtain ⟨pa, pc, hpn⟩ := owns_lenS hno.1
      have HC := copy5_any p.1 p.2 lo wr hno.1 (by have := tot_mem (List.mem_of_getElem? hp); omega)
      unfold recC at HC
      rw [hpn] at c5 HC
      have HCP := hide HC
      have HP := hide hp
      have HM := hide hmap
      have OW := hide hown
      have HQL := hide (show qs.length ≤ 1048576 by
        have h1 := congrArg List.length hmap
        have h2 := List.length_filter_le (inScope a) (fsts (ps.take k))
        simp [fsts] at h1 h2
        omega)
      clear hp hmap hown hno hpn HC hat
      have hki : (0 : Int) ≤ (k : Int) := by omega
      have hkj : (k : Int) < (ps.length : Int) := by omega
      by_cases h1 : p.1.area = a
      · have HF := hide (show inScope a p.1 = true by simp [inScope, h1])
        have hd : (p.1.area == a) = true := by simpa using h1
        clear h1
        go_wp2_with fail
        refine HCP.out.mono ?_
        rintro e w2 ⟨v1, rfl, hn2, b2⟩
        obtain ⟨n1a, n1c, rfl⟩ := owns_lenS hn2
        have b2s := b2.size
        go_wp2_with (first
          | (at_builtin; refine append_struct5 encP_len (by omega) (by omega) _ rfl _ _ 24 rfl w.heap.size 50 Try.underlying24 (.agg (recC zeroRD (.slice none 0 0))) rfl Try.infoRec _ qs (p.1, .slice n1a p.1.near.length n1c) (encP_one _ _ _ _) rfl ((owns_below OW.out.row b2 (Nat.le_refl _)).alloc _) ⟨w2.heap.size, 0, none⟩ 1 rfl (news_struct (cs := encP (p.1, .slice n1a p.1.near.length n1c))) (by have := HQL.out; omega) (by simp; omega) ?_))
        intro v' w4 hown' hgrow
        have ow4 := OW.out.push (p := (p.1, .slice n1a p.1.near.length n1c)) (b2.alloc b2.size _) (by omega) (NearOwn.wide (NearOwn.keep ⟨hn2, fun k hk => (hn2.lt k hk).2⟩ (fun j _ _ h3 => Below.heap_alloc _ _ _ h3)) (Nat.le_refl _) (by simp)) hown' hgrow
        obtain ⟨va, vc, rfl⟩ := owns_lenS hown'
        have B4 : Below w.heap.size w w4 := ((hnx.trans (b2.mono hsz)).alloc (by omega) _).grown hgrow (by simp; omega) (fun k hk => (OW.out.row.lt k hk).1)
        have OW4 := hide ow4
        clear ow4 hown' hgrow hn2
        go_wp2
        go_roundw
        case rel => exact ⟨k + 1, qs ++ [(p.1, .slice n1a p.1.near.length n1c)], _, by omega, by go_num, rfl, by rw [filter_take _ HP.out, HF.out, ← HM.out]; simp [fsts], OW4.out, B4⟩
        case measure => simp [intOf]; omega
      have hd : (p.1.area == a) = false := by simpa using h1
      by_cases h2 : p.1.area = 9
      · have HF := hide (show inScope a p.1 = true by simp [inScope, h2])
        have hd2 : (p.1.area == 9) = true := by simpa using h2
        clear h1 h2
        go_wp2_with fail
        refine HCP.out.mono ?_
        rintro e w2 ⟨v1, rfl, hn2, b2⟩
        obtain ⟨n1a, n1c, rfl⟩ := owns_lenS hn2
        have b2s := b2.size
        go_wp2_with (first
          | (at_builtin; refine append_struct5 encP_len (by omega) (by omega) _ rfl _ _ 24 rfl w.heap.size 50 Try.underlying24 (.agg (recC zeroRD (.slice none 0 0))) rfl Try.infoRec _ qs (p.1, .slice n1a p.1.near.length n1c) (encP_one _ _ _ _) rfl ((owns_below OW.out.row b2 (Nat.le_refl _)).alloc _) ⟨w2.heap.size, 0, none⟩ 1 rfl (news_struct (cs := encP (p.1, .slice n1a p.1.near.length n1c))) (by have := HQL.out; omega) (by simp; omega) ?_))
        intro v' w4 hown' hgrow
        have ow4 := OW.out.push (p := (p.1, .slice n1a p.1.near.length n1c)) (b2.alloc b2.size _) (by omega) (NearOwn.wide (NearOwn.keep ⟨hn2, fun k hk => (hn2.lt k hk).2⟩ (fun j _ _ h3 => Below.heap_alloc _ _ _ h3)) (Nat.le_refl _) (by simp)) hown' hgrow
        obtain ⟨va, vc, rfl⟩ := owns_lenS hown'
        have B4 : Below w.heap.size w w4 := ((hnx.trans (b2.mono hsz)).alloc (by omega) _).grown hgrow (by simp; omega) (fun k hk => (OW.out.row.lt k hk).1)
        have OW4 := hide ow4
        clear ow4 hown' hgrow hn2
        go_wp2
        go_roundw
        case rel => exact ⟨k + 1, qs ++ [(p.1, .slice n1a p.1.near.length n1c)], _, by omega, by go_num, rfl, by rw [filter_take _ HP.out, HF.out, ← HM.out]; simp [fsts], OW4.out, B4⟩
        case measure => simp [intOf]; omega
      · have HF := hide (show inScope a p.1 = false by simp [inScope, h1, h2])
        have hd2 : (p.1.area == 9) = false := by simpa using h2
        clear h1 h2
        go_wp2
        go_roundw
        case rel => exact ⟨k + 1, qs, _, by omega, by go_num, rfl, by rw [filter_take _ HP.out, HF.out, ← HM.out]; simp, OW.out, hnx⟩
        case measure => simp [intOf]; omega
    · have hkn : k = ps.length := by omega
      have KN := hide hkn
      have OW := hide hown
      have HM := hide hmap
      clear hkn hown hmap
      go_wp2
      go_ret
      have h1 := HM.out
      rw [KN.out, List.take_length] at h1
      first
        | exact ⟨_, qs, rfl, h1, OW.out, hnx⟩
        | exact ⟨_, rfl, qs, h1, OW.out, hnx⟩

set_option maxRecDepth 100000 in
set_option maxHeartbeats 2000000 in
theorem iscope_any (v : Value) (ps : List RP) (lo hi : Nat) (a : Int) (w : World) (hv : RecsOwn w lo hi v ps) (hhi : hi ≤ w.heap.size) (hn : tot ps ≤ 1048576) :
    Calls Try.prog 24 #[v, .int .i64 a] w fun e w' => ∃ x qs, e = .returned x ∧ fsts qs = (fsts ps).filter (inScope a) ∧ RecsOwn w' w.heap.size w'.heap.size x qs ∧ Below w.heap.size w w' := by
  have hnl := tot_len ps
  obtain ⟨a1, c1, rfl⟩ := owns_lenS hv.row
  have HV := hide hv
  clear hv
  have R0 := hide (recs_lit w w.heap.size (Nat.le_refl _))
  have B0 : Below w.heap.size w (w.alloc (.cells #[] 50)) := (Below.refl _ _).alloc (Nat.le_refl _) _
  go_enter Try.func24, Try.ntmps24
  go_wp2
  generalize w.alloc (.cells #[] 50) = w0 at *
  go_loopw [11, 5] (fun i o wr => ∃ (k : Nat) (qs : List RP) (u : Value), k ≤ ps.length ∧ i = .int .i64 k ∧ o = u ∧ fsts qs = (fsts (ps.take k)).filter (inScope a) ∧ RecsOwn wr w.heap.size wr.heap.size u qs ∧ Below w.heap.size w wr) (fun i _ _ => ps.length - (intOf i).toNat)
  case atStart => exact ⟨0, [], _, by omega, rfl, rfl, by simp [fsts], R0.out, B0⟩
  case round =>
    obtain ⟨k, qs, u, hk, rfl, rfl, hmap, hown, hnx⟩ := hrel
    obtain ⟨ua, uc, rfl⟩ := owns_lenS hown.row
    have hsz := hnx.size
    by_cases hlt : k < ps.length
    · obtain ⟨p, hp⟩ : ∃ p, ps[k]? = some p := ⟨ps[k], List.getElem?_eq_getElem hlt⟩
      have hat := HV.out.at
      obtain ⟨b, off, cap', hve, hbb, c0, c1, c2, c3, c4, c5, c6, c7, _⟩ := hat.cells k p hp
      cases hve
      rw [← hnx.cell (p := ⟨b, off + k * 8, none⟩) (Nat.lt_of_lt_of_le hbb hhi)] at c0
      rw [← hnx.cell (p := ⟨b, off + k * 8 + 1, none⟩) (Nat.lt_of_lt_of_le hbb hhi)] at c1
      rw [← hnx.cell (p := ⟨b, off + k * 8 + 2, none⟩) (Nat.lt_of_lt_of_le hbb hhi)] at c2
      rw [← hnx.cell (p := ⟨b, off + k * 8 + 3, none⟩) (Nat.lt_of_lt_of_le hbb hhi)] at c3
      rw [← hnx.cell (p := ⟨b, off + k * 8 + 4, none⟩) (Nat.lt_of_lt_of_le hbb hhi)] at c4
      rw [← hnx.cell (p := ⟨b, off + k * 8 + 5, none⟩) (Nat.lt_of_lt_of_le hbb hhi)] at c5
      rw [← hnx.cell (p := ⟨b, off + k * 8 + 6, none⟩) (Nat.lt_of_lt_of_le hbb hhi)] at c6
      rw [← hnx.cell (p := ⟨b, off + k * 8 + 7, none⟩) (Nat.lt_of_lt_of_le hbb hhi)] at c7
      have hno := (HV.out.nears p (List.mem_of_getElem? hp)).keep (W' := wr) (fun j _ h2 _ => hnx.block j (by omega))
      obtain ⟨pa, pc, hpn⟩ := owns_lenS hno.1
      have HC := fun o => ownRec_any p.1 p.2 lo (wr.alloc o) (hno.1.alloc o) (by have := tot_mem (List.mem_of_getElem? hp); omega)
      unfold recC at HC
      rw [hpn] at c5 HC
      have HCP := hide HC
      have HP := hide hp
      have HM := hide hmap
      have OW := hide hown
      have HQL := hide (show qs.length ≤ 1048576 by
        have h1 := congrArg List.length hmap
        have h2 := List.length_filter_le (inScope a) (fsts (ps.take k))
        simp [fsts] at h1 h2
        omega)
      clear hp hmap hown hno hpn HC hat
      have hki : (0 : Int) ≤ (k : Int) := by omega
      have hkj : (k : Int) < (ps.length : Int) := by omega
      by_cases h1 : p.1.area = a
      · have HF := hide (show inScope a p.1 = true by simp [inScope, h1])
        have hd : (p.1.area == a) = true := by simpa using h1
        clear h1
        go_wp2_with fail
        refine (HCP.out _).mono ?_
        rintro e w2 ⟨v1, rfl, hn2', b2'⟩
        obtain ⟨n1a, n1c, rfl⟩ := owns_lenS hn2'
        have hn2 := owns_baseS (b0 := wr.heap.size) hn2' (by simp)
        have b2 : Below wr.heap.size wr w2 := ((Below.refl _ _).alloc (Nat.le_refl _) _).trans (b2'.mono (by simp))
        clear hn2' b2'
        have b2s := b2.size
        go_wp2_with (first
          | (at_builtin; refine append_struct5 encP_len (by omega) (by omega) _ rfl _ _ 24 rfl w.heap.size 50 Try.underlying24 (.agg (recC zeroRD (.slice none 0 0))) rfl Try.infoRec _ qs (p.1, .slice n1a p.1.near.length n1c) (encP_one _ _ _ _) rfl ((owns_below OW.out.row b2 (Nat.le_refl _)).alloc _) ⟨w2.heap.size, 0, none⟩ 1 rfl (news_struct (cs := encP (p.1, .slice n1a p.1.near.length n1c))) (by have := HQL.out; omega) (by simp; omega) ?_))
        intro v' w4 hown' hgrow
        have ow4 := OW.out.push (p := (p.1, .slice n1a p.1.near.length n1c)) (b2.alloc b2.size _) (by omega) (NearOwn.wide (NearOwn.keep ⟨hn2, fun k hk => (hn2.lt k hk).2⟩ (fun j _ _ h3 => Below.heap_alloc _ _ _ h3)) (Nat.le_refl _) (by simp)) hown' hgrow
        obtain ⟨va, vc, rfl⟩ := owns_lenS hown'
        have B4 : Below w.heap.size w w4 := ((hnx.trans (b2.mono hsz)).alloc (by omega) _).grown hgrow (by simp; omega) (fun k hk => (OW.out.row.lt k hk).1)
        have OW4 := hide ow4
        clear ow4 hown' hgrow hn2
        go_wp2
        go_roundw
        case rel => exact ⟨k + 1, qs ++ [(p.1, .slice n1a p.1.near.length n1c)], _, by omega, by go_num, rfl, by rw [filter_take _ HP.out, HF.out, ← HM.out]; simp [fsts], OW4.out, B4⟩
        case measure => simp [intOf]; omega
      have hd : (p.1.area == a) = false := by simpa using h1
      by_cases h2 : p.1.area = 9
      · have HF := hide (show inScope a p.1 = true by simp [inScope, h2])
        have hd2 : (p.1.area == 9) = true := by simpa using h2
        clear h1 h2
        go_wp2_with fail
        refine (HCP.out _).mono ?_
        rintro e w2 ⟨v1, rfl, hn2', b2'⟩
        obtain ⟨n1a, n1c, rfl⟩ := owns_lenS hn2'
        have hn2 := owns_baseS (b0 := wr.heap.size) hn2' (by simp)
        have b2 : Below wr.heap.size wr w2 := ((Below.refl _ _).alloc (Nat.le_refl _) _).trans (b2'.mono (by simp))
        clear hn2' b2'
        have b2s := b2.size
        go_wp2_with (first
          | (at_builtin; refine append_struct5 encP_len (by omega) (by omega) _ rfl _ _ 24 rfl w.heap.size 50 Try.underlying24 (.agg (recC zeroRD (.slice none 0 0))) rfl Try.infoRec _ qs (p.1, .slice n1a p.1.near.length n1c) (encP_one _ _ _ _) rfl ((owns_below OW.out.row b2 (Nat.le_refl _)).alloc _) ⟨w2.heap.size, 0, none⟩ 1 rfl (news_struct (cs := encP (p.1, .slice n1a p.1.near.length n1c))) (by have := HQL.out; omega) (by simp; omega) ?_))
        intro v' w4 hown' hgrow
        have ow4 := OW.out.push (p := (p.1, .slice n1a p.1.near.length n1c)) (b2.alloc b2.size _) (by omega) (NearOwn.wide (NearOwn.keep ⟨hn2, fun k hk => (hn2.lt k hk).2⟩ (fun j _ _ h3 => Below.heap_alloc _ _ _ h3)) (Nat.le_refl _) (by simp)) hown' hgrow
        obtain ⟨va, vc, rfl⟩ := owns_lenS hown'
        have B4 : Below w.heap.size w w4 := ((hnx.trans (b2.mono hsz)).alloc (by omega) _).grown hgrow (by simp; omega) (fun k hk => (OW.out.row.lt k hk).1)
        have OW4 := hide ow4
        clear ow4 hown' hgrow hn2
        go_wp2
        go_roundw
        case rel => exact ⟨k + 1, qs ++ [(p.1, .slice n1a p.1.near.length n1c)], _, by omega, by go_num, rfl, by rw [filter_take _ HP.out, HF.out, ← HM.out]; simp [fsts], OW4.out, B4⟩
        case measure => simp [intOf]; omega
      · have HF := hide (show inScope a p.1 = false by simp [inScope, h1, h2])
        have hd2 : (p.1.area == 9) = false := by simpa using h2
        clear h1 h2
        have OWA := hide ((OW.out.below ((Below.refl wr.heap.size wr).alloc (Nat.le_refl _) (.cells (recC p.1 (.slice pa p.1.near.length pc)) 50)) (Nat.le_refl _)).wide (Nat.le_refl _) (by simp : _ ≤ (wr.alloc (.cells (recC p.1 (.slice pa p.1.near.length pc)) 50)).heap.size))
        unfold recC at OWA
        clear OW
        have OW := OWA
        go_wp2
        go_roundw
        case rel => exact ⟨k + 1, qs, _, by omega, by go_num, rfl, by rw [filter_take _ HP.out, HF.out, ← HM.out]; simp, OW.out, hnx.alloc hsz _⟩
        case measure => simp [intOf]; omega
    · have hkn : k = ps.length := by omega
      have KN := hide hkn
      have OW := hide hown
      have HM := hide hmap
      clear hkn hown hmap
      go_wp2
      go_ret
      have h1 := HM.out
      rw [KN.out, List.take_length] at h1
      first
        | exact ⟨_, qs, rfl, h1, OW.out, hnx⟩
        | exact ⟨_, rfl, qs, h1, OW.out, hnx⟩
end Go.Proofs.Ytnfockhbcneegaa
