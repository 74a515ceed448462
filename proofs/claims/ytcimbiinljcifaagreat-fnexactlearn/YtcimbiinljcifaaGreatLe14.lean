/-
  impl.ownRecords, takes: their contracts.
  spec.l06Copy: a way with a row of its own.
  impl.ownNet: a net with rows of its own.
  impl.ownSelf: a node with rows of its own.
-/
import Derived.Test.YtcimbiinljcifaaGreatLe12
import Derived.Test.YtcimbiinljcifaaGreatLe13
import Derived.Test.YtcimbiinljcifaaGreatLe5
import Derived.Test.YtcimbiinljcifaaGreatLe6
import Derived.Test.YtcimbiinljcifaaGreatLe7
import Derived.Deep.Cut
namespace Go.Proofs.YtcimbiinljcifaaGreat
open Go.RowKit

set_option linter.unusedSimpArgs false

set_option maxRecDepth 100000 in
set_option maxHeartbeats 2000000 in
theorem ownList_any (v : Value) (ps : List RP) (hi : Nat) (w : World) (hv : RecsIn w hi v ps) (hhi : hi ≤ w.heap.size) (hn : tot ps ≤ 1048576) :
    Calls Tryz.prog 65 #[v] w fun e w' => ∃ x qs, e = .returned x ∧ fsts qs = fsts ps ∧ RecsOwn w' w.heap.size w'.heap.size x qs ∧ Below w.heap.size w w' := by
  have hnl := tot_len ps
  obtain ⟨a1, c1, rfl⟩ := owns_lenS hv.row
  have HV := hide hv
  clear hv
  obtain ⟨i0, hi0, hz0, hz1, hz2⟩ := info_parts Tryz.infoRec
  have HI := hide hi0
  have HZ := hide hz0
  clear hi0 hz0
  go_enter Tryz.func65, Tryz.ntmps65
  go_wp2_with (first
    | (refine wpList_make_own _ rfl _ _ 64 rfl w.heap.size 40 i0 (.agg (recC zeroRD (.slice none 0 0))) 8 Tryz.underlying64 HI.out HZ.out hz1 .i64 .i64 (ps.length : Int) ps.length rfl rfl rfl (by rw [hz2]; omega) (by unfold maxLen; omega) (Nat.le_refl _) ?_))
  intro w0 ho0 hg0
  have B0 : Below w.heap.size w w0 := (Below.refl _ _).grown hg0 (Nat.le_refl _) (fun k hk => by simp at hk)
  have R0 := hide (show RecsOwn w0 w.heap.size w0.heap.size (.slice (some ⟨w.heap.size, 0, none⟩) 0 ps.length) [] from ⟨by simpa [flat] using ho0, fun k hk => (ho0.lt k hk).2, by simp, by simp⟩)
  clear ho0 hg0
  go_wp2
  go_loopw [11, 3] (fun i o wr => ∃ (k : Nat) (qs : List RP) (u : Value), k ≤ ps.length ∧ i = .int .i64 k ∧ o = u ∧ fsts qs = fsts (ps.take k) ∧ RecsOwn wr w.heap.size wr.heap.size u qs ∧ Below w.heap.size w wr) (fun i _ _ => ps.length - (intOf i).toNat)
  case atStart => exact ⟨0, [], _, by omega, rfl, rfl, by simp [fsts], R0.out, B0⟩
  case round =>
    obtain ⟨k, qs, u, hk, rfl, rfl, hmap, hown, hnx⟩ := hrel
    obtain ⟨ua, uc, rfl⟩ := owns_lenS hown.row
    have hsz := hnx.size
    by_cases hlt : k < ps.length
    · obtain ⟨p, hp⟩ : ∃ p, ps[k]? = some p := ⟨ps[k], List.getElem?_eq_getElem hlt⟩
      have hat := HV.out.at
      obtain ⟨b, off, cap', hve, hbb, c0, c1, c2, c3, c4, c5, c6, c7, _⟩ := hat.cells k p hp
      cases hve
      rw [← hnx.cell (p := ⟨b, off + k * 8, none⟩) (Nat.lt_of_lt_of_le hbb hhi)] at c0
      rw [← hnx.cell (p := ⟨b, off + k * 8 + 1, none⟩) (Nat.lt_of_lt_of_le hbb hhi)] at c1
      rw [← hnx.cell (p := ⟨b, off + k * 8 + 2, none⟩) (Nat.lt_of_lt_of_le hbb hhi)] at c2
      rw [← hnx.cell (p := ⟨b, off + k * 8 + 3, none⟩) (Nat.lt_of_lt_of_le hbb hhi)] at c3
      rw [← hnx.cell (p := ⟨b, off + k * 8 + 4, none⟩) (Nat.lt_of_lt_of_le hbb hhi)] at c4
      rw [← hnx.cell (p := ⟨b, off + k * 8 + 5, none⟩) (Nat.lt_of_lt_of_le hbb hhi)] at c5
      rw [← hnx.cell (p := ⟨b, off + k * 8 + 6, none⟩) (Nat.lt_of_lt_of_le hbb hhi)] at c6
      rw [← hnx.cell (p := ⟨b, off + k * 8 + 7, none⟩) (Nat.lt_of_lt_of_le hbb hhi)] at c7
      have hno := (HV.out.nears p (List.mem_of_getElem? hp)).keep (W' := wr) (fun j _ h2 _ => hnx.block j (by omega))
      obtain ⟨pa, pc, hpn⟩ := owns_lenS hno.1
      have HC := fun o => ownRec_any p.1 p.2 0 (wr.alloc o) (hno.1.alloc o) (by have := tot_mem (List.mem_of_getElem? hp); omega)
      unfold recC at HC
      rw [hpn] at c5 HC
      have HCP := hide HC
      have HP := hide hp
      have HM := hide hmap
      have OW := hide hown
      have HQL := hide (show qs.length ≤ 1048576 by
        have h1 := congrArg List.length hmap
        simp [fsts] at h1
        omega)
      clear hp hmap hown hno hpn HC hat
      have hki : (0 : Int) ≤ (k : Int) := by omega
      have hkj : (k : Int) < (ps.length : Int) := by omega
      go_wp2_with fail
      refine (HCP.out _).mono ?_
      rintro e w2 ⟨v1, rfl, hn2', b2'⟩
      obtain ⟨n1a, n1c, rfl⟩ := owns_lenS hn2'
      have hn2 := owns_baseS (b0 := wr.heap.size) hn2' (by simp)
      have b2 : Below wr.heap.size wr w2 := ((Below.refl _ _).alloc (Nat.le_refl _) _).trans (b2'.mono (by simp))
      clear hn2' b2'
      have b2s := b2.size
      go_wp2_with (first
        | (at_builtin; refine append_struct5 encP_len (by omega) (by omega) _ rfl _ _ 64 rfl w.heap.size 40 Tryz.underlying64 (.agg (recC zeroRD (.slice none 0 0))) rfl Tryz.infoRec _ qs (p.1, .slice n1a p.1.near.length n1c) (encP_one _ _ _ _) rfl ((owns_below OW.out.row b2 (Nat.le_refl _)).alloc _) ⟨w2.heap.size, 0, none⟩ 1 rfl (news_struct (cs := encP (p.1, .slice n1a p.1.near.length n1c))) (by have := HQL.out; omega) (by simp; omega) ?_))
      intro v' w4 hown' hgrow
      have ow4 := OW.out.push (p := (p.1, .slice n1a p.1.near.length n1c)) (b2.alloc b2.size _) (by omega) (NearOwn.wide (NearOwn.keep ⟨hn2, fun k hk => (hn2.lt k hk).2⟩ (fun j _ _ h3 => Below.heap_alloc _ _ _ h3)) (Nat.le_refl _) (by simp)) hown' hgrow
      obtain ⟨va, vc, rfl⟩ := owns_lenS hown'
      have B4 : Below w.heap.size w w4 := ((hnx.trans (b2.mono hsz)).alloc (by omega) _).grown hgrow (by simp; omega) (fun k hk => (OW.out.row.lt k hk).1)
      have OW4 := hide ow4
      clear ow4 hown' hgrow hn2
      go_wp2
      go_roundw
      case rel => exact ⟨k + 1, qs ++ [(p.1, .slice n1a p.1.near.length n1c)], _, by omega, by go_num, rfl, by rw [show fsts (ps.take (k + 1)) = fsts (ps.take k) ++ [p.1] from map_take HP.out, ← HM.out]; simp [fsts], OW4.out, B4⟩
      case measure => simp [intOf]; omega
    · have hkn : k = ps.length := by omega
      have KN := hide hkn
      have OW := hide hown
      have HM := hide hmap
      clear hkn hown hmap
      go_wp2
      go_ret
      have h1 := HM.out
      rw [KN.out, List.take_length] at h1
      first
        | exact ⟨_, qs, rfl, h1, OW.out, hnx⟩
        | exact ⟨_, rfl, qs, h1, OW.out, hnx⟩

set_option maxRecDepth 100000 in
set_option maxHeartbeats 2000000 in
theorem takes_any (v : Value) (ps : List RP) (hi : Nat) (r : RP) (w : World) (hv : RecsIn w hi v ps) (hhi : hi ≤ w.heap.size) (hn : tot ps ≤ 1048576) (hr : NearOwn w 0 hi r) (hrl : r.1.near.length ≤ 1048576) :
    Calls Tryz.prog 66 #[v, .agg (recC r.1 r.2)] w fun e w' => e = .returned (.bool (takesB (fsts ps) r.1)) ∧ Below w.heap.size w w' := by
  obtain ⟨TT, hTT⟩ : ∃ T, T = takesB (fsts ps) r.1 := ⟨_, rfl⟩
  rw [← hTT]
  have HT0 := hide hTT
  clear hTT
  have hnl := tot_len ps
  have hfl : (fsts ps).length = ps.length := by simp [fsts]
  obtain ⟨a1, c1, rfl⟩ := owns_lenS hv.row
  obtain ⟨ra, rc, hrn⟩ := owns_lenS hr.1
  have BX : Below w.heap.size w (w.alloc (.cells #[.int .i64 r.1.area, .int .i64 r.1.kind, .int .i64 r.1.owner, .int .i64 r.1.key, .int .i64 r.1.seq, .slice ra r.1.near.length rc, .int .i64 r.1.cost, .bool r.1.far] 40)) := (Below.refl _ _).alloc (Nat.le_refl _) _
  have hx := heap_alloc_new w (.cells #[.int .i64 r.1.area, .int .i64 r.1.kind, .int .i64 r.1.owner, .int .i64 r.1.key, .int .i64 r.1.seq, .slice ra r.1.near.length rc, .int .i64 r.1.cost, .bool r.1.far] 40)
  obtain ⟨w0, hw0⟩ : ∃ w0, w0 = w.alloc (.cells #[.int .i64 r.1.area, .int .i64 r.1.kind, .int .i64 r.1.owner, .int .i64 r.1.key, .int .i64 r.1.seq, .slice ra r.1.near.length rc, .int .i64 r.1.cost, .bool r.1.far] 40) := ⟨_, rfl⟩
  rw [← hw0] at BX hx
  have hsx := lt_of_heap hx
  have HOK := hide (irecOk_any r.2 r.1 w0 hrl (RowAt.then (owns_rowAt hr.1) BX))
  have HAT := hide (fun W (hb : Below w.heap.size w W) => placeI_any (.slice a1 ps.length c1) ps hi r.1 W (hv.below hb hhi) (by have := hb.size; omega) hn)
  have HKEY := hide (fun W => keyOf_raw r.1.area r.1.kind r.1.owner r.1.key r.1.seq (.slice ra r.1.near.length rc) r.1.cost r.1.far W)
  have HV := hide hv
  unfold keyV at HAT
  unfold recC at *
  rw [hrn] at HOK ⊢
  clear hv hr hrn
  by_cases hok : recOkB r.1 = false
  · rw [hok] at HOK
    have HF := hide (HT0.out.trans (takes_bad (xs := fsts ps) hok))
    clear hok
    go_enter Tryz.func66, Tryz.ntmps66
    go_wp2_with fail
    rw [← hw0]
    refine HOK.out.mono ?_
    rintro e w1 ⟨rfl, b1⟩
    go_wp2
    go_ret
    exact ⟨ret_bool HF.out, BX.trans (b1.mono BX.size)⟩
  have hok : recOkB r.1 = true := by cases h : recOkB r.1 with | true => rfl | false => exact absurd h hok
  rw [hok] at HOK
  rcases atZ_cases (fsts ps) r.1 with hz | ⟨j, y, hz, hy, _⟩
  · rw [hz] at HAT
    rw [show plV (-1) = .tuple #[.int .i64 0, .bool false] from rfl] at HAT
    have ht := takes_none hok hz
    rw [hfl] at ht
    have HF := hide (HT0.out.trans ht)
    clear ht hz hfl hok
    go_enter Tryz.func66, Tryz.ntmps66
    go_wp2_with fail
    rw [← hw0]
    clear hw0
    refine HOK.out.mono ?_
    rintro e w1 ⟨rfl, b1⟩
    have b1s := b1.size
    have BW1 : Below w.heap.size w w1 := BX.trans (b1.mono BX.size)
    have hx1 := (b1.block _ hsx).trans hx
    have d0 := cells_at hx1 0
    have d1 := cells_at hx1 1
    have d2 := cells_at hx1 2
    have d3 := cells_at hx1 3
    have d4 := cells_at hx1 4
    have d5 := cells_at hx1 5
    have d6 := cells_at hx1 6
    have d7 := cells_at hx1 7
    simp at d0 d1 d2 d3 d4 d5 d6 d7
    clear b1 hx
    go_wp2_with fail
    refine (HKEY.out _).mono ?_
    rintro e w2 ⟨rfl, b2⟩
    have BW2 : Below w.heap.size w w2 := BW1.trans (b2.mono BW1.size)
    have hx2 := (b2.block _ (lt_of_heap hx1)).trans hx1
    clear b2 hx1 d0 d1 d2 d3 d4 d5 d6 d7
    go_wp2_with fail
    refine (HAT.out _ BW2).mono ?_
    rintro e w3 ⟨rfl, b3⟩
    have BW3 : Below w.heap.size w w3 := BW2.trans (b3.mono BW2.size)
    have hx3 := (b3.block _ (lt_of_heap hx2)).trans hx2
    clear b3 hx2 BW1
    go_wp2
    go_ret
    exact ⟨ret_bool (by rw [HF.out]; exact decide_eq_decide.2 (by omega)), BW3⟩
  · rw [hz] at HAT
    rw [show plV (j : Int) = .tuple #[.int .i64 (j : Int), .bool true] from by unfold plV; rw [if_neg (by omega)]] at HAT
    have ht := takes_at hok hz hy
    have HF := hide (HT0.out.trans ht)
    obtain ⟨t, htj, hty⟩ := fsts_some6 hy
    have hjl : j < ps.length := (List.getElem?_eq_some_iff.1 htj).1
    have hji : (0 : Int) ≤ (j : Int) := by omega
    have hjj : (j : Int) < (ps.length : Int) := by omega
    obtain ⟨b, off, cp, hve, hbb, _, _, _, _, e4, _, _, _, _⟩ := HV.out.at.cells j t htj
    cases hve
    rw [hty] at e4
    have hbw : b < w.heap.size := by omega
    clear hz hy htj hty hfl hok ht
    go_enter Tryz.func66, Tryz.ntmps66
    go_wp2_with fail
    rw [← hw0]
    clear hw0
    refine HOK.out.mono ?_
    rintro e w1 ⟨rfl, b1⟩
    have b1s := b1.size
    have BW1 : Below w.heap.size w w1 := BX.trans (b1.mono BX.size)
    have hx1 := (b1.block _ hsx).trans hx
    have d0 := cells_at hx1 0
    have d1 := cells_at hx1 1
    have d2 := cells_at hx1 2
    have d3 := cells_at hx1 3
    have d4 := cells_at hx1 4
    have d5 := cells_at hx1 5
    have d6 := cells_at hx1 6
    have d7 := cells_at hx1 7
    simp at d0 d1 d2 d3 d4 d5 d6 d7
    clear b1 hx
    go_wp2_with fail
    refine (HKEY.out _).mono ?_
    rintro e w2 ⟨rfl, b2⟩
    have BW2 : Below w.heap.size w w2 := BW1.trans (b2.mono BW1.size)
    have hx2 := (b2.block _ (lt_of_heap hx1)).trans hx1
    clear b2 hx1 d0 d1 d2 d3 d4 d5 d6 d7
    go_wp2_with fail
    refine (HAT.out _ BW2).mono ?_
    rintro e w3 ⟨rfl, b3⟩
    have BW3 : Below w.heap.size w w3 := BW2.trans (b3.mono BW2.size)
    have hx3 := (b3.block _ (lt_of_heap hx2)).trans hx2
    clear b3 hx2 BW1
    rw [← BW3.cell (p := ⟨b, off + j * 8 + 4, none⟩) hbw] at e4
    have d4 := cells_at hx3 4
    simp at d4
    go_wp2
    go_quiet (fail)
    go_wp2
    go_ret
    exact ⟨ret_bool (by rw [HF.out]), BW3.trans ⟨rfl, rfl, rfl, Nat.le_refl _, fun _ _ => rfl⟩⟩
end Go.Proofs.YtcimbiinljcifaaGreat
namespace Go.Proofs.YtcimbiinljcifaaGreat
open Go.RowKit

set_option linter.unusedSimpArgs false

theorem intE_one (z : Int) : ∀ u ∈ intE z, u.oneCell' = true := by
  intro u hu
  simp [intE] at hu
  subst hu
  rfl

theorem int_flat1 (l : List Int) : (flat intE l).length = l.length * 1 := flat_len intE_len l

end Go.Proofs.YtcimbiinljcifaaGreat
namespace Go.Proofs.YtcimbiinljcifaaGreat
open Go.RowKit

set_option linter.unusedSimpArgs false

theorem lk_flat4 (l : List Lk) : (flat lkE l).length = l.length * 4 := flat_len lkE_len l
theorem th_flat4 (l : List Th) : (flat thE l).length = l.length * 4 := flat_len thE_len l
theorem lkE_one4 (a : Lk) : ∀ u ∈ lkE a, u.oneCell' = true := by
  intro u hu
  simp [lkE] at hu
  rcases hu with rfl | rfl | rfl | rfl <;> rfl
theorem thE_one4 (a : Th) : ∀ u ∈ thE a, u.oneCell' = true := by
  intro u hu
  simp [thE] at hu
  rcases hu with rfl | rfl | rfl | rfl <;> rfl
theorem Tryz.infoLk4 : (Tryz.prog.info? 127).map (fun i => (i.zero, i.size, i.bytes)) = some (some (.agg #[.int .i64 0, .int .i64 0, .int .i64 0, .int .i64 0]), 4, 32) := by kernel_rfl
theorem Tryz.infoTh4 : (Tryz.prog.info? 131).map (fun i => (i.zero, i.size, i.bytes)) = some (some (.agg #[.int .i64 0, .int .i64 0, .int .i64 0, .bool false]), 4, 32) := by kernel_rfl

set_option maxRecDepth 100000 in
set_option maxHeartbeats 2000000 in
theorem ownNet_any (n : Int) (v1 v2 : Value) (ls : List Lk) (ts : List Th) (hi : Nat) (w : World) (h1 : w.ownsRow 0 127 4 v1 ls.length (flat lkE ls)) (t1 : ∀ k, v1.ownBlock = some k → k < hi) (h2 : w.ownsRow 0 131 4 v2 ts.length (flat thE ts)) (t2 : ∀ k, v2.ownBlock = some k → k < hi) (hhi : hi ≤ w.heap.size) (hlL : ls.length ≤ 1048576) (hlT : ts.length ≤ 1048576) :
    Calls Tryz.prog 64 #[.agg #[.int .i64 n, v1, v2]] w fun e w' => ∃ u1 u2, e = .returned (.agg #[.int .i64 n, u1, u2]) ∧ w'.ownsRow w.heap.size 127 4 u1 ls.length (flat lkE ls) ∧ w'.ownsRow w.heap.size 131 4 u2 ts.length (flat thE ts) ∧ Below w.heap.size w w' := by
  obtain ⟨a1, c1, rfl⟩ := owns_lenS h1
  obtain ⟨a2, c2, rfl⟩ := owns_lenS h2
  have HL := hide (fun W' (hb : Below w.heap.size w W') => owns_keepB (W' := W') h1 (fun k e => hb.block k (by have := t1 k e; omega)))
  have HT := hide (fun W' (hb : Below w.heap.size w W') => owns_keepB (W' := W') h2 (fun k e => hb.block k (by have := t2 k e; omega)))
  clear h1 h2 t1 t2
  have B0 : Below w.heap.size w ((w.alloc (.cells #[.int .i64 n, .slice a1 ls.length c1, .slice a2 ts.length c2] 27)).alloc (.cells #[.int .i64 0, .slice none 0 0, .slice none 0 0] 27)) := ((Below.refl w.heap.size w).alloc (Nat.le_refl _) _).alloc (by simp) _
  have q0 : ((w.alloc (.cells #[.int .i64 n, .slice a1 ls.length c1, .slice a2 ts.length c2] 27)).alloc (.cells #[.int .i64 0, .slice none 0 0, .slice none 0 0] 27)).heap[w.heap.size]? = some (.cells #[.int .i64 n, .slice a1 ls.length c1, .slice a2 ts.length c2] 27) := by rw [Below.heap_alloc _ _ _ (by simp), heap_alloc_new]
  have q1 : ((w.alloc (.cells #[.int .i64 n, .slice a1 ls.length c1, .slice a2 ts.length c2] 27)).alloc (.cells #[.int .i64 0, .slice none 0 0, .slice none 0 0] 27)).heap[w.heap.size + 1]? = some (.cells #[.int .i64 0, .slice none 0 0, .slice none 0 0] 27) := by
    have h := heap_alloc_new (w.alloc (.cells #[.int .i64 n, .slice a1 ls.length c1, .slice a2 ts.length c2] 27)) (.cells #[.int .i64 0, .slice none 0 0, .slice none 0 0] 27)
    simpa using h
  have z0 : ((w.alloc (.cells #[.int .i64 n, .slice a1 ls.length c1, .slice a2 ts.length c2] 27)).alloc (.cells #[.int .i64 0, .slice none 0 0, .slice none 0 0] 27)).heap.size = w.heap.size + 2 := by simp
  have Q0 := hide q0
  have Q1 := hide q1
  have Z0 := hide z0
  clear q0 q1 z0
  go_enter Tryz.func64, Tryz.ntmps64
  go_wp2_with (first | (at_builtin; refine append_row5 lk_flat4 (by omega) lkE_one4 (by omega) _ rfl _ _ 24 rfl (w.heap.size + 2) 127 Tryz.underlying24 (.agg #[.int .i64 0, .int .i64 0, .int .i64 0, .int .i64 0]) rfl Tryz.infoLk4 _ [] rfl (World.ownsRow_nil _ _ _ _) 0 _ ls rfl (HL.out _ B0) (by simp; omega) ?base ?_))
  case base => (rw [Z0.out]; exact Nat.le_refl _)
  intro v1' wA1 ho1 gr1
  obtain ⟨p1a, p1c, rfl⟩ := owns_lenS ho1
  simp only [Value.ownBlock, List.nil_append] at gr1 ho1
  try simp only [List.nil_append]
  have bA1 : Below w.heap.size w wA1 := B0.grown gr1 (by have := B0.size; omega) (fun k hk => by simp at hk)
  have sA1 := gr1.size
  have x01 := (gr1.block w.heap.size (lt_of_heap Q0.out) (by simp)).trans Q0.out
  have x11 := (gr1.block (w.heap.size + 1) (lt_of_heap Q1.out) (by simp)).trans Q1.out
  have t13 := cells_at x01 1
  have t14 := cells_at x01 2
  have fz1 := frozen_at x01 1
  simp at t13 t14
  have B1 : Below w.heap.size w (wA1.setCell ⟨w.heap.size, 1, none⟩ (.slice p1a ls.length p1c)) := bA1.setCell (Nat.le_refl _) _
  have y01 : (wA1.setCell ⟨w.heap.size, 1, none⟩ (.slice p1a ls.length p1c)).heap[w.heap.size]? = some (.cells #[.int .i64 n, .slice p1a ls.length p1c, .slice a2 ts.length c2] 27) := heap_setCell_same _ _ 1 _ _ (.slice p1a ls.length p1c) x01
  have y11 : (wA1.setCell ⟨w.heap.size, 1, none⟩ (.slice p1a ls.length p1c)).heap[w.heap.size + 1]? = some (.cells #[.int .i64 0, .slice none 0 0, .slice none 0 0] 27) := by rw [heap_setCell_other _ ⟨w.heap.size, 1, none⟩ _ _ (by show w.heap.size + 1 ≠ w.heap.size; omega)]; exact x11
  have R10 := hide (owns_set (p := w.heap.size) (j := 1) (u := .slice p1a ls.length p1c) ho1 (by omega))
  have Q01 := hide y01
  have Q11 := hide y11
  have zz1 : (wA1.setCell ⟨w.heap.size, 1, none⟩ (.slice p1a ls.length p1c)).heap.size = wA1.heap.size := by simp
  clear x01 x11 y01 y11 ho1 gr1
  go_wp2_with (first | (at_builtin; refine append_row5 th_flat4 (by omega) thE_one4 (by omega) _ rfl _ _ 25 rfl (w.heap.size + 2) 131 Tryz.underlying25 (.agg #[.int .i64 0, .int .i64 0, .int .i64 0, .bool false]) rfl Tryz.infoTh4 _ [] rfl (World.ownsRow_nil _ _ _ _) 0 _ ts rfl (HT.out _ B1) (by simp; omega) ?base ?_))
  case base => (rw [zz1]; rw [Z0.out] at sA1; omega)
  intro v2' w6 ho2 gr2
  obtain ⟨p2a, p2c, rfl⟩ := owns_lenS ho2
  simp only [Value.ownBlock, List.nil_append] at gr2 ho2
  try simp only [List.nil_append]
  have bw6 : Below w.heap.size w w6 := B1.grown gr2 (by have := B1.size; omega) (fun k hk => by simp at hk)
  have q2 := (gr2.block w.heap.size (lt_of_heap Q01.out) (by simp)).trans Q01.out
  have q1 := (gr2.block (w.heap.size + 1) (lt_of_heap Q11.out) (by simp)).trans Q11.out
  have R20 := hide (owns_keepB (W' := w6) R10.out (fun k hk => gr2.block k (R10.out.lt k hk).2 (by simp)))
  have R21 := hide ho2
  have r0 := cells_at q1 0
  have r1 := cells_at q1 1
  have r2 := cells_at q1 2
  have t0 := cells_at q2 0
  have t1 := cells_at q2 1
  have t2 := cells_at q2 2
  simp at r0 r1 r2 t0 t1 t2
  have fz0x := frozen_at q1 0
  have fz1x := frozen_at q1 1
  have fz2x := frozen_at q1 2
  have e2 := frozen_at q2 2
  have QQ1 := hide q1
  clear ho2 gr2 q1 q2
  go_wp2
  have hfin : ((((w6.setCell ⟨w.heap.size, 2, none⟩ (.slice p2a ts.length p2c)).setCell ⟨w.heap.size + 1, 0, none⟩ (.int .i64 n)).setCell ⟨w.heap.size + 1, 1, none⟩ (.slice p1a ls.length p1c)).setCell ⟨w.heap.size + 1, 2, none⟩ (.slice p2a ts.length p2c)).heap[w.heap.size + 1]? = some (.cells #[.int .i64 n, .slice p1a ls.length p1c, .slice p2a ts.length p2c] 27) := by
    have k0 : (w6.setCell ⟨w.heap.size, 2, none⟩ (.slice p2a ts.length p2c)).heap[w.heap.size + 1]? = some (.cells #[.int .i64 0, .slice none 0 0, .slice none 0 0] 27) := by
      rw [heap_setCell_other _ ⟨w.heap.size, 2, none⟩ _ _ (by show w.heap.size + 1 ≠ w.heap.size; omega)]
      exact QQ1.out
    have k1 := heap_setCell_same _ _ 0 _ _ (.int .i64 n) k0
    have k2 := heap_setCell_same _ _ 1 _ _ (.slice p1a ls.length p1c) k1
    have k3 := heap_setCell_same _ _ 2 _ _ (.slice p2a ts.length p2c) k2
    exact k3
  have hkeep : ∀ k, w.heap.size + 2 ≤ k → ((((w6.setCell ⟨w.heap.size, 2, none⟩ (.slice p2a ts.length p2c)).setCell ⟨w.heap.size + 1, 0, none⟩ (.int .i64 n)).setCell ⟨w.heap.size + 1, 1, none⟩ (.slice p1a ls.length p1c)).setCell ⟨w.heap.size + 1, 2, none⟩ (.slice p2a ts.length p2c)).heap[k]? = w6.heap[k]? := fun k hk => by
    rw [heap_setCell_other _ ⟨w.heap.size + 1, 2, none⟩ _ _ (by show k ≠ w.heap.size + 1; omega), heap_setCell_other _ ⟨w.heap.size + 1, 1, none⟩ _ _ (by show k ≠ w.heap.size + 1; omega), heap_setCell_other _ ⟨w.heap.size + 1, 0, none⟩ _ _ (by show k ≠ w.heap.size + 1; omega), heap_setCell_other _ ⟨w.heap.size, 2, none⟩ _ _ (by show k ≠ w.heap.size; omega)]
  have hbel : Below w.heap.size w ((((w6.setCell ⟨w.heap.size, 2, none⟩ (.slice p2a ts.length p2c)).setCell ⟨w.heap.size + 1, 0, none⟩ (.int .i64 n)).setCell ⟨w.heap.size + 1, 1, none⟩ (.slice p1a ls.length p1c)).setCell ⟨w.heap.size + 1, 2, none⟩ (.slice p2a ts.length p2c)) := ((((bw6.setCell (by show w.heap.size ≤ w.heap.size; omega) _).setCell (by show w.heap.size ≤ w.heap.size + 1; omega) _).setCell (by show w.heap.size ≤ w.heap.size + 1; omega) _).setCell (by show w.heap.size ≤ w.heap.size + 1; omega) _)
  try simp only [Exit.inBlock, Exit.then]
  refine bodyPost_ret (results_cell_row rfl _ _ (w.heap.size + 1) 27 #[.int .i64 n, .slice p1a ls.length p1c, .slice p2a ts.length p2c] (0, 0) _ rfl hfin Tryz.underlying27 rfl (by kernel_rfl)) rfl ?_
  exact ⟨_, _, rfl, owns_baseS (owns_keepB R20.out (fun k e => hkeep k (R20.out.lt k e).1)) (by omega), owns_baseS (owns_keepB R21.out (fun k e => hkeep k (R21.out.lt k e).1)) (by omega), hbel⟩
end Go.Proofs.YtcimbiinljcifaaGreat
namespace Go.Proofs.YtcimbiinljcifaaGreat
open Go.RowKit

set_option linter.unusedSimpArgs false

/-- what a copy of a node is: rows of its own, what was there is as it was -/
def SelfNew (w w' : World) (x : SelfD) (ps : List RP) (e : Ending) : Prop := ∃ u1 u2 u3 u4 qs m1 m2, e = .returned (selfV x u1 u2 u3 u4) ∧ fsts qs = fsts ps ∧ SelfOwn w' w.heap.size w'.heap.size u1 u2 u3 u4 x qs m1 m2 ∧ Below w.heap.size w w'

set_option maxRecDepth 100000 in
set_option maxHeartbeats 2000000 in
theorem ownSelf_any (v1 v2 v3 v4 : Value) (x : SelfD) (ps : List RP) (hi : Nat) (w : World) (hv : SelfSrc w hi v1 v2 v3 v4 x ps) (hhi : hi ≤ w.heap.size) (ht : totS x ps ≤ 1048576) :
    Calls Tryz.prog 28 #[selfV x v1 v2 v3 v4] w fun e w' => SelfNew w w' x ps e := by
  obtain ⟨⟨a1, c1, rfl⟩, ⟨a2, c2, rfl⟩, ⟨a3, c3, rfl⟩, ⟨a4, c4, rfl⟩⟩ := hv.in.shapes
  have hlL : x.net.ls.length ≤ 1048576 := by unfold totS at ht; omega
  have hlT : x.net.ts.length ≤ 1048576 := by unfold totS at ht; omega
  have hlH : x.heard.length ≤ 1048576 := by unfold totS at ht; omega
  have hlR : tot ps ≤ 1048576 := by unfold totS at ht; omega
  have HX := hide hv
  clear hv ht
  unfold SelfNew
  have B0 : Below w.heap.size w ((w.alloc (.cells #[.int .i64 x.id, .int .i64 x.boot, .int .i64 x.net.n, .slice a1 x.net.ls.length c1, .slice a2 x.net.ts.length c2, .slice a3 x.heard.length c3, .slice a4 ps.length c4] 31)).alloc (.cells #[.int .i64 0, .int .i64 0, .int .i64 0, .slice none 0 0, .slice none 0 0, .slice none 0 0, .slice none 0 0] 31)) := ((Below.refl w.heap.size w).alloc (Nat.le_refl _) _).alloc (by simp) _
  have q0 : ((w.alloc (.cells #[.int .i64 x.id, .int .i64 x.boot, .int .i64 x.net.n, .slice a1 x.net.ls.length c1, .slice a2 x.net.ts.length c2, .slice a3 x.heard.length c3, .slice a4 ps.length c4] 31)).alloc (.cells #[.int .i64 0, .int .i64 0, .int .i64 0, .slice none 0 0, .slice none 0 0, .slice none 0 0, .slice none 0 0] 31)).heap[w.heap.size]? = some (.cells #[.int .i64 x.id, .int .i64 x.boot, .int .i64 x.net.n, .slice a1 x.net.ls.length c1, .slice a2 x.net.ts.length c2, .slice a3 x.heard.length c3, .slice a4 ps.length c4] 31) := by rw [Below.heap_alloc _ _ _ (by simp), heap_alloc_new]
  have q1 : ((w.alloc (.cells #[.int .i64 x.id, .int .i64 x.boot, .int .i64 x.net.n, .slice a1 x.net.ls.length c1, .slice a2 x.net.ts.length c2, .slice a3 x.heard.length c3, .slice a4 ps.length c4] 31)).alloc (.cells #[.int .i64 0, .int .i64 0, .int .i64 0, .slice none 0 0, .slice none 0 0, .slice none 0 0, .slice none 0 0] 31)).heap[w.heap.size + 1]? = some (.cells #[.int .i64 0, .int .i64 0, .int .i64 0, .slice none 0 0, .slice none 0 0, .slice none 0 0, .slice none 0 0] 31) := by
    have h := heap_alloc_new (w.alloc (.cells #[.int .i64 x.id, .int .i64 x.boot, .int .i64 x.net.n, .slice a1 x.net.ls.length c1, .slice a2 x.net.ts.length c2, .slice a3 x.heard.length c3, .slice a4 ps.length c4] 31)) (.cells #[.int .i64 0, .int .i64 0, .int .i64 0, .slice none 0 0, .slice none 0 0, .slice none 0 0, .slice none 0 0] 31)
    simpa using h
  have z0 : ((w.alloc (.cells #[.int .i64 x.id, .int .i64 x.boot, .int .i64 x.net.n, .slice a1 x.net.ls.length c1, .slice a2 x.net.ts.length c2, .slice a3 x.heard.length c3, .slice a4 ps.length c4] 31)).alloc (.cells #[.int .i64 0, .int .i64 0, .int .i64 0, .slice none 0 0, .slice none 0 0, .slice none 0 0, .slice none 0 0] 31)).heap.size = w.heap.size + 2 := by simp
  have HON := hide (ownNet_any x.net.n (.slice a1 x.net.ls.length c1) (.slice a2 x.net.ts.length c2) x.net.ls x.net.ts hi ((w.alloc (.cells #[.int .i64 x.id, .int .i64 x.boot, .int .i64 x.net.n, .slice a1 x.net.ls.length c1, .slice a2 x.net.ts.length c2, .slice a3 x.heard.length c3, .slice a4 ps.length c4] 31)).alloc (.cells #[.int .i64 0, .int .i64 0, .int .i64 0, .slice none 0 0, .slice none 0 0, .slice none 0 0, .slice none 0 0] 31)) (HX.out.below B0 hhi).links (HX.out.below B0 hhi).ltop (HX.out.below B0 hhi).things (HX.out.below B0 hhi).ttop (by rw [z0]; omega) hlL hlT)
  have Q0 := hide q0
  have Q1 := hide q1
  have Z0 := hide z0
  clear q0 q1 z0
  go_enter Tryz.func28, Tryz.ntmps28
  go_wp2_with fail
  obtain ⟨w0, hw0⟩ : ∃ W, W = ((w.alloc (.cells #[.int .i64 x.id, .int .i64 x.boot, .int .i64 x.net.n, .slice a1 x.net.ls.length c1, .slice a2 x.net.ts.length c2, .slice a3 x.heard.length c3, .slice a4 ps.length c4] 31)).alloc (.cells #[.int .i64 0, .int .i64 0, .int .i64 0, .slice none 0 0, .slice none 0 0, .slice none 0 0, .slice none 0 0] 31)) := ⟨_, rfl⟩
  rw [← hw0] at HON B0 Q0 Q1 Z0 ⊢
  clear hw0
  refine HON.out.mono ?_
  rintro e wN ⟨u1, u2, rfl, ho1, ho2, bN⟩
  obtain ⟨p1a, p1c, rfl⟩ := owns_lenS ho1
  obtain ⟨p2a, p2c, rfl⟩ := owns_lenS ho2
  have bA1 : Below w.heap.size w wN := B0.trans (bN.mono B0.size)
  have x01 := (bN.block w.heap.size (lt_of_heap Q0.out)).trans Q0.out
  have x11 := (bN.block (w.heap.size + 1) (lt_of_heap Q1.out)).trans Q1.out
  have sN := lt_of_heap x11
  have t12 := cells_at x01 2
  have t13 := cells_at x01 3
  have t14 := cells_at x01 4
  have t15 := cells_at x01 5
  have fz2 := frozen_at x01 2
  have fz3 := frozen_at x01 3
  have fz4 := frozen_at x01 4
  simp at t12 t13 t14 t15
  obtain ⟨wA2, hwA2⟩ : ∃ W, W = (((wN.setCell ⟨w.heap.size, 2, none⟩ (.int .i64 x.net.n)).setCell ⟨w.heap.size, 3, none⟩ (.slice p1a x.net.ls.length p1c)).setCell ⟨w.heap.size, 4, none⟩ (.slice p2a x.net.ts.length p2c)) := ⟨_, rfl⟩
  have B2 : Below w.heap.size w wA2 := by rw [hwA2]; exact (((bA1.setCell (by show w.heap.size ≤ w.heap.size; omega) _).setCell (by show w.heap.size ≤ w.heap.size; omega) _).setCell (by show w.heap.size ≤ w.heap.size; omega) _)
  have y02 : wA2.heap[w.heap.size]? = some (.cells #[.int .i64 x.id, .int .i64 x.boot, .int .i64 x.net.n, .slice p1a x.net.ls.length p1c, .slice p2a x.net.ts.length p2c, .slice a3 x.heard.length c3, .slice a4 ps.length c4] 31) := by
    rw [hwA2]
    exact heap_setCell_same _ _ 4 _ _ (.slice p2a x.net.ts.length p2c) (heap_setCell_same _ _ 3 _ _ (.slice p1a x.net.ls.length p1c) (heap_setCell_same _ _ 2 _ _ (.int .i64 x.net.n) x01))
  have y12 : wA2.heap[w.heap.size + 1]? = some (.cells #[.int .i64 0, .int .i64 0, .int .i64 0, .slice none 0 0, .slice none 0 0, .slice none 0 0, .slice none 0 0] 31) := by rw [hwA2, heap_setCell_other _ ⟨w.heap.size, 4, none⟩ _ _ (by show w.heap.size + 1 ≠ w.heap.size; omega), heap_setCell_other _ ⟨w.heap.size, 3, none⟩ _ _ (by show w.heap.size + 1 ≠ w.heap.size; omega), heap_setCell_other _ ⟨w.heap.size, 2, none⟩ _ _ (by show w.heap.size + 1 ≠ w.heap.size; omega)]; exact x11
  rw [Z0.out] at ho1 ho2
  have hk2 : ∀ k, w.heap.size + 2 ≤ k → wA2.heap[k]? = wN.heap[k]? := fun k hk => by rw [hwA2, heap_setCell_other _ ⟨w.heap.size, 4, none⟩ _ _ (by show k ≠ w.heap.size; omega), heap_setCell_other _ ⟨w.heap.size, 3, none⟩ _ _ (by show k ≠ w.heap.size; omega), heap_setCell_other _ ⟨w.heap.size, 2, none⟩ _ _ (by show k ≠ w.heap.size; omega)]
  have R20 := hide (owns_keepB (W' := wA2) ho1 (fun k e => hk2 k (ho1.lt k e).1))
  have R21 := hide (owns_keepB (W' := wA2) ho2 (fun k e => hk2 k (ho2.lt k e).1))
  have zz2 : wA2.heap.size = wN.heap.size := by rw [hwA2]; simp
  have ZZ2 := hide zz2
  have HW2 := hide hwA2
  have Q02 := hide y02
  have Q12 := hide y12
  clear x01 x11 y02 y12 ho1 ho2 hwA2 hk2 zz2
  go_upto_region 2 with fail
  rw [← HW2.out]
  have t35 := cells_at Q02.out 5
  simp at t35
  go_wp2_with (first | (at_builtin; refine append_row5 int_flat1 (by omega) intE_one (by omega) _ rfl _ _ 28 rfl wA2.heap.size 3 Tryz.underlying28 (.int .i64 0) rfl Tryz.info3 _ [] rfl (World.ownsRow_nil _ _ _ _) 0 _ x.heard rfl (HX.out.below B2 hhi).heard (by simp; omega) ?base ?_))
  case base => exact Nat.le_refl _
  intro v3' wA3 ho3 gr3
  obtain ⟨p3a, p3c, rfl⟩ := owns_lenS ho3
  simp only [Value.ownBlock, List.nil_append] at gr3 ho3
  try simp only [List.nil_append]
  have bA3 : Below w.heap.size w wA3 := B2.grown gr3 (by have := B2.size; omega) (fun k hk => by simp at hk)
  have sA3 := gr3.size
  have x03 := (gr3.block w.heap.size (lt_of_heap Q02.out) (by simp)).trans Q02.out
  have x13 := (gr3.block (w.heap.size + 1) (lt_of_heap Q12.out) (by simp)).trans Q12.out
  have r30 := owns_keepB (W' := wA3) R20.out (fun k hk => gr3.block k (R20.out.lt k hk).2 (by simp))
  have r31 := owns_keepB (W' := wA3) R21.out (fun k hk => gr3.block k (R21.out.lt k hk).2 (by simp))
  have t35 := cells_at x03 5
  have t36 := cells_at x03 6
  have fz3 := frozen_at x03 5
  simp at t35 t36
  have B3 : Below w.heap.size w (wA3.setCell ⟨w.heap.size, 5, none⟩ (.slice p3a x.heard.length p3c)) := bA3.setCell (Nat.le_refl _) _
  have y03 : (wA3.setCell ⟨w.heap.size, 5, none⟩ (.slice p3a x.heard.length p3c)).heap[w.heap.size]? = some (.cells #[.int .i64 x.id, .int .i64 x.boot, .int .i64 x.net.n, .slice p1a x.net.ls.length p1c, .slice p2a x.net.ts.length p2c, .slice p3a x.heard.length p3c, .slice a4 ps.length c4] 31) := heap_setCell_same _ _ 5 _ _ (.slice p3a x.heard.length p3c) x03
  have y13 : (wA3.setCell ⟨w.heap.size, 5, none⟩ (.slice p3a x.heard.length p3c)).heap[w.heap.size + 1]? = some (.cells #[.int .i64 0, .int .i64 0, .int .i64 0, .slice none 0 0, .slice none 0 0, .slice none 0 0, .slice none 0 0] 31) := by rw [heap_setCell_other _ ⟨w.heap.size, 5, none⟩ _ _ (by show w.heap.size + 1 ≠ w.heap.size; omega)]; exact x13
  have hw2 : w.heap.size + 1 < wA2.heap.size := by have := lt_of_heap Q12.out; omega
  have R30 := hide (owns_set (p := w.heap.size) (j := 5) (u := .slice p3a x.heard.length p3c) r30 (by omega))
  have R31 := hide (owns_set (p := w.heap.size) (j := 5) (u := .slice p3a x.heard.length p3c) r31 (by omega))
  have R32 := hide (owns_set (p := w.heap.size) (j := 5) (u := .slice p3a x.heard.length p3c) ho3 (by omega))
  have Q03 := hide y03
  have Q13 := hide y13
  have zz3 : (wA3.setCell ⟨w.heap.size, 5, none⟩ (.slice p3a x.heard.length p3c)).heap.size = wA3.heap.size := by simp
  clear x03 x13 y03 y13 ho3 gr3 r30 r31
  have HOW := hide (ownList_any (.slice a4 ps.length c4) ps hi (wA3.setCell ⟨w.heap.size, 5, none⟩ (.slice p3a x.heard.length p3c)) (HX.out.store.below B3 hhi) (by have := B3.size; omega) hlR)
  go_wp2_with fail
  obtain ⟨wS, hwS⟩ : ∃ W, W = (wA3.setCell ⟨w.heap.size, 5, none⟩ (.slice p3a x.heard.length p3c)) := ⟨_, rfl⟩
  rw [← hwS] at B3 zz3 Q03 Q13 HOW R30 R31 R32 ⊢
  clear hwS
  refine HOW.out.mono ?_
  rintro e w6 ⟨p4, qs, rfl, fq, ho4, b6⟩
  obtain ⟨p4a, p4c, rfl⟩ := owns_lenS ho4.row
  have hz6 := b6.size
  have bs3 := B3.size
  have bw6 : Below w.heap.size w w6 := B3.trans (b6.mono B3.size)
  have q2 := (b6.block _ (lt_of_heap Q03.out)).trans Q03.out
  have q1 := (b6.block _ (lt_of_heap Q13.out)).trans Q13.out
  have hl6 := lt_of_heap q1
  have n0 := fun k hk => (R30.out.lt k hk)
  have n1 := fun k hk => (R31.out.lt k hk)
  have n2 := fun k hk => (R32.out.lt k hk)
  have hbig : w.heap.size + 2 ≤ wS.heap.size := by have := lt_of_heap Q13.out; omega
  have OW := hide (show SelfOwn w6 (w.heap.size + 2) w6.heap.size (.slice p1a x.net.ls.length p1c) (.slice p2a x.net.ts.length p2c) (.slice p3a x.heard.length p3c) (.slice p4a qs.length p4c) x qs wA2.heap.size wS.heap.size from
    { o1 := by have := lt_of_heap Q12.out; omega
      o2 := by omega
      o3 := hz6
      links := owns_below R30.out b6 (Nat.le_refl _)
      ltop := fun k e => by have := (R20.out.lt k e).2; omega
      things := owns_below R31.out b6 (Nat.le_refl _)
      ttop := fun k e => by have := (R21.out.lt k e).2; omega
      heard := ⟨owns_below R32.out b6 (Nat.le_refl _), fun k e => (R32.out.lt k e).2⟩
      store := ho4 })
  have FQ := hide fq
  have r0 := cells_at q1 0
  have r1 := cells_at q1 1
  have r2 := cells_at q1 2
  have r3 := cells_at q1 3
  have r4 := cells_at q1 4
  have r5 := cells_at q1 5
  have r6 := cells_at q1 6
  simp at r0 r1 r2 r3 r4 r5 r6
  have t0 := cells_at q2 0
  have t1 := cells_at q2 1
  have t2 := cells_at q2 2
  have t3 := cells_at q2 3
  have t4 := cells_at q2 4
  have t5 := cells_at q2 5
  have t6 := cells_at q2 6
  simp at t0 t1 t2 t3 t4 t5 t6
  have fz0x := frozen_at q1 0
  have fz1x := frozen_at q1 1
  have fz2x := frozen_at q1 2
  have fz3x := frozen_at q1 3
  have fz4x := frozen_at q1 4
  have fz5x := frozen_at q1 5
  have fz6x := frozen_at q1 6
  have e6 := frozen_at q2 6
  have QQ1 := hide q1
  clear ho4 q1 q2 fq
  go_wp2
  have hfin : ((((((((w6.setCell ⟨w.heap.size, 6, none⟩ (.slice p4a qs.length p4c)).setCell ⟨w.heap.size + 1, 0, none⟩ (.int .i64 x.id)).setCell ⟨w.heap.size + 1, 1, none⟩ (.int .i64 x.boot)).setCell ⟨w.heap.size + 1, 2, none⟩ (.int .i64 x.net.n)).setCell ⟨w.heap.size + 1, 3, none⟩ (.slice p1a x.net.ls.length p1c)).setCell ⟨w.heap.size + 1, 4, none⟩ (.slice p2a x.net.ts.length p2c)).setCell ⟨w.heap.size + 1, 5, none⟩ (.slice p3a x.heard.length p3c)).setCell ⟨w.heap.size + 1, 6, none⟩ (.slice p4a qs.length p4c)).heap[w.heap.size + 1]? = some (.cells #[.int .i64 x.id, .int .i64 x.boot, .int .i64 x.net.n, .slice p1a x.net.ls.length p1c, .slice p2a x.net.ts.length p2c, .slice p3a x.heard.length p3c, .slice p4a qs.length p4c] 31) := by
    have k0 : (w6.setCell ⟨w.heap.size, 6, none⟩ (.slice p4a qs.length p4c)).heap[w.heap.size + 1]? = some (.cells #[.int .i64 0, .int .i64 0, .int .i64 0, .slice none 0 0, .slice none 0 0, .slice none 0 0, .slice none 0 0] 31) := by
      rw [heap_setCell_other _ ⟨w.heap.size, 6, none⟩ _ _ (by show w.heap.size + 1 ≠ w.heap.size; omega)]
      exact QQ1.out
    have k1 := heap_setCell_same _ _ 0 _ _ (.int .i64 x.id) k0
    have k2 := heap_setCell_same _ _ 1 _ _ (.int .i64 x.boot) k1
    have k3 := heap_setCell_same _ _ 2 _ _ (.int .i64 x.net.n) k2
    have k4 := heap_setCell_same _ _ 3 _ _ (.slice p1a x.net.ls.length p1c) k3
    have k5 := heap_setCell_same _ _ 4 _ _ (.slice p2a x.net.ts.length p2c) k4
    have k6 := heap_setCell_same _ _ 5 _ _ (.slice p3a x.heard.length p3c) k5
    have k7 := heap_setCell_same _ _ 6 _ _ (.slice p4a qs.length p4c) k6
    exact k7
  have hkeep : ∀ k, w.heap.size + 2 ≤ k → ((((((((w6.setCell ⟨w.heap.size, 6, none⟩ (.slice p4a qs.length p4c)).setCell ⟨w.heap.size + 1, 0, none⟩ (.int .i64 x.id)).setCell ⟨w.heap.size + 1, 1, none⟩ (.int .i64 x.boot)).setCell ⟨w.heap.size + 1, 2, none⟩ (.int .i64 x.net.n)).setCell ⟨w.heap.size + 1, 3, none⟩ (.slice p1a x.net.ls.length p1c)).setCell ⟨w.heap.size + 1, 4, none⟩ (.slice p2a x.net.ts.length p2c)).setCell ⟨w.heap.size + 1, 5, none⟩ (.slice p3a x.heard.length p3c)).setCell ⟨w.heap.size + 1, 6, none⟩ (.slice p4a qs.length p4c)).heap[k]? = w6.heap[k]? := fun k hk => by
    rw [heap_setCell_other _ ⟨w.heap.size + 1, 6, none⟩ _ _ (by show k ≠ w.heap.size + 1; omega), heap_setCell_other _ ⟨w.heap.size + 1, 5, none⟩ _ _ (by show k ≠ w.heap.size + 1; omega), heap_setCell_other _ ⟨w.heap.size + 1, 4, none⟩ _ _ (by show k ≠ w.heap.size + 1; omega), heap_setCell_other _ ⟨w.heap.size + 1, 3, none⟩ _ _ (by show k ≠ w.heap.size + 1; omega), heap_setCell_other _ ⟨w.heap.size + 1, 2, none⟩ _ _ (by show k ≠ w.heap.size + 1; omega), heap_setCell_other _ ⟨w.heap.size + 1, 1, none⟩ _ _ (by show k ≠ w.heap.size + 1; omega), heap_setCell_other _ ⟨w.heap.size + 1, 0, none⟩ _ _ (by show k ≠ w.heap.size + 1; omega), heap_setCell_other _ ⟨w.heap.size, 6, none⟩ _ _ (by show k ≠ w.heap.size; omega)]
  have hsize : ((((((((w6.setCell ⟨w.heap.size, 6, none⟩ (.slice p4a qs.length p4c)).setCell ⟨w.heap.size + 1, 0, none⟩ (.int .i64 x.id)).setCell ⟨w.heap.size + 1, 1, none⟩ (.int .i64 x.boot)).setCell ⟨w.heap.size + 1, 2, none⟩ (.int .i64 x.net.n)).setCell ⟨w.heap.size + 1, 3, none⟩ (.slice p1a x.net.ls.length p1c)).setCell ⟨w.heap.size + 1, 4, none⟩ (.slice p2a x.net.ts.length p2c)).setCell ⟨w.heap.size + 1, 5, none⟩ (.slice p3a x.heard.length p3c)).setCell ⟨w.heap.size + 1, 6, none⟩ (.slice p4a qs.length p4c)).heap.size = w6.heap.size := by simp
  have hbel : Below w.heap.size w ((((((((w6.setCell ⟨w.heap.size, 6, none⟩ (.slice p4a qs.length p4c)).setCell ⟨w.heap.size + 1, 0, none⟩ (.int .i64 x.id)).setCell ⟨w.heap.size + 1, 1, none⟩ (.int .i64 x.boot)).setCell ⟨w.heap.size + 1, 2, none⟩ (.int .i64 x.net.n)).setCell ⟨w.heap.size + 1, 3, none⟩ (.slice p1a x.net.ls.length p1c)).setCell ⟨w.heap.size + 1, 4, none⟩ (.slice p2a x.net.ts.length p2c)).setCell ⟨w.heap.size + 1, 5, none⟩ (.slice p3a x.heard.length p3c)).setCell ⟨w.heap.size + 1, 6, none⟩ (.slice p4a qs.length p4c)) := ((((((((bw6.setCell (by show w.heap.size ≤ w.heap.size; omega) _).setCell (by show w.heap.size ≤ w.heap.size + 1; omega) _).setCell (by show w.heap.size ≤ w.heap.size + 1; omega) _).setCell (by show w.heap.size ≤ w.heap.size + 1; omega) _).setCell (by show w.heap.size ≤ w.heap.size + 1; omega) _).setCell (by show w.heap.size ≤ w.heap.size + 1; omega) _).setCell (by show w.heap.size ≤ w.heap.size + 1; omega) _).setCell (by show w.heap.size ≤ w.heap.size + 1; omega) _)
  try simp only [Exit.inBlock, Exit.then]
  refine bodyPost_ret (results_cell_row rfl _ _ (w.heap.size + 1) 31 #[.int .i64 x.id, .int .i64 x.boot, .int .i64 x.net.n, .slice p1a x.net.ls.length p1c, .slice p2a x.net.ts.length p2c, .slice p3a x.heard.length p3c, .slice p4a qs.length p4c] (0, 0) _ rfl hfin Tryz.underlying31 rfl (by kernel_rfl)) rfl ?_
  exact ⟨_, _, _, _, qs, _, _, rfl, FQ.out, ((OW.out.keep (fun k h1 _ _ => hkeep k h1)).low (by omega)).high (by rw [hsize]; omega), hbel⟩
end Go.Proofs.YtcimbiinljcifaaGreat
