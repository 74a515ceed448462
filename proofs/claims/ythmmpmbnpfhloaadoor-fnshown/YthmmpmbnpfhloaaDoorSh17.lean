/-
  spec.l05Put: its contract.
  spec.l06Node, l06Tells: their contracts.
  impl.hopsOfBoth, Together: their contracts.
-/
import Derived.Test.YthmmpmbnpfhloaaDoorSh15
namespace Go.Proofs.YthmmpmbnpfhloaaDoor
open Go.RowKit

set_option linter.unusedSimpArgs false

/-- r put into its place -/
def putL (ps : List RP) (r : RP) : List RP := ps.filter (fun p => beforeB p.1 r.1) ++ [r] ++ ps.filter (fun p => beforeB r.1 p.1)

theorem filt_take {ps : List RP} {k : Nat} {p : RP} (f : RP → Bool) (h : ps[k]? = some p) : (ps.take (k + 1)).filter f = (ps.take k).filter f ++ (if f p then [p] else []) := by
  obtain ⟨hk, e⟩ := List.getElem?_eq_some_iff.1 h
  rw [List.take_succ_eq_append_getElem hk, List.filter_append, e]
  congr 1
  by_cases hf : f p <;> simp [hf]

set_option maxRecDepth 100000 in
set_option maxHeartbeats 4000000 in
theorem put_fine (v : Value) (ps : List RP) (hi : Nat) (r : RP) (w : World) (hv : RecsIn w hi v ps) (hhi : hi ≤ w.heap.size) (hn : tot ps ≤ 1048576) (hr : NearOwn w 0 hi r) :
    Calls Tryd.prog 40 #[v, .agg (recC r.1 r.2)] w fun e w' => ∃ x, e = .returned x ∧ RecsIn w' w'.heap.size x (putL ps r) ∧ Below w.heap.size w w' ∧ ∀ k, x.ownBlock = some k → w.heap.size ≤ k := by
  unfold putL
  have hnl := tot_len ps
  obtain ⟨a1, c1, rfl⟩ := owns_lenS hv.row
  obtain ⟨ra, rc, hrn⟩ := owns_lenS hr.1
  have HRN := hide hrn
  have HR := hide hr
  have HV := hide hv
  unfold recC
  rw [hrn]
  clear hv hr hrn
  have BX : Below w.heap.size w (w.alloc (.cells #[.int .i64 r.1.area, .int .i64 r.1.kind, .int .i64 r.1.owner, .int .i64 r.1.key, .int .i64 r.1.seq, .slice ra r.1.near.length rc, .int .i64 r.1.cost, .bool r.1.far] 81)) := (Below.refl _ _).alloc (Nat.le_refl _) _
  have hx := heap_alloc_new w (.cells #[.int .i64 r.1.area, .int .i64 r.1.kind, .int .i64 r.1.owner, .int .i64 r.1.key, .int .i64 r.1.seq, .slice ra r.1.near.length rc, .int .i64 r.1.cost, .bool r.1.far] 81)
  obtain ⟨w0, hw0⟩ : ∃ w0, w0 = w.alloc (.cells #[.int .i64 r.1.area, .int .i64 r.1.kind, .int .i64 r.1.owner, .int .i64 r.1.key, .int .i64 r.1.seq, .slice ra r.1.near.length rc, .int .i64 r.1.cost, .bool r.1.far] 81) := ⟨_, rfl⟩
  have hs0 : w0.heap.size = w.heap.size + 1 := by rw [hw0]; simp
  rw [← hw0] at BX hx
  have R0 := hide (World.ownsRow_lit (e := 81) (size := 8) w0 #[] 0 (show w.heap.size + 1 ≤ w0.heap.size by omega) (by unfold maxLen; omega) (by simp))
  have B0 := hide (show Below w0.heap.size w0 (w0.alloc (.cells #[] 81)) from (Below.refl _ _).alloc (Nat.le_refl _) _)
  have HX := hide hx
  clear hx
  go_enter Tryd.func40, Tryd.ntmps40
  go_wp2
  rw [← hw0]
  rw [hs0] at R0
  have hs0l : w.heap.size + 1 ≤ w0.heap.size := by omega
  have hs0r : w0.heap.size ≤ w.heap.size + 1 := by omega
  clear hs0 hw0
  generalize w0.alloc (.cells #[] 81) = wL at *
  go_loopw [6, 5] (fun i o wr => ∃ (k : Nat) (u : Value) (l : List RP), k ≤ ps.length ∧ i = .int .i64 k ∧ o = u ∧ Hid (l = (ps.take k).filter (fun p => beforeB p.1 r.1)) ∧ wr.ownsRow (w.heap.size + 1) 81 8 u l.length (flat encP l) ∧ Below w0.heap.size w0 wr) (fun i _ _ => ps.length - (intOf i).toNat)
  case atStart => exact ⟨0, _, [], by omega, rfl, rfl, rfl, by simpa [flat] using R0.out, B0.out⟩
  case round =>
    obtain ⟨k, u, l, hk, rfl, rfl, HL, hown, hnx⟩ := hrel
    obtain ⟨ua, uc, rfl⟩ := owns_lenS hown
    have hsz := hnx.size
    have BWR : Below w.heap.size w wr := BX.trans (hnx.mono (by omega))
    have HQL := hide (show l.length ≤ 2097153 by rw [(HL).out]; have h2 := List.length_filter_le (fun p : RP => beforeB p.1 r.1) (ps.take k); simp at h2 ⊢; omega)
    by_cases hlt : k < ps.length
    · obtain ⟨p, hp⟩ : ∃ p, ps[k]? = some p := ⟨ps[k], List.getElem?_eq_getElem hlt⟩
      have hat := HV.out.at
      obtain ⟨b, off, cap', hve, hbb, c0, c1, c2, c3, c4, c5, c6, c7, hnr⟩ := hat.cells k p hp
      cases hve
      obtain ⟨pa, pc, hpn⟩ := NearsAt.shape hnr
      rw [hpn] at c5
      rw [← BWR.cell (p := ⟨b, off + k * 8, none⟩) (Nat.lt_of_lt_of_le hbb hhi)] at c0
      rw [← BWR.cell (p := ⟨b, off + k * 8 + 1, none⟩) (Nat.lt_of_lt_of_le hbb hhi)] at c1
      rw [← BWR.cell (p := ⟨b, off + k * 8 + 2, none⟩) (Nat.lt_of_lt_of_le hbb hhi)] at c2
      rw [← BWR.cell (p := ⟨b, off + k * 8 + 3, none⟩) (Nat.lt_of_lt_of_le hbb hhi)] at c3
      rw [← BWR.cell (p := ⟨b, off + k * 8 + 4, none⟩) (Nat.lt_of_lt_of_le hbb hhi)] at c4
      rw [← BWR.cell (p := ⟨b, off + k * 8 + 5, none⟩) (Nat.lt_of_lt_of_le hbb hhi)] at c5
      rw [← BWR.cell (p := ⟨b, off + k * 8 + 6, none⟩) (Nat.lt_of_lt_of_le hbb hhi)] at c6
      rw [← BWR.cell (p := ⟨b, off + k * 8 + 7, none⟩) (Nat.lt_of_lt_of_le hbb hhi)] at c7
      have hxx := (hnx.block _ (lt_of_heap HX.out)).trans HX.out
      have d0 := cells_at hxx 0
      have d1 := cells_at hxx 1
      have d2 := cells_at hxx 2
      have d3 := cells_at hxx 3
      have d4 := cells_at hxx 4
      have d5 := cells_at hxx 5
      have d6 := cells_at hxx 6
      have d7 := cells_at hxx 7
      simp at d0 d1 d2 d3 d4 d5 d6 d7
      have hb1 : b < wr.heap.size := by omega
      have hb2 : w.heap.size < wr.heap.size := by omega
      have hki : (0 : Int) ≤ (k : Int) := by omega
      have hkj : (k : Int) < (ps.length : Int) := by omega
      have hq := fun W => sbefore_any p.2 r.2 p.1 r.1 W
      unfold recC at hq
      rw [hpn, HRN.out] at hq
      have hpe : p = (p.1, .slice pa p.1.near.length pc) := Prod.ext rfl hpn
      obtain ⟨q, hqq⟩ : ∃ q, q = beforeB p.1 r.1 := ⟨_, rfl⟩
      rw [← hqq] at hq
      have HK := hide hq
      have hft := filt_take (fun p => beforeB p.1 r.1) hp
      rw [← hqq] at hft
      have HFT := hide hft
      have HPE := hide hpe
      have OW := hide hown
      clear hq hqq hp hat hxx hnr hpn hft hpe hown
      cases q
      · go_wp2
        go_region_held3 (fun W => W.cell? ⟨b, off + k * 8, none⟩ = some (.int .i64 p.1.area) ∧ W.cell? ⟨b, off + k * 8 + 1, none⟩ = some (.int .i64 p.1.kind) ∧ W.cell? ⟨b, off + k * 8 + 2, none⟩ = some (.int .i64 p.1.owner) ∧ W.cell? ⟨b, off + k * 8 + 3, none⟩ = some (.int .i64 p.1.key) ∧ W.cell? ⟨b, off + k * 8 + 4, none⟩ = some (.int .i64 p.1.seq) ∧ W.cell? ⟨b, off + k * 8 + 5, none⟩ = some (.slice pa p.1.near.length pc) ∧ W.cell? ⟨b, off + k * 8 + 6, none⟩ = some (.int .i64 p.1.cost) ∧ W.cell? ⟨b, off + k * 8 + 7, none⟩ = some (.bool p.1.far) ∧ W.cell? ⟨w.heap.size, 0, none⟩ = some (.int .i64 r.1.area) ∧ W.cell? ⟨w.heap.size, 1, none⟩ = some (.int .i64 r.1.kind) ∧ W.cell? ⟨w.heap.size, 2, none⟩ = some (.int .i64 r.1.owner) ∧ W.cell? ⟨w.heap.size, 3, none⟩ = some (.int .i64 r.1.key) ∧ W.cell? ⟨w.heap.size, 4, none⟩ = some (.int .i64 r.1.seq) ∧ W.cell? ⟨w.heap.size, 5, none⟩ = some (.slice ra r.1.near.length rc) ∧ W.cell? ⟨w.heap.size, 6, none⟩ = some (.int .i64 r.1.cost) ∧ W.cell? ⟨w.heap.size, 7, none⟩ = some (.bool r.1.far)) (first | go_keep | (refine ⟨?_, ?_, ?_, ?_, ?_, ?_, ?_, ?_, ?_, ?_, ?_, ?_, ?_, ?_, ?_, ?_⟩ <;> (rw [hbc.cell (by assumption)]; assumption))) (first | (go_at_call 52; refine (HK.out _).mono ?_; rintro e w1 ⟨rfl, hbc⟩))
        have B1 : Below w0.heap.size w0 w1 := hnx.trans ((Below.refl _ _).drew.trans (hbc.mono hsz))
        have OW1 := hide (owns_below OW.out ((Below.refl wr.heap.size wr).drew.trans hbc) (Nat.le_refl _))
        have HFT2 := hide (show l = (ps.take (k + 1)).filter (fun p => beforeB p.1 r.1) by rw [(HL).out, HFT.out]; simp)
        go_wp2
        go_roundw
        case rel => exact ⟨k + 1, _, _, by omega, by go_num, rfl, HFT2, OW1.out, B1⟩
        case measure => simp [intOf]; omega
      · go_wp2
        go_region_held3 (fun W => W.cell? ⟨b, off + k * 8, none⟩ = some (.int .i64 p.1.area) ∧ W.cell? ⟨b, off + k * 8 + 1, none⟩ = some (.int .i64 p.1.kind) ∧ W.cell? ⟨b, off + k * 8 + 2, none⟩ = some (.int .i64 p.1.owner) ∧ W.cell? ⟨b, off + k * 8 + 3, none⟩ = some (.int .i64 p.1.key) ∧ W.cell? ⟨b, off + k * 8 + 4, none⟩ = some (.int .i64 p.1.seq) ∧ W.cell? ⟨b, off + k * 8 + 5, none⟩ = some (.slice pa p.1.near.length pc) ∧ W.cell? ⟨b, off + k * 8 + 6, none⟩ = some (.int .i64 p.1.cost) ∧ W.cell? ⟨b, off + k * 8 + 7, none⟩ = some (.bool p.1.far) ∧ W.cell? ⟨w.heap.size, 0, none⟩ = some (.int .i64 r.1.area) ∧ W.cell? ⟨w.heap.size, 1, none⟩ = some (.int .i64 r.1.kind) ∧ W.cell? ⟨w.heap.size, 2, none⟩ = some (.int .i64 r.1.owner) ∧ W.cell? ⟨w.heap.size, 3, none⟩ = some (.int .i64 r.1.key) ∧ W.cell? ⟨w.heap.size, 4, none⟩ = some (.int .i64 r.1.seq) ∧ W.cell? ⟨w.heap.size, 5, none⟩ = some (.slice ra r.1.near.length rc) ∧ W.cell? ⟨w.heap.size, 6, none⟩ = some (.int .i64 r.1.cost) ∧ W.cell? ⟨w.heap.size, 7, none⟩ = some (.bool r.1.far)) (first | go_keep | (refine ⟨?_, ?_, ?_, ?_, ?_, ?_, ?_, ?_, ?_, ?_, ?_, ?_, ?_, ?_, ?_, ?_⟩ <;> (rw [hbc.cell (by assumption)]; assumption))) (first | (go_at_call 52; refine (HK.out _).mono ?_; rintro e w1 ⟨rfl, hbc⟩))
        have B1 : Below w0.heap.size w0 w1 := hnx.trans ((Below.refl _ _).drew.trans (hbc.mono hsz))
        have OW1 := hide (owns_below OW.out ((Below.refl wr.heap.size wr).drew.trans hbc) (Nat.le_refl _))
        have b1s := B1.size
        have m0 := (hbc.cell (p := ⟨b, off + k * 8, none⟩) hb1).trans c0
        have m1 := (hbc.cell (p := ⟨b, off + k * 8 + 1, none⟩) hb1).trans c1
        have m2 := (hbc.cell (p := ⟨b, off + k * 8 + 2, none⟩) hb1).trans c2
        have m3 := (hbc.cell (p := ⟨b, off + k * 8 + 3, none⟩) hb1).trans c3
        have m4 := (hbc.cell (p := ⟨b, off + k * 8 + 4, none⟩) hb1).trans c4
        have m5 := (hbc.cell (p := ⟨b, off + k * 8 + 5, none⟩) hb1).trans c5
        have m6 := (hbc.cell (p := ⟨b, off + k * 8 + 6, none⟩) hb1).trans c6
        have m7 := (hbc.cell (p := ⟨b, off + k * 8 + 7, none⟩) hb1).trans c7
        have HFT2 := hide (show l ++ [(p.1, .slice pa p.1.near.length pc)] = (ps.take (k + 1)).filter (fun p => beforeB p.1 r.1) by rw [(HL).out, HFT.out, ← HPE.out]; simp)
        go_wp2_with (first
          | (at_builtin; refine append_struct5 encP_len (by omega) (by omega) _ rfl _ _ 67 rfl (w.heap.size + 1) 81 Tryd.underlying67 (.agg (recC zeroRD (.slice none 0 0))) rfl Tryd.infoRec _ (l) (p.1, .slice pa p.1.near.length pc) (encP_one _ _ _ _) rfl (OW1.out.alloc _) ⟨w1.heap.size, 0, none⟩ 1 rfl (news_struct (cs := encP (p.1, .slice pa p.1.near.length pc))) (by have := HQL.out; omega) (by simp; omega) ?_))
        intro v' w4 hown' hgrow
        obtain ⟨va, vc, rfl⟩ := owns_lenS hown'
        have B4 : Below w0.heap.size w0 w4 := (B1.alloc b1s _).grown hgrow (by simp; omega) (fun j hj => by have := (OW1.out.lt j hj).1; omega)
        have OW4 := hide hown'
        clear hown' hgrow
        go_wp2
        go_roundw
        case rel => exact ⟨k + 1, _, _, by omega, by go_num, rfl, HFT2, by simpa using OW4.out, B4⟩
        case measure => simp [intOf]; omega
    · have hkn : k = ps.length := by omega
      have htk : ps.take k = ps := by rw [hkn, List.take_length]
      rw [htk] at HL
      have OW := hide hown
      clear hown hkn htk
      have hxx := (hnx.block _ (lt_of_heap HX.out)).trans HX.out
      have d0 := cells_at hxx 0
      have d1 := cells_at hxx 1
      have d2 := cells_at hxx 2
      have d3 := cells_at hxx 3
      have d4 := cells_at hxx 4
      have d5 := cells_at hxx 5
      have d6 := cells_at hxx 6
      have d7 := cells_at hxx 7
      simp at d0 d1 d2 d3 d4 d5 d6 d7
      clear hxx
      go_wp2_with (first
        | (at_builtin; refine append_struct5 encP_len (by omega) (by omega) _ rfl _ _ 67 rfl (w.heap.size + 1) 81 Tryd.underlying67 (.agg (recC zeroRD (.slice none 0 0))) rfl Tryd.infoRec _ (l) (r.1, .slice ra r.1.near.length rc) (encP_one _ _ _ _) rfl (OW.out.alloc _) ⟨wr.heap.size, 0, none⟩ 1 rfl (news_struct (cs := encP (r.1, .slice ra r.1.near.length rc))) (by have := HQL.out; omega) (by simp; omega) ?_))
      intro v' w4 hown' hgrow
      obtain ⟨va, vc, rfl⟩ := owns_lenS hown'
      have B2 := hide ((hnx.alloc hsz _).grown hgrow (by simp; omega) (fun j hj => by have := (OW.out.lt j hj).1; omega))
      have HRE := hide (show r = (r.1, .slice ra r.1.near.length rc) from Prod.ext rfl HRN.out)
      have R2 := hide hown'
      clear hown' hgrow HQL d0 d1 d2 d3 d4 d5 d6 d7 OW hnx hsz BWR
      go_wp2
      go_loopw [7, 5] (fun i o wr => ∃ (k : Nat) (u : Value) (l : List RP), k ≤ ps.length ∧ i = .int .i64 k ∧ o = u ∧ Hid (l = ps.filter (fun p => beforeB p.1 r.1) ++ [r] ++ (ps.take k).filter (fun p => beforeB r.1 p.1)) ∧ wr.ownsRow (w.heap.size + 1) 81 8 u l.length (flat encP l) ∧ Below w0.heap.size w0 wr) (fun i _ _ => ps.length - (intOf i).toNat)
      case atStart => exact ⟨0, _, l ++ [(r.1, .slice ra r.1.near.length rc)], by omega, rfl, rfl, (hide (by rw [HL.out, ← HRE.out]; simp)), by simpa using R2.out, B2.out⟩
      case round =>
        obtain ⟨k, u, m, hk, rfl, rfl, HM, hown, hnx⟩ := hrel
        obtain ⟨ua, uc, rfl⟩ := owns_lenS hown
        have hsz := hnx.size
        have BWR : Below w.heap.size w wr := BX.trans (hnx.mono (by omega))
        have HQL := hide (show m.length ≤ 2097153 by rw [(HM).out]; have h1 := List.length_filter_le (fun p : RP => beforeB p.1 r.1) ps; have h2 := List.length_filter_le (fun p : RP => beforeB r.1 p.1) (ps.take k); simp at h1 h2 ⊢; omega)
        by_cases hlt : k < ps.length
        · obtain ⟨p, hp⟩ : ∃ p, ps[k]? = some p := ⟨ps[k], List.getElem?_eq_getElem hlt⟩
          have hat := HV.out.at
          obtain ⟨b, off, cap', hve, hbb, c0, c1, c2, c3, c4, c5, c6, c7, hnr⟩ := hat.cells k p hp
          cases hve
          obtain ⟨pa, pc, hpn⟩ := NearsAt.shape hnr
          rw [hpn] at c5
          rw [← BWR.cell (p := ⟨b, off + k * 8, none⟩) (Nat.lt_of_lt_of_le hbb hhi)] at c0
          rw [← BWR.cell (p := ⟨b, off + k * 8 + 1, none⟩) (Nat.lt_of_lt_of_le hbb hhi)] at c1
          rw [← BWR.cell (p := ⟨b, off + k * 8 + 2, none⟩) (Nat.lt_of_lt_of_le hbb hhi)] at c2
          rw [← BWR.cell (p := ⟨b, off + k * 8 + 3, none⟩) (Nat.lt_of_lt_of_le hbb hhi)] at c3
          rw [← BWR.cell (p := ⟨b, off + k * 8 + 4, none⟩) (Nat.lt_of_lt_of_le hbb hhi)] at c4
          rw [← BWR.cell (p := ⟨b, off + k * 8 + 5, none⟩) (Nat.lt_of_lt_of_le hbb hhi)] at c5
          rw [← BWR.cell (p := ⟨b, off + k * 8 + 6, none⟩) (Nat.lt_of_lt_of_le hbb hhi)] at c6
          rw [← BWR.cell (p := ⟨b, off + k * 8 + 7, none⟩) (Nat.lt_of_lt_of_le hbb hhi)] at c7
          have hxx := (hnx.block _ (lt_of_heap HX.out)).trans HX.out
          have d0 := cells_at hxx 0
          have d1 := cells_at hxx 1
          have d2 := cells_at hxx 2
          have d3 := cells_at hxx 3
          have d4 := cells_at hxx 4
          have d5 := cells_at hxx 5
          have d6 := cells_at hxx 6
          have d7 := cells_at hxx 7
          simp at d0 d1 d2 d3 d4 d5 d6 d7
          have hb1 : b < wr.heap.size := by omega
          have hb2 : w.heap.size < wr.heap.size := by omega
          have hki : (0 : Int) ≤ (k : Int) := by omega
          have hkj : (k : Int) < (ps.length : Int) := by omega
          have hq := fun W => sbefore_any r.2 p.2 r.1 p.1 W
          unfold recC at hq
          rw [hpn, HRN.out] at hq
          have hpe : p = (p.1, .slice pa p.1.near.length pc) := Prod.ext rfl hpn
          obtain ⟨q, hqq⟩ : ∃ q, q = beforeB r.1 p.1 := ⟨_, rfl⟩
          rw [← hqq] at hq
          have HK := hide hq
          have hft := filt_take (fun p => beforeB r.1 p.1) hp
          rw [← hqq] at hft
          have HFT := hide hft
          have HPE := hide hpe
          have OW := hide hown
          clear hq hqq hp hat hxx hnr hpn hft hpe hown
          cases q
          · go_wp2
            go_region_held3 (fun W => W.cell? ⟨b, off + k * 8, none⟩ = some (.int .i64 p.1.area) ∧ W.cell? ⟨b, off + k * 8 + 1, none⟩ = some (.int .i64 p.1.kind) ∧ W.cell? ⟨b, off + k * 8 + 2, none⟩ = some (.int .i64 p.1.owner) ∧ W.cell? ⟨b, off + k * 8 + 3, none⟩ = some (.int .i64 p.1.key) ∧ W.cell? ⟨b, off + k * 8 + 4, none⟩ = some (.int .i64 p.1.seq) ∧ W.cell? ⟨b, off + k * 8 + 5, none⟩ = some (.slice pa p.1.near.length pc) ∧ W.cell? ⟨b, off + k * 8 + 6, none⟩ = some (.int .i64 p.1.cost) ∧ W.cell? ⟨b, off + k * 8 + 7, none⟩ = some (.bool p.1.far) ∧ W.cell? ⟨w.heap.size, 0, none⟩ = some (.int .i64 r.1.area) ∧ W.cell? ⟨w.heap.size, 1, none⟩ = some (.int .i64 r.1.kind) ∧ W.cell? ⟨w.heap.size, 2, none⟩ = some (.int .i64 r.1.owner) ∧ W.cell? ⟨w.heap.size, 3, none⟩ = some (.int .i64 r.1.key) ∧ W.cell? ⟨w.heap.size, 4, none⟩ = some (.int .i64 r.1.seq) ∧ W.cell? ⟨w.heap.size, 5, none⟩ = some (.slice ra r.1.near.length rc) ∧ W.cell? ⟨w.heap.size, 6, none⟩ = some (.int .i64 r.1.cost) ∧ W.cell? ⟨w.heap.size, 7, none⟩ = some (.bool r.1.far)) (first | go_keep | (refine ⟨?_, ?_, ?_, ?_, ?_, ?_, ?_, ?_, ?_, ?_, ?_, ?_, ?_, ?_, ?_, ?_⟩ <;> (rw [hbc.cell (by assumption)]; assumption))) (first | (go_at_call 52; refine (HK.out _).mono ?_; rintro e w1 ⟨rfl, hbc⟩))
            have B1 : Below w0.heap.size w0 w1 := hnx.trans ((Below.refl _ _).drew.trans (hbc.mono hsz))
            have OW1 := hide (owns_below OW.out ((Below.refl wr.heap.size wr).drew.trans hbc) (Nat.le_refl _))
            have HFT2 := hide (show m = ps.filter (fun p => beforeB p.1 r.1) ++ [r] ++ (ps.take (k + 1)).filter (fun p => beforeB r.1 p.1) by rw [(HM).out, HFT.out]; simp)
            go_wp2
            go_roundw
            case rel => exact ⟨k + 1, _, _, by omega, by go_num, rfl, HFT2, OW1.out, B1⟩
            case measure => simp [intOf]; omega
          · go_wp2
            go_region_held3 (fun W => W.cell? ⟨b, off + k * 8, none⟩ = some (.int .i64 p.1.area) ∧ W.cell? ⟨b, off + k * 8 + 1, none⟩ = some (.int .i64 p.1.kind) ∧ W.cell? ⟨b, off + k * 8 + 2, none⟩ = some (.int .i64 p.1.owner) ∧ W.cell? ⟨b, off + k * 8 + 3, none⟩ = some (.int .i64 p.1.key) ∧ W.cell? ⟨b, off + k * 8 + 4, none⟩ = some (.int .i64 p.1.seq) ∧ W.cell? ⟨b, off + k * 8 + 5, none⟩ = some (.slice pa p.1.near.length pc) ∧ W.cell? ⟨b, off + k * 8 + 6, none⟩ = some (.int .i64 p.1.cost) ∧ W.cell? ⟨b, off + k * 8 + 7, none⟩ = some (.bool p.1.far) ∧ W.cell? ⟨w.heap.size, 0, none⟩ = some (.int .i64 r.1.area) ∧ W.cell? ⟨w.heap.size, 1, none⟩ = some (.int .i64 r.1.kind) ∧ W.cell? ⟨w.heap.size, 2, none⟩ = some (.int .i64 r.1.owner) ∧ W.cell? ⟨w.heap.size, 3, none⟩ = some (.int .i64 r.1.key) ∧ W.cell? ⟨w.heap.size, 4, none⟩ = some (.int .i64 r.1.seq) ∧ W.cell? ⟨w.heap.size, 5, none⟩ = some (.slice ra r.1.near.length rc) ∧ W.cell? ⟨w.heap.size, 6, none⟩ = some (.int .i64 r.1.cost) ∧ W.cell? ⟨w.heap.size, 7, none⟩ = some (.bool r.1.far)) (first | go_keep | (refine ⟨?_, ?_, ?_, ?_, ?_, ?_, ?_, ?_, ?_, ?_, ?_, ?_, ?_, ?_, ?_, ?_⟩ <;> (rw [hbc.cell (by assumption)]; assumption))) (first | (go_at_call 52; refine (HK.out _).mono ?_; rintro e w1 ⟨rfl, hbc⟩))
            have B1 : Below w0.heap.size w0 w1 := hnx.trans ((Below.refl _ _).drew.trans (hbc.mono hsz))
            have OW1 := hide (owns_below OW.out ((Below.refl wr.heap.size wr).drew.trans hbc) (Nat.le_refl _))
            have b1s := B1.size
            have m0 := (hbc.cell (p := ⟨b, off + k * 8, none⟩) hb1).trans c0
            have m1 := (hbc.cell (p := ⟨b, off + k * 8 + 1, none⟩) hb1).trans c1
            have m2 := (hbc.cell (p := ⟨b, off + k * 8 + 2, none⟩) hb1).trans c2
            have m3 := (hbc.cell (p := ⟨b, off + k * 8 + 3, none⟩) hb1).trans c3
            have m4 := (hbc.cell (p := ⟨b, off + k * 8 + 4, none⟩) hb1).trans c4
            have m5 := (hbc.cell (p := ⟨b, off + k * 8 + 5, none⟩) hb1).trans c5
            have m6 := (hbc.cell (p := ⟨b, off + k * 8 + 6, none⟩) hb1).trans c6
            have m7 := (hbc.cell (p := ⟨b, off + k * 8 + 7, none⟩) hb1).trans c7
            have HFT2 := hide (show m ++ [(p.1, .slice pa p.1.near.length pc)] = ps.filter (fun p => beforeB p.1 r.1) ++ [r] ++ (ps.take (k + 1)).filter (fun p => beforeB r.1 p.1) by rw [(HM).out, HFT.out, ← HPE.out]; simp)
            go_wp2_with (first
              | (at_builtin; refine append_struct5 encP_len (by omega) (by omega) _ rfl _ _ 67 rfl (w.heap.size + 1) 81 Tryd.underlying67 (.agg (recC zeroRD (.slice none 0 0))) rfl Tryd.infoRec _ (m) (p.1, .slice pa p.1.near.length pc) (encP_one _ _ _ _) rfl (OW1.out.alloc _) ⟨w1.heap.size, 0, none⟩ 1 rfl (news_struct (cs := encP (p.1, .slice pa p.1.near.length pc))) (by have := HQL.out; omega) (by simp; omega) ?_))
            intro v' w4 hown' hgrow
            obtain ⟨va, vc, rfl⟩ := owns_lenS hown'
            have B4 : Below w0.heap.size w0 w4 := (B1.alloc b1s _).grown hgrow (by simp; omega) (fun j hj => by have := (OW1.out.lt j hj).1; omega)
            have OW4 := hide hown'
            clear hown' hgrow
            go_wp2
            go_roundw
            case rel => exact ⟨k + 1, _, _, by omega, by go_num, rfl, HFT2, by simpa using OW4.out, B4⟩
            case measure => simp [intOf]; omega
        · have hkn : k = ps.length := by omega
          have htk : ps.take k = ps := by rw [hkn, List.take_length]
          rw [htk] at HM
          have OW := hide hown
          clear hown hkn htk
          go_wp2
          go_ret
          refine ⟨_, rfl, ⟨?_, fun j hj => (OW.out.lt j hj).2, ?_⟩, BWR, fun j hj => by have := (OW.out.lt j hj).1; omega⟩
          · rw [← HM.out]; exact owns_baseS OW.out (Nat.zero_le _)
          intro q hq
          have hmem : q ∈ ps ∨ q = r := by
            rcases List.mem_append.1 hq with h | h
            · rcases List.mem_append.1 h with h | h
              · exact .inl ((List.mem_filter.1 h).1)
              · exact .inr (by simpa using h)
            · exact .inl ((List.mem_filter.1 h).1)
          have hno : NearOwn w 0 hi q := by
            rcases hmem with h | h
            · exact HV.out.nears q h
            · rw [h]; exact HR.out
          exact (hno.keep (W' := wr) (fun j _ h2 _ => BWR.block j (by omega))).wide (Nat.le_refl _) (by omega)

theorem put_any (v : Value) (ps : List RP) (hi : Nat) (r : RP) (w : World) (hv : RecsIn w hi v ps) (hhi : hi ≤ w.heap.size) (hn : tot ps ≤ 1048576) (hr : NearOwn w 0 hi r) :
    Calls Tryd.prog 40 #[v, .agg (recC r.1 r.2)] w fun e w' => ∃ x, e = .returned x ∧ RecsIn w' w'.heap.size x (putL ps r) ∧ Below w.heap.size w w' := by
  refine (put_fine v ps hi r w hv hhi hn hr).mono ?_
  rintro e w' ⟨x, h1, h2, h3, _⟩
  exact ⟨x, h1, h2, h3⟩
end Go.Proofs.YthmmpmbnpfhloaaDoor
namespace Go.Proofs.YthmmpmbnpfhloaaDoor
open Go.RowKit

set_option linter.unusedSimpArgs false

def nodeR (area node : Int) : RecD := ⟨area, 1, node, 0, 0, [], 0, false⟩

/-- a node's record of an area -/
def nodeD (xs : List RecD) (area node : Int) : RecD := findD xs (nodeR area node)

def nodeB (xs : List RecD) (area node : Int) : Bool := findB xs (nodeR area node)

/-- what a list of neighbours tells of b -/
def tellsN (ns : List Nr) (b : Int) : Int := match ns.find? (fun n => n.to == b) with
  | some n => n.c
  | none => 0

def tellsD (xs : List RecD) (area a b : Int) : Int := tellsN (nodeD xs area a).near b

theorem nears_nil (W : World) (B : Nat) : NearsAt W (.slice none 0 0) [] B := ⟨none, 0, rfl, .inl rfl⟩

set_option maxRecDepth 100000 in
set_option maxHeartbeats 4000000 in
theorem snode_any (v : Value) (ps : List RP) (hi : Nat) (area node : Int) (w : World) (hv : RecsIn w hi v ps) (hhi : hi ≤ w.heap.size) (hn : tot ps ≤ 1048576) :
    Calls Tryd.prog 68 #[v, .int .i64 area, .int .i64 node] w fun e w' => ∃ u, e = .returned (.tuple #[.agg (recC (nodeD (fsts ps) area node) u), .bool (nodeB (fsts ps) area node)]) ∧ NearsAt w' u (nodeD (fsts ps) area node).near hi ∧ (nodeD (fsts ps) area node).near.length ≤ 1048576 ∧ Below w.heap.size w w' := by
  have hnl := tot_len ps
  obtain ⟨a1, c1, rfl⟩ := owns_lenS hv.row
  have BX : Below w.heap.size w (w.alloc (.cells #[.int .i64 0, .int .i64 0, .int .i64 0, .int .i64 0, .int .i64 0, .slice none 0 0, .int .i64 0, .bool false] 81)) := (Below.refl _ _).alloc (Nat.le_refl _) _
  have hq := heap_alloc_new w (.cells #[.int .i64 0, .int .i64 0, .int .i64 0, .int .i64 0, .int .i64 0, .slice none 0 0, .int .i64 0, .bool false] 81)
  obtain ⟨w0, hw0⟩ : ∃ W, W = w.alloc (.cells #[.int .i64 0, .int .i64 0, .int .i64 0, .int .i64 0, .int .i64 0, .slice none 0 0, .int .i64 0, .bool false] 81) := ⟨_, rfl⟩
  rw [← hw0] at BX hq
  have hs0 := lt_of_heap hq
  have HAT := hide (satI_any (.slice a1 ps.length c1) ps hi (nodeR area node, .slice none 0 0) w0 (hv.below BX hhi) (by have := BX.size; omega) hn)
  unfold recC nodeR at HAT
  simp only [] at HAT
  have HV := hide hv
  clear hv
  unfold nodeD nodeB
  obtain ⟨nr, hnr⟩ : ∃ r, r = nodeR area node := ⟨_, rfl⟩
  rw [show (⟨area, 1, node, 0, 0, [], 0, false⟩ : RecD) = nr from hnr.symm] at HAT
  rw [← hnr]
  clear hnr
  rcases atZ_cases (fsts ps) nr with hz | ⟨j, y, hz, hy, _⟩
  · obtain ⟨e1, e2⟩ := find_none hz
    rw [e1, e2]
    rw [hz] at HAT
    clear hz e1 e2
    unfold recC
    go_enter Tryd.func68, Tryd.ntmps68
    go_wp2_with fail
    rw [← hw0]
    clear hw0
    refine HAT.out.mono ?_
    rintro e w1 ⟨rfl, b1⟩
    have B1 : Below w.heap.size w w1 := BX.trans (b1.mono BX.size)
    have hz1 := (b1.block _ hs0).trans hq
    clear b1 hq HAT
    have u0 := cells_at hz1 0
    have u1 := cells_at hz1 1
    have u2 := cells_at hz1 2
    have u3 := cells_at hz1 3
    have u4 := cells_at hz1 4
    have u5 := cells_at hz1 5
    have u6 := cells_at hz1 6
    have u7 := cells_at hz1 7
    simp at u0 u1 u2 u3 u4 u5 u6 u7
    have fu := frozen_at hz1
    have FF := hide (fin85 zeroRD (.slice none 0 0) hz1)
    have G8 := hide (grown85 w1 w.heap.size zeroRD (.slice none 0 0))
    clear hz1
    go_wp2_with fail
    (try simp only [Exit.inBlock, Exit.then])
    refine bodyPost_ret (results_cell_row_tmp5 rfl _ _ w.heap.size 81 (recC zeroRD (.slice none 0 0)) (0, 0) _ rfl FF.out Tryd.underlying81 rfl (by kernel_rfl)) rfl ?_
    exact ⟨.slice none 0 0, rfl, nears_nil _ _, (by simp [zeroRD]), B1.grown G8.out B1.size (fun k hk => by simp at hk; omega)⟩
  · obtain ⟨e1, e2⟩ := find_at hz hy
    rw [e1, e2]
    obtain ⟨t, htj, hty⟩ := fsts_some5 hy
    have hjl : j < ps.length := (List.getElem?_eq_some_iff.1 htj).1
    have hji : (0 : Int) ≤ (j : Int) := by omega
    have hjj : (j : Int) < (ps.length : Int) := by omega
    have hj0 : ¬ (j : Int) < 0 := by omega
    rw [hz] at HAT
    obtain ⟨b, off, cp, hve, hbb, c0, c1, c2, c3, c4, c5, c6, c7, hnr⟩ := HV.out.at.cells j t htj
    cases hve
    have hbw : b < w.heap.size := by omega
    obtain ⟨pa, pc, hpn⟩ := NearsAt.shape hnr
    rw [hpn] at c5 hnr
    have HNL := hide (show t.1.near.length ≤ 1048576 by have := tot_mem (List.mem_of_getElem? htj); omega)
    have HNR := hide hnr
    subst hty
    clear hz hy htj e1 e2 hpn hnr
    unfold recC
    go_enter Tryd.func68, Tryd.ntmps68
    go_wp2_with fail
    rw [← hw0]
    clear hw0
    refine HAT.out.mono ?_
    rintro e w1 ⟨rfl, b1⟩
    have B1 : Below w.heap.size w w1 := BX.trans (b1.mono BX.size)
    have hz1 := (b1.block _ hs0).trans hq
    clear b1 hq HAT
    rw [← B1.cell (p := ⟨b, off + j * 8, none⟩) hbw] at c0
    rw [← B1.cell (p := ⟨b, off + j * 8 + 1, none⟩) hbw] at c1
    rw [← B1.cell (p := ⟨b, off + j * 8 + 2, none⟩) hbw] at c2
    rw [← B1.cell (p := ⟨b, off + j * 8 + 3, none⟩) hbw] at c3
    rw [← B1.cell (p := ⟨b, off + j * 8 + 4, none⟩) hbw] at c4
    rw [← B1.cell (p := ⟨b, off + j * 8 + 5, none⟩) hbw] at c5
    rw [← B1.cell (p := ⟨b, off + j * 8 + 6, none⟩) hbw] at c6
    rw [← B1.cell (p := ⟨b, off + j * 8 + 7, none⟩) hbw] at c7
    obtain ⟨z, hzz⟩ : ∃ z, z = w.heap.size := ⟨_, rfl⟩
    rw [← hzz] at hz1 ⊢
    have HZ := hide hzz
    clear hzz
    have u0 := cells_at hz1 0
    have u1 := cells_at hz1 1
    have u2 := cells_at hz1 2
    have u3 := cells_at hz1 3
    have u4 := cells_at hz1 4
    have u5 := cells_at hz1 5
    have u6 := cells_at hz1 6
    have u7 := cells_at hz1 7
    simp at u0 u1 u2 u3 u4 u5 u6 u7
    have fu := frozen_at hz1
    have HZ1 := hide hz1
    have FIN : ∀ W, W = putR5 w1 z t.1 (.slice pa t.1.near.length pc) → NearsAt W (.slice pa t.1.near.length pc) t.1.near hi ∧ Below w.heap.size w W := by
      intro W hW
      have G8 := grown85 w1 z t.1 (.slice pa t.1.near.length pc)
      rw [← hW] at G8
      have BF : Below w.heap.size w W := B1.grown G8 B1.size (fun k hk => by have := HZ.out; simp at hk; omega)
      exact ⟨RowAt.later HNR.out BF hhi, BF⟩
    have HFIN := hide FIN
    clear hz1 FIN HNR B1 HV BX hs0 hjl hbb hbw
    go_wp2_with fail
    (try simp only [Exit.inBlock, Exit.then])
    refine bodyPost_ret (results_cell_row_tmp5 rfl _ _ z 81 (recC t.1 (.slice pa t.1.near.length pc)) (0, 0) _ rfl (fin85 t.1 (.slice pa t.1.near.length pc) HZ1.out) Tryd.underlying81 rfl (by kernel_rfl)) rfl ?_
    obtain ⟨W5, hW5⟩ : ∃ W, W = putR5 w1 z t.1 (.slice pa t.1.near.length pc) := ⟨_, rfl⟩
    have h := HFIN.out W5 hW5
    subst hW5
    exact ⟨_, rfl, h.1, HNL.out, h.2⟩

theorem tells_hit {ns : List Nr} {k : Nat} {n : Nr} {b : Int} (h : ns[k]? = some n) (hno : ∀ q ∈ ns.take k, q.to ≠ b) (hb : n.to = b) : tellsN ns b = n.c := by
  have e : ns.find? (fun x => x.to == b) = some n := by
    obtain ⟨hk, e1⟩ := List.getElem?_eq_some_iff.1 h
    rw [List.find?_eq_some_iff_append]
    refine ⟨by simpa using hb, ns.take k, ns.drop (k + 1), ?_, ?_⟩
    · rw [← e1, ← List.drop_eq_getElem_cons hk, List.take_append_drop]
    · intro x hx
      simpa using hno x hx
  unfold tellsN
  rw [e]

theorem tells_none {ns : List Nr} {b : Int} (hno : ∀ q ∈ ns, q.to ≠ b) : tellsN ns b = 0 := by
  have e : ns.find? (fun x => x.to == b) = none := by
    rw [List.find?_eq_none]
    intro x hx
    simpa using hno x hx
  unfold tellsN
  rw [e]

theorem take_allN {ns : List Nr} {k : Nat} {n : Nr} {b : Int} (h : ns[k]? = some n) (hno : ∀ q ∈ ns.take k, q.to ≠ b) (hz : n.to ≠ b) : ∀ q ∈ ns.take (k + 1), q.to ≠ b := by
  obtain ⟨hk, e⟩ := List.getElem?_eq_some_iff.1 h
  rw [List.take_succ_eq_append_getElem hk, e]
  intro q hq
  rcases List.mem_append.1 hq with h1 | h1
  · exact hno q h1
  · have : q = n := by simpa using h1
    subst this
    exact hz

set_option maxRecDepth 100000 in
set_option maxHeartbeats 4000000 in
theorem stells_any (v : Value) (ps : List RP) (hi : Nat) (area a b : Int) (w : World) (hv : RecsIn w hi v ps) (hhi : hi ≤ w.heap.size) (hn : tot ps ≤ 1048576) :
    Calls Tryd.prog 80 #[v, .int .i64 area, .int .i64 a, .int .i64 b] w fun e w' => e = .returned (.int .i64 (tellsD (fsts ps) area a b)) ∧ Below w.heap.size w w' := by
  have HNO := hide (snode_any v ps hi area a w hv hhi hn)
  obtain ⟨a1, c1, rfl⟩ := owns_lenS hv.row
  clear hv
  unfold tellsD
  obtain ⟨D, hD⟩ : ∃ D, D = nodeD (fsts ps) area a := ⟨_, rfl⟩
  rw [← hD] at HNO
  rw [← hD]
  clear hD
  obtain ⟨X, hX⟩ : ∃ X, X = tellsN D.near b := ⟨_, rfl⟩
  rw [← hX]
  have HX := hide hX
  clear hX
  unfold recC at HNO
  go_enter Tryd.func80, Tryd.ntmps80
  go_wp2_with fail
  refine HNO.out.mono ?_
  rintro e w1 ⟨u, rfl, hu, hul, b1⟩
  obtain ⟨ua, uc, rfl⟩ := NearsAt.shape hu
  have hx := heap_alloc_new w1 (.cells #[.int .i64 D.area, .int .i64 D.kind, .int .i64 D.owner, .int .i64 D.key, .int .i64 D.seq, .slice ua D.near.length uc, .int .i64 D.cost, .bool D.far] 81)
  have BX : Below w1.heap.size w1 (w1.alloc (.cells #[.int .i64 D.area, .int .i64 D.kind, .int .i64 D.owner, .int .i64 D.key, .int .i64 D.seq, .slice ua D.near.length uc, .int .i64 D.cost, .bool D.far] 81)) := (Below.refl _ _).alloc (Nat.le_refl _) _
  obtain ⟨w2, hw2⟩ : ∃ W, W = w1.alloc (.cells #[.int .i64 D.area, .int .i64 D.kind, .int .i64 D.owner, .int .i64 D.key, .int .i64 D.seq, .slice ua D.near.length uc, .int .i64 D.cost, .bool D.far] 81) := ⟨_, rfl⟩
  rw [← hw2] at hx BX
  have B2 : Below w.heap.size w w2 := b1.trans (BX.mono b1.size)
  have HU : Hid (NearsAt w2 (.slice ua D.near.length uc) D.near w2.heap.size) := hide ((RowAt.later hu BX (Nat.le_trans hhi b1.size)).more (Nat.le_trans hhi B2.size))
  have hs2 := lt_of_heap hx
  have HXX := hide hx
  clear hu hx
  go_wp2
  rw [← hw2]
  clear hw2
  go_loopw [11] (fun i wr => ∃ k : Nat, k ≤ D.near.length ∧ i = .int .i64 k ∧ Hid (∀ q ∈ D.near.take k, q.to ≠ b) ∧ Below w2.heap.size w2 wr) (fun i _ => D.near.length - (intOf i).toNat)
  case atStart => exact ⟨0, by omega, rfl, hide (by simp), Below.refl _ _⟩
  case round =>
    obtain ⟨k, hk, rfl, HNN, hnx⟩ := hrel
    have hx2 := (hnx.block _ hs2).trans HXX.out
    have d5 := cells_at hx2 5
    simp at d5
    clear hx2
    have BWR : Below w.heap.size w wr := B2.trans (hnx.mono B2.size)
    by_cases hlt : k < D.near.length
    · obtain ⟨n, hnk⟩ : ∃ n, D.near[k]? = some n := ⟨D.near[k], List.getElem?_eq_getElem hlt⟩
      obtain ⟨g, off, cap', hve, hbb, c0, c1⟩ := HU.out.cells k n hnk
      cases hve
      rw [← hnx.cell (p := ⟨g, off + k * 2, none⟩) hbb] at c0
      rw [← hnx.cell (p := ⟨g, off + k * 2 + 1, none⟩) hbb] at c1
      have hki : (0 : Int) ≤ (k : Int) := by omega
      have hkj : (k : Int) < (D.near.length : Int) := by omega
      by_cases hzz : n.to = b
      · have HF := hide (HX.out.trans (tells_hit hnk HNN.out hzz))
        rw [hzz] at c0
        clear hnk hzz
        go_wp2
        go_ret
        exact ⟨by rw [HF.out]; rfl, BWR⟩
      · have HN := hide (take_allN hnk HNN.out hzz)
        have hd : (n.to == b) = false := by simpa using hzz
        clear hnk
        go_wp2
        go_roundw
        case rel => exact ⟨k + 1, by omega, by go_num, HN, hnx⟩
        case measure => simp [intOf]; omega
    · have HF := hide (HX.out.trans (tells_none (by have h := HNN.out; rw [List.take_of_length_le (by omega)] at h; exact h)))
      go_wp2
      go_ret
      exact ⟨by rw [HF.out]; rfl, BWR⟩
end Go.Proofs.YthmmpmbnpfhloaaDoor
namespace Go.Proofs.YthmmpmbnpfhloaaDoor
open Go.RowKit

set_option linter.unusedSimpArgs false

/-- what impl.Together makes of two ways -/
def togI (x y : WayD) : WayD := if betterB x y then x else if betterB y x then y else ⟨x.to, x.cost, hopsI x.hops y.hops⟩

end Go.Proofs.YthmmpmbnpfhloaaDoor
