/-
  slices.BinarySearchFunc at lists of records: its contract.
-/
import Derived.Test.YtdaigojpeofmpaaInstK
import Derived.Test.YtdaigojpeofmpaaStoreI
namespace Go.Proofs.Ytdaigojpeofmpaa
open Go.RowKit

set_option linter.unusedSimpArgs false

/-- whether the record at t is ahead of r -/
def ltAt (xs : List RecD) (r : RecD) (t : Nat) : Prop := ∃ x, xs[t]? = some x ∧ ordR x r < 0

theorem ltAt_of {xs : List RecD} {r x : RecD} {t : Nat} (h : xs[t]? = some x) : ltAt xs r t ↔ ordR x r < 0 := by
  constructor
  · rintro ⟨y, hy, hl⟩
    rw [h] at hy
    cases hy
    exact hl
  · exact fun hl => ⟨x, h, hl⟩

set_option maxRecDepth 100000 in
set_option maxHeartbeats 4000000 in
theorem search_any (v : Value) (ps : List RP) (hi : Nat) (r : RP) (w : World) (hv : RecsIn w hi v ps) (hhi : hi ≤ w.heap.size) (hn : tot ps ≤ 1048576) (hr : NearOwn w 0 hi r) (hmono : ∀ s t, s ≤ t → t < ps.length → ltAt (fsts ps) r.1 t → ltAt (fsts ps) r.1 s) :
    Calls Try.prog 102 #[v, .agg (recC r.1 r.2), .func (.func 87) #[] #[]] w fun e w' => ∃ (i : Nat) (f : Bool), e = .returned (.tuple #[.int .i64 (i : Int), .bool f]) ∧ i ≤ ps.length ∧ (∀ t, t < i → ltAt (fsts ps) r.1 t) ∧ (∀ t, i ≤ t → t < ps.length → ¬ ltAt (fsts ps) r.1 t) ∧ (f = true ↔ ∃ x, (fsts ps)[i]? = some x ∧ ordR x r.1 = 0) ∧ Below w.heap.size w w' := by
  have hnl := tot_len ps
  obtain ⟨a1, c1, rfl⟩ := owns_lenS hv.row
  obtain ⟨ra, rc, hrn⟩ := owns_lenS hr.1
  have HRN := hide hrn
  have HV := hide hv
  have HM := hide hmono
  unfold recC
  rw [hrn]
  clear hv hr hrn hmono
  have BX : Below w.heap.size w (w.alloc (.cells #[.int .i64 r.1.area, .int .i64 r.1.kind, .int .i64 r.1.owner, .int .i64 r.1.key, .int .i64 r.1.seq, .slice ra r.1.near.length rc, .int .i64 r.1.cost, .bool r.1.far] 56)) := (Below.refl _ _).alloc (Nat.le_refl _) _
  have hx := heap_alloc_new w (.cells #[.int .i64 r.1.area, .int .i64 r.1.kind, .int .i64 r.1.owner, .int .i64 r.1.key, .int .i64 r.1.seq, .slice ra r.1.near.length rc, .int .i64 r.1.cost, .bool r.1.far] 56)
  obtain ⟨w0, hw0⟩ : ∃ w0, w0 = w.alloc (.cells #[.int .i64 r.1.area, .int .i64 r.1.kind, .int .i64 r.1.owner, .int .i64 r.1.key, .int .i64 r.1.seq, .slice ra r.1.near.length rc, .int .i64 r.1.cost, .bool r.1.far] 56) := ⟨_, rfl⟩
  rw [← hw0] at BX hx
  have hs0 := lt_of_heap hx
  have HX := hide hx
  clear hx
  go_enter Try.func102, Try.ntmps102
  go_wp2
  rw [← hw0]
  clear hw0
  go_loopw [9, 10] (fun i j wr => ∃ (m n : Nat), m ≤ n ∧ n ≤ ps.length ∧ i = .int .i64 m ∧ j = .int .i64 n ∧ Hid (∀ t, t < m → ltAt (fsts ps) r.1 t) ∧ Hid (∀ t, n ≤ t → t < ps.length → ¬ ltAt (fsts ps) r.1 t) ∧ Below w0.heap.size w0 wr) (fun i j _ => (intOf j).toNat - (intOf i).toNat)
  case atStart => exact ⟨0, ps.length, by omega, by omega, rfl, rfl, hide (by omega), hide (by omega), Below.refl _ _⟩
  case round =>
    obtain ⟨m, n, hmn, hnp, rfl, rfl, HLO, HHI, hnx⟩ := hrel
    have hsz := hnx.size
    have BWR : Below w.heap.size w wr := BX.trans (hnx.mono (by omega))
    by_cases hlt : m < n
    · have hmi : (m : Int) < (n : Int) := by omega
      have hw1 : IntKind.i64.wrap ((m : Int) + (n : Int)) = (m : Int) + (n : Int) := wrap_fit _ (by omega) (by omega)
      go_wp2
      obtain ⟨k, hk⟩ : ∃ k : Nat, k = (m + n) / 2 := ⟨_, rfl⟩
      have hke : ((m : Int) + (n : Int)) / 2 = (k : Int) := by omega
      rw [hke]
      have hkm : m ≤ k := by omega
      have hkn : k < n := by omega
      have hki : (0 : Int) ≤ (k : Int) := by omega
      have hkj : (k : Int) < (ps.length : Int) := by omega
      clear hk hke hw1
      obtain ⟨p, hp⟩ : ∃ p, ps[k]? = some p := ⟨ps[k], List.getElem?_eq_getElem (by omega)⟩
      obtain ⟨b, off, cap', hve, hbb, c0, c1, c2, c3, c4, c5, c6, c7, hnr⟩ := HV.out.at.cells k p hp
      cases hve
      obtain ⟨pa, pc, hpn⟩ := NearsAt.shape hnr
      rw [hpn] at c5
      rw [← BWR.cell (p := ⟨b, off + k * 8, none⟩) (Nat.lt_of_lt_of_le hbb hhi)] at c0
      rw [← BWR.cell (p := ⟨b, off + k * 8 + 1, none⟩) (Nat.lt_of_lt_of_le hbb hhi)] at c1
      rw [← BWR.cell (p := ⟨b, off + k * 8 + 2, none⟩) (Nat.lt_of_lt_of_le hbb hhi)] at c2
      rw [← BWR.cell (p := ⟨b, off + k * 8 + 3, none⟩) (Nat.lt_of_lt_of_le hbb hhi)] at c3
      rw [← BWR.cell (p := ⟨b, off + k * 8 + 4, none⟩) (Nat.lt_of_lt_of_le hbb hhi)] at c4
      rw [← BWR.cell (p := ⟨b, off + k * 8 + 5, none⟩) (Nat.lt_of_lt_of_le hbb hhi)] at c5
      rw [← BWR.cell (p := ⟨b, off + k * 8 + 6, none⟩) (Nat.lt_of_lt_of_le hbb hhi)] at c6
      rw [← BWR.cell (p := ⟨b, off + k * 8 + 7, none⟩) (Nat.lt_of_lt_of_le hbb hhi)] at c7
      have hxx := (hnx.block _ (lt_of_heap HX.out)).trans HX.out
      have d0 := cells_at hxx 0
      have d1 := cells_at hxx 1
      have d2 := cells_at hxx 2
      have d3 := cells_at hxx 3
      have d4 := cells_at hxx 4
      have d5 := cells_at hxx 5
      have d6 := cells_at hxx 6
      have d7 := cells_at hxx 7
      simp at d0 d1 d2 d3 d4 d5 d6 d7
      have hb1 : b < wr.heap.size := by omega
      have hb2 : w.heap.size < wr.heap.size := by omega
      have hq := fun W => orderKeyed_any p.2 r.2 p.1 r.1 W
      unfold recC at hq
      rw [hpn, HRN.out] at hq
      obtain ⟨x, hx⟩ : ∃ x, x = ordR p.1 r.1 := ⟨_, rfl⟩
      rw [← hx] at hq
      have HK := hide hq
      have HXV := hide hx
      have HPP := hide (fsts_at hp)
      clear hq hx hp hxx hnr hpn
      by_cases hx0 : x < 0
      · have HLO2 := hide (show ∀ t, t < k + 1 → ltAt (fsts ps) r.1 t from fun t ht => HM.out t k (by omega) (by omega) ((ltAt_of HPP.out).2 (by rw [← HXV.out]; exact hx0)))
        go_region_held3 (fun W => W.cell? ⟨b, off + k * 8, none⟩ = some (.int .i64 p.1.area) ∧ W.cell? ⟨b, off + k * 8 + 1, none⟩ = some (.int .i64 p.1.kind) ∧ W.cell? ⟨b, off + k * 8 + 2, none⟩ = some (.int .i64 p.1.owner) ∧ W.cell? ⟨b, off + k * 8 + 3, none⟩ = some (.int .i64 p.1.key) ∧ W.cell? ⟨b, off + k * 8 + 4, none⟩ = some (.int .i64 p.1.seq) ∧ W.cell? ⟨b, off + k * 8 + 5, none⟩ = some (.slice pa p.1.near.length pc) ∧ W.cell? ⟨b, off + k * 8 + 6, none⟩ = some (.int .i64 p.1.cost) ∧ W.cell? ⟨b, off + k * 8 + 7, none⟩ = some (.bool p.1.far) ∧ W.cell? ⟨w.heap.size, 0, none⟩ = some (.int .i64 r.1.area) ∧ W.cell? ⟨w.heap.size, 1, none⟩ = some (.int .i64 r.1.kind) ∧ W.cell? ⟨w.heap.size, 2, none⟩ = some (.int .i64 r.1.owner) ∧ W.cell? ⟨w.heap.size, 3, none⟩ = some (.int .i64 r.1.key) ∧ W.cell? ⟨w.heap.size, 4, none⟩ = some (.int .i64 r.1.seq) ∧ W.cell? ⟨w.heap.size, 5, none⟩ = some (.slice ra r.1.near.length rc) ∧ W.cell? ⟨w.heap.size, 6, none⟩ = some (.int .i64 r.1.cost) ∧ W.cell? ⟨w.heap.size, 7, none⟩ = some (.bool r.1.far)) (first | go_keep | (refine ⟨?_, ?_, ?_, ?_, ?_, ?_, ?_, ?_, ?_, ?_, ?_, ?_, ?_, ?_, ?_, ?_⟩ <;> (rw [hbc.cell (by assumption)]; assumption))) (first | (go_at_call 87; refine (HK.out _).mono ?_; rintro e w1 ⟨rfl, hbc⟩))
        go_wp2
        go_roundw
        case rel => exact ⟨k + 1, n, by omega, by omega, by go_num, rfl, HLO2, HHI, hnx.trans ((Below.refl _ _).drew.trans (hbc.mono hsz))⟩
        case measure => simp [intOf]; omega
      · have HHI2 := hide (show ∀ t, k ≤ t → t < ps.length → ¬ ltAt (fsts ps) r.1 t from fun t h1 h2 h3 => hx0 (by rw [HXV.out]; exact (ltAt_of HPP.out).1 (HM.out k t h1 h2 h3)))
        go_region_held3 (fun W => W.cell? ⟨b, off + k * 8, none⟩ = some (.int .i64 p.1.area) ∧ W.cell? ⟨b, off + k * 8 + 1, none⟩ = some (.int .i64 p.1.kind) ∧ W.cell? ⟨b, off + k * 8 + 2, none⟩ = some (.int .i64 p.1.owner) ∧ W.cell? ⟨b, off + k * 8 + 3, none⟩ = some (.int .i64 p.1.key) ∧ W.cell? ⟨b, off + k * 8 + 4, none⟩ = some (.int .i64 p.1.seq) ∧ W.cell? ⟨b, off + k * 8 + 5, none⟩ = some (.slice pa p.1.near.length pc) ∧ W.cell? ⟨b, off + k * 8 + 6, none⟩ = some (.int .i64 p.1.cost) ∧ W.cell? ⟨b, off + k * 8 + 7, none⟩ = some (.bool p.1.far) ∧ W.cell? ⟨w.heap.size, 0, none⟩ = some (.int .i64 r.1.area) ∧ W.cell? ⟨w.heap.size, 1, none⟩ = some (.int .i64 r.1.kind) ∧ W.cell? ⟨w.heap.size, 2, none⟩ = some (.int .i64 r.1.owner) ∧ W.cell? ⟨w.heap.size, 3, none⟩ = some (.int .i64 r.1.key) ∧ W.cell? ⟨w.heap.size, 4, none⟩ = some (.int .i64 r.1.seq) ∧ W.cell? ⟨w.heap.size, 5, none⟩ = some (.slice ra r.1.near.length rc) ∧ W.cell? ⟨w.heap.size, 6, none⟩ = some (.int .i64 r.1.cost) ∧ W.cell? ⟨w.heap.size, 7, none⟩ = some (.bool r.1.far)) (first | go_keep | (refine ⟨?_, ?_, ?_, ?_, ?_, ?_, ?_, ?_, ?_, ?_, ?_, ?_, ?_, ?_, ?_, ?_⟩ <;> (rw [hbc.cell (by assumption)]; assumption))) (first | (go_at_call 87; refine (HK.out _).mono ?_; rintro e w1 ⟨rfl, hbc⟩))
        go_wp2
        go_roundw
        case rel => exact ⟨m, k, by omega, by omega, rfl, rfl, HLO, HHI2, hnx.trans ((Below.refl _ _).drew.trans (hbc.mono hsz))⟩
        case measure => simp [intOf]; omega
    · have hmn2 : m = n := by omega
      subst hmn2
      by_cases hend : m < ps.length
      · have hmi : (0 : Int) ≤ (m : Int) := by omega
        have hmj : (m : Int) < (ps.length : Int) := by omega
        obtain ⟨p, hp⟩ : ∃ p, ps[m]? = some p := ⟨ps[m], List.getElem?_eq_getElem (by omega)⟩
        obtain ⟨b, off, cap', hve, hbb, c0, c1, c2, c3, c4, c5, c6, c7, hnr⟩ := HV.out.at.cells m p hp
        cases hve
        obtain ⟨pa, pc, hpn⟩ := NearsAt.shape hnr
        rw [hpn] at c5
        rw [← BWR.cell (p := ⟨b, off + m * 8, none⟩) (Nat.lt_of_lt_of_le hbb hhi)] at c0
        rw [← BWR.cell (p := ⟨b, off + m * 8 + 1, none⟩) (Nat.lt_of_lt_of_le hbb hhi)] at c1
        rw [← BWR.cell (p := ⟨b, off + m * 8 + 2, none⟩) (Nat.lt_of_lt_of_le hbb hhi)] at c2
        rw [← BWR.cell (p := ⟨b, off + m * 8 + 3, none⟩) (Nat.lt_of_lt_of_le hbb hhi)] at c3
        rw [← BWR.cell (p := ⟨b, off + m * 8 + 4, none⟩) (Nat.lt_of_lt_of_le hbb hhi)] at c4
        rw [← BWR.cell (p := ⟨b, off + m * 8 + 5, none⟩) (Nat.lt_of_lt_of_le hbb hhi)] at c5
        rw [← BWR.cell (p := ⟨b, off + m * 8 + 6, none⟩) (Nat.lt_of_lt_of_le hbb hhi)] at c6
        rw [← BWR.cell (p := ⟨b, off + m * 8 + 7, none⟩) (Nat.lt_of_lt_of_le hbb hhi)] at c7
        have hxx := (hnx.block _ (lt_of_heap HX.out)).trans HX.out
        have d0 := cells_at hxx 0
        have d1 := cells_at hxx 1
        have d2 := cells_at hxx 2
        have d3 := cells_at hxx 3
        have d4 := cells_at hxx 4
        have d5 := cells_at hxx 5
        have d6 := cells_at hxx 6
        have d7 := cells_at hxx 7
        simp at d0 d1 d2 d3 d4 d5 d6 d7
        have hb1 : b < wr.heap.size := by omega
        have hb2 : w.heap.size < wr.heap.size := by omega
        have hq := fun W => orderKeyed_any p.2 r.2 p.1 r.1 W
        unfold recC at hq
        rw [hpn, HRN.out] at hq
        obtain ⟨x, hx⟩ : ∃ x, x = ordR p.1 r.1 := ⟨_, rfl⟩
        rw [← hx] at hq
        have HK := hide hq
        have HXV := hide hx
        have HPP := hide (fsts_at hp)
        clear hq hx hp hxx hnr hpn
        have hfin : (x == 0) = true ↔ ∃ y, (fsts ps)[m]? = some y ∧ ordR y r.1 = 0 := by
          rw [HPP.out]
          constructor
          · intro h
            exact ⟨p.1, rfl, by rw [← HXV.out]; simpa using h⟩
          · rintro ⟨y, hy, he⟩
            cases hy
            rw [HXV.out]
            simpa using he
        have HFIN := hide hfin
        clear hfin
        go_wp2
        go_region_held3 (fun W => W.cell? ⟨b, off + m * 8, none⟩ = some (.int .i64 p.1.area) ∧ W.cell? ⟨b, off + m * 8 + 1, none⟩ = some (.int .i64 p.1.kind) ∧ W.cell? ⟨b, off + m * 8 + 2, none⟩ = some (.int .i64 p.1.owner) ∧ W.cell? ⟨b, off + m * 8 + 3, none⟩ = some (.int .i64 p.1.key) ∧ W.cell? ⟨b, off + m * 8 + 4, none⟩ = some (.int .i64 p.1.seq) ∧ W.cell? ⟨b, off + m * 8 + 5, none⟩ = some (.slice pa p.1.near.length pc) ∧ W.cell? ⟨b, off + m * 8 + 6, none⟩ = some (.int .i64 p.1.cost) ∧ W.cell? ⟨b, off + m * 8 + 7, none⟩ = some (.bool p.1.far) ∧ W.cell? ⟨w.heap.size, 0, none⟩ = some (.int .i64 r.1.area) ∧ W.cell? ⟨w.heap.size, 1, none⟩ = some (.int .i64 r.1.kind) ∧ W.cell? ⟨w.heap.size, 2, none⟩ = some (.int .i64 r.1.owner) ∧ W.cell? ⟨w.heap.size, 3, none⟩ = some (.int .i64 r.1.key) ∧ W.cell? ⟨w.heap.size, 4, none⟩ = some (.int .i64 r.1.seq) ∧ W.cell? ⟨w.heap.size, 5, none⟩ = some (.slice ra r.1.near.length rc) ∧ W.cell? ⟨w.heap.size, 6, none⟩ = some (.int .i64 r.1.cost) ∧ W.cell? ⟨w.heap.size, 7, none⟩ = some (.bool r.1.far)) (first | go_keep | (refine ⟨?_, ?_, ?_, ?_, ?_, ?_, ?_, ?_, ?_, ?_, ?_, ?_, ?_, ?_, ?_, ?_⟩ <;> (rw [hbc.cell (by assumption)]; assumption))) (first | (go_at_call 87; refine (HK.out _).mono ?_; rintro e w1 ⟨rfl, hbc⟩))
        go_wp2
        go_returns
        exact ⟨m, x == 0, rfl, by omega, HLO.out, HHI.out, HFIN.out, BWR.trans ((Below.refl _ _).drew.trans (hbc.mono (show w.heap.size ≤ wr.heap.size by omega)))⟩
      · have hme : ¬ (m : Int) < (ps.length : Int) := by omega
        have HNO := hide (show (false = true ↔ ∃ y, (fsts ps)[m]? = some y ∧ ordR y r.1 = 0) from ⟨(fun h => by cases h), (fun ⟨y, hy, _⟩ => by rw [List.getElem?_eq_none (by simp [fsts]; omega)] at hy; cases hy)⟩)
        go_wp2
        go_quiet (fail)
        go_wp2
        go_returns
        exact ⟨m, false, rfl, by omega, HLO.out, HHI.out, HNO.out, BWR.trans ⟨rfl, rfl, rfl, Nat.le_refl _, fun _ _ => rfl⟩⟩
end Go.Proofs.Ytdaigojpeofmpaa
