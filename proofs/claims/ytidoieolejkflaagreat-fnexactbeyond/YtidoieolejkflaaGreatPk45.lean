/-
  slices.BinarySearchFunc at lists of records: its contract.
  A record put into a list in order: the plain mathematics.
  What a border tells into an area: the records, determined by the sets of ways.
-/
import Derived.Test.YtidoieolejkflaaGreatPk5
import Derived.Test.YtidoieolejkflaaGreatPk11
import Derived.Test.YtidoieolejkflaaGreatPk44
import Derived.Test.YtidoieolejkflaaGreatPk33
namespace Go.Proofs.YtidoieolejkflaaGreat
open Go.RowKit

set_option linter.unusedSimpArgs false

/-- whether the record at t is ahead of r -/
def ltAt (xs : List RecD) (r : RecD) (t : Nat) : Prop := ∃ x, xs[t]? = some x ∧ ordR x r < 0

theorem ltAt_of {xs : List RecD} {r x : RecD} {t : Nat} (h : xs[t]? = some x) : ltAt xs r t ↔ ordR x r < 0 := by
  constructor
  · rintro ⟨y, hy, hl⟩
    rw [h] at hy
    cases hy
    exact hl
  · exact fun hl => ⟨x, h, hl⟩

set_option maxRecDepth 100000 in
set_option maxHeartbeats 4000000 in
theorem search_any (v : Value) (ps : List RP) (hi : Nat) (r : RP) (w : World) (hv : RecsIn w hi v ps) (hhi : hi ≤ w.heap.size) (hn : tot ps ≤ 1048576) (hr : NearOwn w 0 hi r) (hmono : ∀ s t, s ≤ t → t < ps.length → ltAt (fsts ps) r.1 t → ltAt (fsts ps) r.1 s) :
    Calls Tryz.prog 120 #[v, .agg (recC r.1 r.2), .func (.func 121) #[] #[]] w fun e w' => ∃ (i : Nat) (f : Bool), e = .returned (.tuple #[.int .i64 (i : Int), .bool f]) ∧ i ≤ ps.length ∧ (∀ t, t < i → ltAt (fsts ps) r.1 t) ∧ (∀ t, i ≤ t → t < ps.length → ¬ ltAt (fsts ps) r.1 t) ∧ (f = true ↔ ∃ x, (fsts ps)[i]? = some x ∧ ordR x r.1 = 0) ∧ Below w.heap.size w w' := by
  have hnl := tot_len ps
  obtain ⟨a1, c1, rfl⟩ := owns_lenS hv.row
  obtain ⟨ra, rc, hrn⟩ := owns_lenS hr.1
  have HRN := hide hrn
  have HV := hide hv
  have HM := hide hmono
  unfold recC
  rw [hrn]
  clear hv hr hrn hmono
  have BX : Below w.heap.size w (w.alloc (.cells #[.int .i64 r.1.area, .int .i64 r.1.kind, .int .i64 r.1.owner, .int .i64 r.1.key, .int .i64 r.1.seq, .slice ra r.1.near.length rc, .int .i64 r.1.cost, .bool r.1.far] 71)) := (Below.refl _ _).alloc (Nat.le_refl _) _
  have hx := heap_alloc_new w (.cells #[.int .i64 r.1.area, .int .i64 r.1.kind, .int .i64 r.1.owner, .int .i64 r.1.key, .int .i64 r.1.seq, .slice ra r.1.near.length rc, .int .i64 r.1.cost, .bool r.1.far] 71)
  obtain ⟨w0, hw0⟩ : ∃ w0, w0 = w.alloc (.cells #[.int .i64 r.1.area, .int .i64 r.1.kind, .int .i64 r.1.owner, .int .i64 r.1.key, .int .i64 r.1.seq, .slice ra r.1.near.length rc, .int .i64 r.1.cost, .bool r.1.far] 71) := ⟨_, rfl⟩
  rw [← hw0] at BX hx
  have hs0 := lt_of_heap hx
  have HX := hide hx
  clear hx
  go_enter Tryz.func120, Tryz.ntmps120
  go_wp2
  rw [← hw0]
  clear hw0
  go_loopw [9, 10] (fun i j wr => ∃ (m n : Nat), m ≤ n ∧ n ≤ ps.length ∧ i = .int .i64 m ∧ j = .int .i64 n ∧ Hid (∀ t, t < m → ltAt (fsts ps) r.1 t) ∧ Hid (∀ t, n ≤ t → t < ps.length → ¬ ltAt (fsts ps) r.1 t) ∧ Below w0.heap.size w0 wr) (fun i j _ => (intOf j).toNat - (intOf i).toNat)
  case atStart => exact ⟨0, ps.length, by omega, by omega, rfl, rfl, hide (by omega), hide (by omega), Below.refl _ _⟩
  case round =>
    obtain ⟨m, n, hmn, hnp, rfl, rfl, HLO, HHI, hnx⟩ := hrel
    have hsz := hnx.size
    have BWR : Below w.heap.size w wr := BX.trans (hnx.mono (by omega))
    by_cases hlt : m < n
    · have hmi : (m : Int) < (n : Int) := by omega
      have hw1 : IntKind.i64.wrap ((m : Int) + (n : Int)) = (m : Int) + (n : Int) := wrap_fit _ (by omega) (by omega)
      go_wp2
      obtain ⟨k, hk⟩ : ∃ k : Nat, k = (m + n) / 2 := ⟨_, rfl⟩
      have hke : ((m : Int) + (n : Int)) / 2 = (k : Int) := by omega
      rw [hke]
      have hkm : m ≤ k := by omega
      have hkn : k < n := by omega
      have hki : (0 : Int) ≤ (k : Int) := by omega
      have hkj : (k : Int) < (ps.length : Int) := by omega
      clear hk hke hw1
      obtain ⟨p, hp⟩ : ∃ p, ps[k]? = some p := ⟨ps[k], List.getElem?_eq_getElem (by omega)⟩
      obtain ⟨b, off, cap', hve, hbb, c0, c1, c2, c3, c4, c5, c6, c7, hnr⟩ := HV.out.at.cells k p hp
      cases hve
      obtain ⟨pa, pc, hpn⟩ := NearsAt.shape hnr
      rw [hpn] at c5
      rw [← BWR.cell (p := ⟨b, off + k * 8, none⟩) (Nat.lt_of_lt_of_le hbb hhi)] at c0
      rw [← BWR.cell (p := ⟨b, off + k * 8 + 1, none⟩) (Nat.lt_of_lt_of_le hbb hhi)] at c1
      rw [← BWR.cell (p := ⟨b, off + k * 8 + 2, none⟩) (Nat.lt_of_lt_of_le hbb hhi)] at c2
      rw [← BWR.cell (p := ⟨b, off + k * 8 + 3, none⟩) (Nat.lt_of_lt_of_le hbb hhi)] at c3
      rw [← BWR.cell (p := ⟨b, off + k * 8 + 4, none⟩) (Nat.lt_of_lt_of_le hbb hhi)] at c4
      rw [← BWR.cell (p := ⟨b, off + k * 8 + 5, none⟩) (Nat.lt_of_lt_of_le hbb hhi)] at c5
      rw [← BWR.cell (p := ⟨b, off + k * 8 + 6, none⟩) (Nat.lt_of_lt_of_le hbb hhi)] at c6
      rw [← BWR.cell (p := ⟨b, off + k * 8 + 7, none⟩) (Nat.lt_of_lt_of_le hbb hhi)] at c7
      have hxx := (hnx.block _ (lt_of_heap HX.out)).trans HX.out
      have d0 := cells_at hxx 0
      have d1 := cells_at hxx 1
      have d2 := cells_at hxx 2
      have d3 := cells_at hxx 3
      have d4 := cells_at hxx 4
      have d5 := cells_at hxx 5
      have d6 := cells_at hxx 6
      have d7 := cells_at hxx 7
      simp at d0 d1 d2 d3 d4 d5 d6 d7
      have hb1 : b < wr.heap.size := by omega
      have hb2 : w.heap.size < wr.heap.size := by omega
      have hq := fun W => orderKeyed_any p.2 r.2 p.1 r.1 W
      unfold recC at hq
      rw [hpn, HRN.out] at hq
      obtain ⟨x, hx⟩ : ∃ x, x = ordR p.1 r.1 := ⟨_, rfl⟩
      rw [← hx] at hq
      have HK := hide hq
      have HXV := hide hx
      have HPP := hide (fsts_at hp)
      clear hq hx hp hxx hnr hpn
      by_cases hx0 : x < 0
      · have HLO2 := hide (show ∀ t, t < k + 1 → ltAt (fsts ps) r.1 t from fun t ht => HM.out t k (by omega) (by omega) ((ltAt_of HPP.out).2 (by rw [← HXV.out]; exact hx0)))
        go_region_held3 (fun W => W.cell? ⟨b, off + k * 8, none⟩ = some (.int .i64 p.1.area) ∧ W.cell? ⟨b, off + k * 8 + 1, none⟩ = some (.int .i64 p.1.kind) ∧ W.cell? ⟨b, off + k * 8 + 2, none⟩ = some (.int .i64 p.1.owner) ∧ W.cell? ⟨b, off + k * 8 + 3, none⟩ = some (.int .i64 p.1.key) ∧ W.cell? ⟨b, off + k * 8 + 4, none⟩ = some (.int .i64 p.1.seq) ∧ W.cell? ⟨b, off + k * 8 + 5, none⟩ = some (.slice pa p.1.near.length pc) ∧ W.cell? ⟨b, off + k * 8 + 6, none⟩ = some (.int .i64 p.1.cost) ∧ W.cell? ⟨b, off + k * 8 + 7, none⟩ = some (.bool p.1.far) ∧ W.cell? ⟨w.heap.size, 0, none⟩ = some (.int .i64 r.1.area) ∧ W.cell? ⟨w.heap.size, 1, none⟩ = some (.int .i64 r.1.kind) ∧ W.cell? ⟨w.heap.size, 2, none⟩ = some (.int .i64 r.1.owner) ∧ W.cell? ⟨w.heap.size, 3, none⟩ = some (.int .i64 r.1.key) ∧ W.cell? ⟨w.heap.size, 4, none⟩ = some (.int .i64 r.1.seq) ∧ W.cell? ⟨w.heap.size, 5, none⟩ = some (.slice ra r.1.near.length rc) ∧ W.cell? ⟨w.heap.size, 6, none⟩ = some (.int .i64 r.1.cost) ∧ W.cell? ⟨w.heap.size, 7, none⟩ = some (.bool r.1.far)) (first | go_keep | (refine ⟨?_, ?_, ?_, ?_, ?_, ?_, ?_, ?_, ?_, ?_, ?_, ?_, ?_, ?_, ?_, ?_⟩ <;> (rw [hbc.cell (by assumption)]; assumption))) (first | (go_at_call 121; refine (HK.out _).mono ?_; rintro e w1 ⟨rfl, hbc⟩))
        go_wp2
        go_roundw
        case rel => exact ⟨k + 1, n, by omega, by omega, by go_num, rfl, HLO2, HHI, hnx.trans ((Below.refl _ _).drew.trans (hbc.mono hsz))⟩
        case measure => simp [intOf]; omega
      · have HHI2 := hide (show ∀ t, k ≤ t → t < ps.length → ¬ ltAt (fsts ps) r.1 t from fun t h1 h2 h3 => hx0 (by rw [HXV.out]; exact (ltAt_of HPP.out).1 (HM.out k t h1 h2 h3)))
        go_region_held3 (fun W => W.cell? ⟨b, off + k * 8, none⟩ = some (.int .i64 p.1.area) ∧ W.cell? ⟨b, off + k * 8 + 1, none⟩ = some (.int .i64 p.1.kind) ∧ W.cell? ⟨b, off + k * 8 + 2, none⟩ = some (.int .i64 p.1.owner) ∧ W.cell? ⟨b, off + k * 8 + 3, none⟩ = some (.int .i64 p.1.key) ∧ W.cell? ⟨b, off + k * 8 + 4, none⟩ = some (.int .i64 p.1.seq) ∧ W.cell? ⟨b, off + k * 8 + 5, none⟩ = some (.slice pa p.1.near.length pc) ∧ W.cell? ⟨b, off + k * 8 + 6, none⟩ = some (.int .i64 p.1.cost) ∧ W.cell? ⟨b, off + k * 8 + 7, none⟩ = some (.bool p.1.far) ∧ W.cell? ⟨w.heap.size, 0, none⟩ = some (.int .i64 r.1.area) ∧ W.cell? ⟨w.heap.size, 1, none⟩ = some (.int .i64 r.1.kind) ∧ W.cell? ⟨w.heap.size, 2, none⟩ = some (.int .i64 r.1.owner) ∧ W.cell? ⟨w.heap.size, 3, none⟩ = some (.int .i64 r.1.key) ∧ W.cell? ⟨w.heap.size, 4, none⟩ = some (.int .i64 r.1.seq) ∧ W.cell? ⟨w.heap.size, 5, none⟩ = some (.slice ra r.1.near.length rc) ∧ W.cell? ⟨w.heap.size, 6, none⟩ = some (.int .i64 r.1.cost) ∧ W.cell? ⟨w.heap.size, 7, none⟩ = some (.bool r.1.far)) (first | go_keep | (refine ⟨?_, ?_, ?_, ?_, ?_, ?_, ?_, ?_, ?_, ?_, ?_, ?_, ?_, ?_, ?_, ?_⟩ <;> (rw [hbc.cell (by assumption)]; assumption))) (first | (go_at_call 121; refine (HK.out _).mono ?_; rintro e w1 ⟨rfl, hbc⟩))
        go_wp2
        go_roundw
        case rel => exact ⟨m, k, by omega, by omega, rfl, rfl, HLO, HHI2, hnx.trans ((Below.refl _ _).drew.trans (hbc.mono hsz))⟩
        case measure => simp [intOf]; omega
    · have hmn2 : m = n := by omega
      subst hmn2
      by_cases hend : m < ps.length
      · have hmi : (0 : Int) ≤ (m : Int) := by omega
        have hmj : (m : Int) < (ps.length : Int) := by omega
        obtain ⟨p, hp⟩ : ∃ p, ps[m]? = some p := ⟨ps[m], List.getElem?_eq_getElem (by omega)⟩
        obtain ⟨b, off, cap', hve, hbb, c0, c1, c2, c3, c4, c5, c6, c7, hnr⟩ := HV.out.at.cells m p hp
        cases hve
        obtain ⟨pa, pc, hpn⟩ := NearsAt.shape hnr
        rw [hpn] at c5
        rw [← BWR.cell (p := ⟨b, off + m * 8, none⟩) (Nat.lt_of_lt_of_le hbb hhi)] at c0
        rw [← BWR.cell (p := ⟨b, off + m * 8 + 1, none⟩) (Nat.lt_of_lt_of_le hbb hhi)] at c1
        rw [← BWR.cell (p := ⟨b, off + m * 8 + 2, none⟩) (Nat.lt_of_lt_of_le hbb hhi)] at c2
        rw [← BWR.cell (p := ⟨b, off + m * 8 + 3, none⟩) (Nat.lt_of_lt_of_le hbb hhi)] at c3
        rw [← BWR.cell (p := ⟨b, off + m * 8 + 4, none⟩) (Nat.lt_of_lt_of_le hbb hhi)] at c4
        rw [← BWR.cell (p := ⟨b, off + m * 8 + 5, none⟩) (Nat.lt_of_lt_of_le hbb hhi)] at c5
        rw [← BWR.cell (p := ⟨b, off + m * 8 + 6, none⟩) (Nat.lt_of_lt_of_le hbb hhi)] at c6
        rw [← BWR.cell (p := ⟨b, off + m * 8 + 7, none⟩) (Nat.lt_of_lt_of_le hbb hhi)] at c7
        have hxx := (hnx.block _ (lt_of_heap HX.out)).trans HX.out
        have d0 := cells_at hxx 0
        have d1 := cells_at hxx 1
        have d2 := cells_at hxx 2
        have d3 := cells_at hxx 3
        have d4 := cells_at hxx 4
        have d5 := cells_at hxx 5
        have d6 := cells_at hxx 6
        have d7 := cells_at hxx 7
        simp at d0 d1 d2 d3 d4 d5 d6 d7
        have hb1 : b < wr.heap.size := by omega
        have hb2 : w.heap.size < wr.heap.size := by omega
        have hq := fun W => orderKeyed_any p.2 r.2 p.1 r.1 W
        unfold recC at hq
        rw [hpn, HRN.out] at hq
        obtain ⟨x, hx⟩ : ∃ x, x = ordR p.1 r.1 := ⟨_, rfl⟩
        rw [← hx] at hq
        have HK := hide hq
        have HXV := hide hx
        have HPP := hide (fsts_at hp)
        clear hq hx hp hxx hnr hpn
        have hfin : (x == 0) = true ↔ ∃ y, (fsts ps)[m]? = some y ∧ ordR y r.1 = 0 := by
          rw [HPP.out]
          constructor
          · intro h
            exact ⟨p.1, rfl, by rw [← HXV.out]; simpa using h⟩
          · rintro ⟨y, hy, he⟩
            cases hy
            rw [HXV.out]
            simpa using he
        have HFIN := hide hfin
        clear hfin
        go_wp2
        go_region_held3 (fun W => W.cell? ⟨b, off + m * 8, none⟩ = some (.int .i64 p.1.area) ∧ W.cell? ⟨b, off + m * 8 + 1, none⟩ = some (.int .i64 p.1.kind) ∧ W.cell? ⟨b, off + m * 8 + 2, none⟩ = some (.int .i64 p.1.owner) ∧ W.cell? ⟨b, off + m * 8 + 3, none⟩ = some (.int .i64 p.1.key) ∧ W.cell? ⟨b, off + m * 8 + 4, none⟩ = some (.int .i64 p.1.seq) ∧ W.cell? ⟨b, off + m * 8 + 5, none⟩ = some (.slice pa p.1.near.length pc) ∧ W.cell? ⟨b, off + m * 8 + 6, none⟩ = some (.int .i64 p.1.cost) ∧ W.cell? ⟨b, off + m * 8 + 7, none⟩ = some (.bool p.1.far) ∧ W.cell? ⟨w.heap.size, 0, none⟩ = some (.int .i64 r.1.area) ∧ W.cell? ⟨w.heap.size, 1, none⟩ = some (.int .i64 r.1.kind) ∧ W.cell? ⟨w.heap.size, 2, none⟩ = some (.int .i64 r.1.owner) ∧ W.cell? ⟨w.heap.size, 3, none⟩ = some (.int .i64 r.1.key) ∧ W.cell? ⟨w.heap.size, 4, none⟩ = some (.int .i64 r.1.seq) ∧ W.cell? ⟨w.heap.size, 5, none⟩ = some (.slice ra r.1.near.length rc) ∧ W.cell? ⟨w.heap.size, 6, none⟩ = some (.int .i64 r.1.cost) ∧ W.cell? ⟨w.heap.size, 7, none⟩ = some (.bool r.1.far)) (first | go_keep | (refine ⟨?_, ?_, ?_, ?_, ?_, ?_, ?_, ?_, ?_, ?_, ?_, ?_, ?_, ?_, ?_, ?_⟩ <;> (rw [hbc.cell (by assumption)]; assumption))) (first | (go_at_call 121; refine (HK.out _).mono ?_; rintro e w1 ⟨rfl, hbc⟩))
        go_wp2
        go_returns
        exact ⟨m, x == 0, rfl, by omega, HLO.out, HHI.out, HFIN.out, BWR.trans ((Below.refl _ _).drew.trans (hbc.mono (show w.heap.size ≤ wr.heap.size by omega)))⟩
      · have hme : ¬ (m : Int) < (ps.length : Int) := by omega
        have HNO := hide (show (false = true ↔ ∃ y, (fsts ps)[m]? = some y ∧ ordR y r.1 = 0) from ⟨(fun h => by cases h), (fun ⟨y, hy, _⟩ => by rw [List.getElem?_eq_none (by simp [fsts]; omega)] at hy; cases hy)⟩)
        go_wp2
        go_quiet (fail)
        go_wp2
        go_returns
        exact ⟨m, false, rfl, by omega, HLO.out, HHI.out, HNO.out, BWR.trans ⟨rfl, rfl, rfl, Nat.le_refl _, fun _ _ => rfl⟩⟩
end Go.Proofs.YtidoieolejkflaaGreat
namespace Go.Proofs.YtidoieolejkflaaGreat
open Go.RowKit

theorem bef_trans {x y z : RecD} (h1 : beforeB x y = true) (h2 : beforeB y z = true) : beforeB x z = true := by
  unfold beforeB at *
  simp only [Bool.or_eq_true, Bool.and_eq_true, decide_eq_true_eq, beq_iff_eq] at *
  omega

theorem bef_same_left {x y z : RecD} (h1 : sameKeyB x y = true) (h2 : beforeB x z = true) : beforeB y z = true := by
  unfold beforeB sameKeyB at *
  simp only [Bool.or_eq_true, Bool.and_eq_true, decide_eq_true_eq, beq_iff_eq] at *
  omega

theorem bef_irrefl_same {x y : RecD} (h1 : sameKeyB x y = true) : beforeB x y = false ∧ beforeB y x = false := by
  unfold beforeB sameKeyB at *
  simp only [Bool.or_eq_false_iff, Bool.and_eq_false_iff, decide_eq_false_iff_not, beq_eq_false_iff_ne, Bool.and_eq_true, beq_iff_eq] at *
  omega

theorem bef_tri (x y : RecD) : beforeB x y = true ∨ sameKeyB x y = true ∨ beforeB y x = true := by
  unfold beforeB sameKeyB
  simp only [Bool.or_eq_true, Bool.and_eq_true, decide_eq_true_eq, beq_iff_eq]
  omega

theorem ordR_lt (x y : RecD) : ordR x y < 0 ↔ beforeB x y = true := by
  rw [← ordR_neg]
  simp

theorem ordR_zero (x y : RecD) : ordR x y = 0 ↔ sameKeyB x y = true := by
  unfold ordR cmpK sameKeyB
  simp only [Bool.and_eq_true, beq_iff_eq]
  by_cases h1 : x.area = y.area
  · rw [if_pos (cmpN_zero.2 h1)]
    by_cases h2 : x.kind = y.kind
    · rw [if_pos (cmpN_zero.2 h2)]
      by_cases h3 : x.owner = y.owner
      · rw [if_pos (cmpN_zero.2 h3), cmpN_zero]
        simp [h1, h2, h3]
      · rw [if_neg (fun h => h3 (cmpN_zero.1 h)), cmpN_zero]
        simp [h3]
    · rw [if_neg (fun h => h2 (cmpN_zero.1 h)), cmpN_zero]
      simp [h2]
  · rw [if_neg (fun h => h1 (cmpN_zero.1 h)), cmpN_zero]
    simp [h1]

/-- in order -/
def Asc (xs : List RecD) : Prop := xs.Pairwise (fun x y => beforeB x y = true)

theorem asc_of {xs : List RecD} (h : ascB ordR xs = true) : Asc xs := by
  unfold Asc
  rw [List.pairwise_iff_getElem]
  have step : ∀ i (h2 : i + 1 < xs.length), beforeB xs[i] xs[i + 1] = true := by
    intro i h2
    have h3 := List.all_eq_true.1 h (i + 1) (List.mem_range.2 h2)
    rw [ascAt_eq (List.getElem?_eq_getElem (by omega)) (List.getElem?_eq_getElem h2), ordR_neg] at h3
    exact h3
  have main : ∀ d i (h2 : i + 1 + d < xs.length), beforeB xs[i] (xs[i + 1 + d]) = true := by
    intro d
    induction d with
    | zero => intro i h2; exact step i h2
    | succ d ih => intro i h2; exact bef_trans (ih i (by omega)) (step (i + 1 + d) h2)
  intro i j hi hj hij
  have h2 := main (j - i - 1) i (by omega)
  have e : i + 1 + (j - i - 1) = j := by omega
  simp only [e] at h2
  exact h2

theorem asc_back {xs : List RecD} (h : Asc xs) : ascB ordR xs = true := by
  unfold Asc at h
  rw [List.pairwise_iff_getElem] at h
  refine all_true fun j hj => ?_
  cases j with
  | zero => rfl
  | succ k =>
    rw [ascAt_eq (List.getElem?_eq_getElem (by omega)) (List.getElem?_eq_getElem hj), ordR_neg]
    exact h k (k + 1) (by omega) hj (by omega)

theorem asc_mono {xs : List RecD} (h : Asc xs) (r : RecD) : ∀ s t, s ≤ t → t < xs.length → ltAt xs r t → ltAt xs r s := by
  intro s t hst ht hl
  unfold Asc at h
  rw [List.pairwise_iff_getElem] at h
  have h1 := (ltAt_of (List.getElem?_eq_getElem ht)).1 hl
  refine (ltAt_of (List.getElem?_eq_getElem (by omega))).2 ?_
  by_cases e : s = t
  · subst e; exact h1
  · rw [ordR_lt] at h1 ⊢
    exact bef_trans (h s t (by omega) ht (by omega)) h1

/-- what l05Put makes of keys in order -/
def putD (xs : List RecD) (r : RecD) : List RecD := xs.filter (fun x => beforeB x r) ++ [r] ++ xs.filter (fun x => beforeB r x)

theorem putL_fsts (ps : List RP) (r : RP) : fsts (putL ps r) = putD (fsts ps) r.1 := by
  unfold putL putD fsts
  simp [List.filter_map, Function.comp_def]

section
variable {xs : List RecD} {r : RecD} {i : Nat}

theorem filt_lo (hi : i ≤ xs.length) (h1 : ∀ t, t < i → ltAt xs r t) (h2 : ∀ t, i ≤ t → t < xs.length → ¬ ltAt xs r t) : xs.filter (fun x => beforeB x r) = xs.take i := by
  conv => lhs; rw [← List.take_append_drop i xs]
  rw [List.filter_append]
  have e1 : (xs.take i).filter (fun x => beforeB x r) = xs.take i := by
    rw [List.filter_eq_self]
    intro x hx
    obtain ⟨t, ht, e⟩ := List.getElem_of_mem hx
    rw [List.length_take] at ht
    rw [List.getElem_take] at e
    have := (ltAt_of (List.getElem?_eq_getElem (show t < xs.length by omega))).1 (h1 t (by omega))
    rw [e, ordR_lt] at this
    exact this
  have e2 : (xs.drop i).filter (fun x => beforeB x r) = [] := by
    rw [List.filter_eq_nil_iff]
    intro x hx hb
    obtain ⟨t, ht, e⟩ := List.getElem_of_mem hx
    rw [List.length_drop] at ht
    rw [List.getElem_drop] at e
    refine h2 (i + t) (by omega) (by omega) ((ltAt_of (List.getElem?_eq_getElem (by omega))).2 ?_)
    rw [e, ordR_lt]
    exact hb
  rw [e1, e2, List.append_nil]

theorem filt_take_no (h1 : ∀ t, t < i → ltAt xs r t) (hi : i ≤ xs.length) : (xs.take i).filter (fun x => beforeB r x) = [] := by
  rw [List.filter_eq_nil_iff]
  intro x hx hb
  obtain ⟨t, ht, e⟩ := List.getElem_of_mem hx
  rw [List.length_take] at ht
  rw [List.getElem_take] at e
  have := (ltAt_of (List.getElem?_eq_getElem (show t < xs.length by omega))).1 (h1 t (by omega))
  rw [e, ordR_lt] at this
  rw [before_asym this] at hb
  cases hb

/-- there is none with the key -/
theorem putD_new (hs : Asc xs) (hi : i ≤ xs.length) (h1 : ∀ t, t < i → ltAt xs r t) (h2 : ∀ t, i ≤ t → t < xs.length → ¬ ltAt xs r t) (h3 : ¬ ∃ x, xs[i]? = some x ∧ ordR x r = 0) : putD xs r = xs.take i ++ [r] ++ xs.drop i := by
  unfold putD
  rw [filt_lo hi h1 h2]
  congr 1
  conv => lhs; rw [← List.take_append_drop i xs]
  rw [List.filter_append, filt_take_no h1 hi, List.nil_append, List.filter_eq_self]
  unfold Asc at hs
  rw [List.pairwise_iff_getElem] at hs
  intro x hx
  obtain ⟨t, ht, e⟩ := List.getElem_of_mem hx
  rw [List.length_drop] at ht
  rw [List.getElem_drop] at e
  have hin : i < xs.length := by omega
  have hfirst : beforeB r xs[i] = true := by
    rcases bef_tri xs[i] r with h | h | h
    · exact absurd ((ltAt_of (List.getElem?_eq_getElem hin)).2 ((ordR_lt _ _).2 h)) (h2 i (Nat.le_refl _) hin)
    · exact absurd ⟨xs[i], List.getElem?_eq_getElem hin, (ordR_zero _ _).2 h⟩ h3
    · exact h
  by_cases e0 : t = 0
  · subst e0
    simp only [Nat.add_zero] at e
    rw [← e]
    exact hfirst
  · rw [← e]
    exact bef_trans hfirst (hs i (i + t) hin (by omega) (by omega))

/-- the one with the key stands at i -/
theorem putD_old (hs : Asc xs) (hi : i < xs.length) (h1 : ∀ t, t < i → ltAt xs r t) (h2 : ∀ t, i ≤ t → t < xs.length → ¬ ltAt xs r t) (h3 : ordR xs[i] r = 0) : putD xs r = xs.set i r := by
  have hsame := (ordR_zero _ _).1 h3
  have e0 : xs.drop i = xs[i] :: xs.drop (i + 1) := List.drop_eq_getElem_cons hi
  unfold putD
  rw [filt_lo (Nat.le_of_lt hi) h1 h2]
  have e1 : xs.filter (fun x => beforeB r x) = xs.drop (i + 1) := by
    conv => lhs; rw [← List.take_append_drop i xs]
    rw [List.filter_append, filt_take_no h1 (Nat.le_of_lt hi), List.nil_append, e0, List.filter_cons, if_neg (by rw [(bef_irrefl_same hsame).2]; simp), List.filter_eq_self]
    unfold Asc at hs
    rw [List.pairwise_iff_getElem] at hs
    intro x hx
    obtain ⟨t, ht, e⟩ := List.getElem_of_mem hx
    rw [List.length_drop] at ht
    rw [List.getElem_drop] at e
    rw [← e]
    exact bef_same_left hsame (hs i (i + 1 + t) hi (by omega) (by omega))
  rw [e1]
  apply List.ext_getElem?
  intro j
  by_cases hj : j < i
  · rw [List.getElem?_set_ne (by omega), List.append_assoc, List.getElem?_append_left (by simp; omega), List.getElem?_take_of_lt hj]
  · by_cases hje : j = i
    · subst hje
      rw [List.getElem?_set_self hi, List.append_assoc, List.getElem?_append_right (by simp; omega), List.length_take, Nat.min_eq_left (by omega), Nat.sub_self]
      rfl
    · rw [List.getElem?_set_ne (by omega), List.append_assoc, List.getElem?_append_right (by simp; omega), List.length_take, Nat.min_eq_left (by omega), List.getElem?_append_right (by simp; omega), List.getElem?_drop]
      congr 1
      simp
      omega
end
end Go.Proofs.YtidoieolejkflaaGreat
namespace Go.Proofs.YtidoieolejkflaaGreat
open Go.RowKit

/-- no way leads there within the area -/
def notNear (xs : List RecD) (area src to : Int) : Prop := ∀ d, d ∈ waysD xs area src → d.to ≠ to

/-- the record that tells of a node at a cost -/
def tellR (area src to c : Int) : RecD := ⟨area, 2, src, to, 0, [], c, false⟩

/-- what is told of a node -/
def toldTo (xs : List RecD) (al : List Int) (src area to c : Int) : Prop := notNear xs area src to ∧ to ≠ src ∧
  ((∃ w, BestOf to (withinS xs al src to) (some w) ∧ c = w.cost) ∨ (area ≠ 0 ∧ ∃ w, BestOf to (beyondS xs al true src to) (some w) ∧ c = w.cost))

/-- what is told into an area, in order -/
def IsTold (xs : List RecD) (al : List Int) (src area : Int) (ds : List RecD) : Prop := Asc ds ∧ ∀ r, r ∈ ds ↔ ∃ to c, r = tellR area src to c ∧ toldTo xs al src area to c

theorem asc_extR : ∀ {a b : List RecD}, Asc a → Asc b → (∀ x, x ∈ a ↔ x ∈ b) → a = b
  | [], [], _, _, _ => rfl
  | [], y :: ys, _, _, h => by have := (h y).2 (by simp); cases this
  | x :: xs, [], _, _, h => by have := (h x).1 (by simp); cases this
  | x :: xs, y :: ys, ha, hb, h => by
    have ha' := List.pairwise_cons.1 ha
    have hb' := List.pairwise_cons.1 hb
    have irr : ∀ z : RecD, beforeB z z = true → False := fun z hz => by
      have := (bef_irrefl_same (x := z) (y := z) (by simp [sameKeyB])).1
      rw [this] at hz; cases hz
    have hxy : x = y := by
      have h1 := (h x).1 (by simp)
      have h2 := (h y).2 (by simp)
      rcases List.mem_cons.1 h1 with e | e
      · exact e
      · rcases List.mem_cons.1 h2 with e2 | e2
        · exact e2.symm
        · exact (irr x (bef_trans (ha'.1 y e2) (hb'.1 x e))).elim
    subst hxy
    have : xs = ys := by
      refine asc_extR ha'.2 hb'.2 (fun z => ?_)
      have hz := h z
      constructor
      · intro hm
        have h1 := hz.1 (List.mem_cons_of_mem _ hm)
        rcases List.mem_cons.1 h1 with e | e
        · have := ha'.1 z hm; subst e; exact (irr z this).elim
        · exact e
      · intro hm
        have h1 := hz.2 (List.mem_cons_of_mem _ hm)
        rcases List.mem_cons.1 h1 with e | e
        · have := hb'.1 z hm; subst e; exact (irr z this).elim
        · exact e
    rw [this]

theorem IsTold.unique {xs : List RecD} {al : List Int} {src area : Int} {a b : List RecD} (ha : IsTold xs al src area a) (hb : IsTold xs al src area b) : a = b :=
  asc_extR ha.1 hb.1 (fun r => by rw [ha.2, hb.2])

theorem best_good {to : Int} {S : WayD → Prop} {w : WayD} (h : BestOf to S (some w)) (hS : ∀ d, S d → GoodW d ∧ d.to = to) : GoodW w ∧ w.to = to := ⟨h.good hS, h.1⟩

theorem toldTo_node {xs : List RecD} {al : List Int} {src area to c : Int} (h : toldTo xs al src area to c) : 1 ≤ to ∧ to ≤ 6 := by
  obtain ⟨_, _, ⟨w, h1, _⟩ | ⟨_, w, h1, _⟩⟩ := h
  · have hg := best_good h1 (fun d h => withinS_good h)
    rw [← hg.2]; exact hg.1.node
  · have hg := best_good h1 (fun d h => beyondS_good h)
    rw [← hg.2]; exact hg.1.node

/-- at one cost alone -/
theorem toldTo_cost {xs : List RecD} {al : List Int} {src area to c c' : Int} (h : toldTo xs al src area to c) (h' : toldTo xs al src area to c') : c = c' := by
  have hno : ∀ {w v : WayD}, BestOf to (withinS xs al src to) (some w) → BestOf to (beyondS xs al true src to) (some v) → False := by
    intro w v h1 h2
    obtain ⟨_, ⟨u, hu, _⟩, _⟩ := h1
    obtain ⟨_, ⟨u', hu', _⟩, _⟩ := h2
    exact hu'.1 u hu
  obtain ⟨_, _, ⟨w, h1, rfl⟩ | ⟨_, w, h1, rfl⟩⟩ := h
  · obtain ⟨_, _, ⟨v, h2, rfl⟩ | ⟨_, v, h2, rfl⟩⟩ := h'
    · have := h1.unique h2; cases this; rfl
    · exact (hno h1 h2).elim
  · obtain ⟨_, _, ⟨v, h2, rfl⟩ | ⟨_, v, h2, rfl⟩⟩ := h'
    · exact (hno h2 h1).elim
    · have := h1.unique h2; cases this; rfl

theorem tellR_before {area src a b c d : Int} : beforeB (tellR area src a c) (tellR area src b d) = decide (a < b) := by
  simp [beforeB, tellR]
  try exact decide_eq_decide.2 Iff.rfl

theorem IsTold.tot {xs : List RecD} {al : List Int} {src area : Int} {ds : List RecD} (h : IsTold xs al src area ds) : ds.length ≤ 6 ∧ ∀ r ∈ ds, r.near = [] := by
  constructor
  · have h1 : (ds.map (·.key)).Pairwise (· < ·) := by
      rw [List.pairwise_map]
      refine List.Pairwise.imp_of_mem ?_ h.1
      intro a b ha hb hab
      obtain ⟨to, c, rfl, _⟩ := (h.2 a).1 ha
      obtain ⟨to', c', rfl, _⟩ := (h.2 b).1 hb
      rw [tellR_before] at hab
      exact of_decide_eq_true hab
    have h2 := asc6_len h1 (fun z hz => by
      obtain ⟨r, hr, rfl⟩ := List.mem_map.1 hz
      obtain ⟨to, c, rfl, ht⟩ := (h.2 r).1 hr
      exact toldTo_node ht)
    simpa using h2
  · intro r hr
    obtain ⟨to, c, rfl, _⟩ := (h.2 r).1 hr
    rfl

/-- the areas but one: where nothing is near, the same is within -/
theorem withinS_others {xs : List RecD} {al : List Int} {src area to : Int} (hn : notNear xs area src to) (d : WayD) : withinS xs (al.filter (fun a => a != area)) src to d ↔ withinS xs al src to d := by
  constructor
  · rintro ⟨h1, a, h2, h3⟩
    exact ⟨h1, a, (List.mem_filter.1 h2).1, h3⟩
  · rintro ⟨h1, a, h2, h3⟩
    refine ⟨h1, a, List.mem_filter.2 ⟨h2, ?_⟩, h3⟩
    have : a ≠ area := fun e => by subst e; exact hn d h3 h1
    simpa using this

/-- what wayTo tells of the ways of an area -/
theorem near_has (xs : List RecD) (area src to : Int) : (wayToB (waysD xs area src) to = true ∧ ¬ notNear xs area src to) ∨ (wayToB (waysD xs area src) to = false ∧ notNear xs area src to) := by
  rcases wayTo_find (waysD xs area src) to with ⟨h1, h2⟩ | ⟨h1, h2⟩
  · have h3 := findW_some h2
    exact .inl ⟨h1, fun h => h _ h3.1 h3.2⟩
  · exact .inr ⟨h1, fun d hd => findW_none h2 d hd⟩

/-- what wayTo tells of a list of best ways -/
theorem best_has {S : Int → WayD → Prop} {ds : List WayD} (h : IsBest S ds) (to : Int) : (wayToB ds to = true ∧ BestOf to (S to) (some (wayToD ds to))) ∨ (wayToB ds to = false ∧ ∀ d, ¬ S to d) := by
  have hb := h.2 to
  rcases wayTo_find ds to with ⟨h1, h2⟩ | ⟨h1, h2⟩
  · rw [h2] at hb
    exact .inl ⟨h1, hb⟩
  · rw [h2] at hb
    exact .inr ⟨h1, hb⟩

theorem not_best {to : Int} {S : WayD → Prop} {w : WayD} (h : ∀ d, ¬ S d) : ¬ BestOf to S (some w) := fun ⟨_, ⟨u, hu, _⟩, _⟩ => h u hu

/-- those that are told of the nodes below t -/
def ToldBelow (xs : List RecD) (al : List Int) (src area : Int) (t : Int) (ds : List RecD) : Prop := Asc ds ∧ ∀ r, r ∈ ds ↔ ∃ to c, r = tellR area src to c ∧ to < t ∧ toldTo xs al src area to c

theorem ToldBelow.skip {xs : List RecD} {al : List Int} {src area t : Int} {ds : List RecD} (h : ToldBelow xs al src area t ds) (hn : ∀ c, ¬ toldTo xs al src area t c) : ToldBelow xs al src area (t + 1) ds := by
  refine ⟨h.1, fun r => ?_⟩
  rw [h.2]
  constructor
  · rintro ⟨to, c, h1, h2, h3⟩
    exact ⟨to, c, h1, by omega, h3⟩
  · rintro ⟨to, c, h1, h2, h3⟩
    refine ⟨to, c, h1, ?_, h3⟩
    by_cases e : to = t
    · subst e; exact absurd h3 (hn c)
    · omega

theorem ToldBelow.push {xs : List RecD} {al : List Int} {src area t c : Int} {ds : List RecD} (h : ToldBelow xs al src area t ds) (ht : toldTo xs al src area t c) : ToldBelow xs al src area (t + 1) (ds ++ [tellR area src t c]) := by
  refine ⟨?_, fun r => ?_⟩
  · unfold Asc
    rw [List.pairwise_append]
    refine ⟨h.1, by simp, fun a ha b hb => ?_⟩
    have : b = tellR area src t c := by simpa using hb
    subst this
    obtain ⟨to, c', rfl, h2, _⟩ := (h.2 a).1 ha
    rw [tellR_before]
    simpa using h2
  · rw [List.mem_append, h.2]
    constructor
    · rintro (⟨to, c', h1, h2, h3⟩ | h1)
      · exact ⟨to, c', h1, by omega, h3⟩
      · exact ⟨t, c, by simpa using h1, by omega, ht⟩
    · rintro ⟨to, c', h1, h2, h3⟩
      by_cases e : to = t
      · subst e
        rw [toldTo_cost h3 ht] at h1
        exact .inr (by simpa using h1)
      · exact .inl ⟨to, c', h1, by omega, h3⟩

theorem ToldBelow.all {xs : List RecD} {al : List Int} {src area : Int} {ds : List RecD} (h : ToldBelow xs al src area 7 ds) : IsTold xs al src area ds := by
  refine ⟨h.1, fun r => ?_⟩
  rw [h.2]
  constructor
  · rintro ⟨to, c, h1, _, h3⟩
    exact ⟨to, c, h1, h3⟩
  · rintro ⟨to, c, h1, h3⟩
    exact ⟨to, c, h1, by have := toldTo_node h3; omega, h3⟩

theorem ToldBelow.none {xs : List RecD} {al : List Int} {src area : Int} : ToldBelow xs al src area 1 [] := by
  refine ⟨List.Pairwise.nil, fun r => ?_⟩
  constructor
  · intro h; cases h
  · rintro ⟨to, c, _, h2, h3⟩
    have := toldTo_node h3
    omega

theorem ToldBelow.len {xs : List RecD} {al : List Int} {src area t : Int} {ds : List RecD} (h : ToldBelow xs al src area t ds) : ds.length ≤ 6 ∧ ∀ r ∈ ds, r.near = [] := by
  constructor
  · have h1 : (ds.map (·.key)).Pairwise (· < ·) := by
      rw [List.pairwise_map]
      refine List.Pairwise.imp_of_mem ?_ h.1
      intro a b ha hb hab
      obtain ⟨to, c, rfl, _⟩ := (h.2 a).1 ha
      obtain ⟨to', c', rfl, _⟩ := (h.2 b).1 hb
      rw [tellR_before] at hab
      exact of_decide_eq_true hab
    have h2 := asc6_len h1 (fun z hz => by
      obtain ⟨r, hr, rfl⟩ := List.mem_map.1 hz
      obtain ⟨to, c, rfl, _, ht⟩ := (h.2 r).1 hr
      exact toldTo_node ht)
    simpa using h2
  · intro r hr
    obtain ⟨to, c, rfl, _⟩ := (h.2 r).1 hr
    rfl

theorem told_store {xs : List RecD} {al : List Int} {src area to c : Int} (h : toldTo xs al src area to c) : storeB xs = true := by
  obtain ⟨_, _, ⟨w, ⟨_, ⟨u, hu, _⟩, _⟩, _⟩ | ⟨_, w, ⟨_, ⟨u, hu, _⟩, _⟩, _⟩⟩ := h
  · obtain ⟨_, a, _, h3⟩ := hu
    exact (waysD_area h3).1
  · obtain ⟨_, a, _, _, h3⟩ := hu
    exact (outS_area h3).1
end Go.Proofs.YtidoieolejkflaaGreat
