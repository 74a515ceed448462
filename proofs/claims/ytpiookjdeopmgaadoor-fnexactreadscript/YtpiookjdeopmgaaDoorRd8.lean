/-
  slices.BinarySearchFunc at lists of Th: its contract.
-/
import Derived.Test.YtpiookjdeopmgaaDoorRd6
namespace Go.Proofs.YtpiookjdeopmgaaDoor
open Go.RowKit

set_option linter.unusedSimpArgs false
set_option linter.unusedVariables false

/-- whether the one at t is ahead of r -/
def ltT (xs : List Th) (r : Th) (t : Nat) : Prop := ∃ x, xs[t]? = some x ∧ ordT x r < 0

theorem ltT_of {xs : List Th} {r x : Th} {t : Nat} (h : xs[t]? = some x) : ltT xs r t ↔ ordT x r < 0 :=
  ⟨fun ⟨y, hy, hl⟩ => by rw [h] at hy; cases hy; exact hl, fun hl => ⟨x, h, hl⟩⟩

set_option maxRecDepth 100000 in
set_option maxHeartbeats 4000000 in
theorem searchT_any (v : Value) (ps : List Th) (r : Th) (w : World) (hv : ThingsAt w v ps w.heap.size) (hn : ps.length ≤ 1048576) (hmono : ∀ s t, s ≤ t → t < ps.length → ltT ps r t → ltT ps r s) :
    Calls Tryd.prog 109 #[v, thV r, .func (.func 95) #[] #[]] w fun e w' => ∃ (i : Nat) (f : Bool), e = .returned (.tuple #[.int .i64 (i : Int), .bool f]) ∧ i ≤ ps.length ∧ (∀ t, t < i → ltT ps r t) ∧ (∀ t, i ≤ t → t < ps.length → ¬ ltT ps r t) ∧ Below w.heap.size w w' := by
  obtain ⟨a1, c1, rfl⟩ := hv.shape
  have HV := hide hv
  have HM := hide hmono
  unfold thV
  clear hv hmono
  have BX : Below w.heap.size w (w.alloc (.cells #[.int .i64 r.o, .int .i64 r.k, .int .i64 r.c, .bool r.f] 81)) := (Below.refl _ _).alloc (Nat.le_refl _) _
  have hx := heap_alloc_new w (.cells #[.int .i64 r.o, .int .i64 r.k, .int .i64 r.c, .bool r.f] 81)
  obtain ⟨w0, hw0⟩ : ∃ w0, w0 = w.alloc (.cells #[.int .i64 r.o, .int .i64 r.k, .int .i64 r.c, .bool r.f] 81) := ⟨_, rfl⟩
  rw [← hw0] at BX hx
  have hs0 := lt_of_heap hx
  have HX := hide hx
  clear hx
  go_enter Tryd.func109, Tryd.ntmps109
  go_wp2
  rw [← hw0]
  clear hw0
  go_loopw [9, 10] (fun i j wr => ∃ (m n : Nat), m ≤ n ∧ n ≤ ps.length ∧ i = .int .i64 m ∧ j = .int .i64 n ∧ Hid (∀ t, t < m → ltT ps r t) ∧ Hid (∀ t, n ≤ t → t < ps.length → ¬ ltT ps r t) ∧ Below w0.heap.size w0 wr) (fun i j _ => (intOf j).toNat - (intOf i).toNat)
  case atStart => exact ⟨0, ps.length, by omega, by omega, rfl, rfl, hide (by omega), hide (by omega), Below.refl _ _⟩
  case round =>
    obtain ⟨m, n, hmn, hnp, rfl, rfl, HLO, HHI, hnx⟩ := hrel
    have hsz := hnx.size
    have BWR : Below w.heap.size w wr := BX.trans (hnx.mono (by omega))
    by_cases hlt : m < n
    · have hmi : (m : Int) < (n : Int) := by omega
      have hw1 : IntKind.i64.wrap ((m : Int) + (n : Int)) = (m : Int) + (n : Int) := wrap_fit _ (by omega) (by omega)
      go_wp2
      obtain ⟨k, hk⟩ : ∃ k : Nat, k = (m + n) / 2 := ⟨_, rfl⟩
      have hke : ((m : Int) + (n : Int)) / 2 = (k : Int) := by omega
      rw [hke]
      have hkm : m ≤ k := by omega
      have hkn : k < n := by omega
      have hki : (0 : Int) ≤ (k : Int) := by omega
      have hkj : (k : Int) < (ps.length : Int) := by omega
      clear hk hke hw1
      obtain ⟨p, hp⟩ : ∃ p, ps[k]? = some p := ⟨ps[k], List.getElem?_eq_getElem (by omega)⟩
      obtain ⟨b, off, cap, hve, hbb, c0, c1, c2, c3⟩ := ThingsAt.cells HV.out k p hp
      cases hve
      rw [← BWR.cell (p := ⟨b, off + k * 4, none⟩) hbb] at c0
      rw [← BWR.cell (p := ⟨b, off + k * 4 + 1, none⟩) hbb] at c1
      rw [← BWR.cell (p := ⟨b, off + k * 4 + 2, none⟩) hbb] at c2
      rw [← BWR.cell (p := ⟨b, off + k * 4 + 3, none⟩) hbb] at c3
      have hxx := (hnx.block _ (lt_of_heap HX.out)).trans HX.out
      have d0 := cells_at hxx 0
      have d1 := cells_at hxx 1
      have d2 := cells_at hxx 2
      have d3 := cells_at hxx 3
      simp at d0 d1 d2 d3
      have hb1 : b < wr.heap.size := by have := BWR.size; omega
      have hb2 : w.heap.size < wr.heap.size := by omega
      have hq := fun W => ordT_any p r W
      unfold thV at hq
      obtain ⟨x, hx⟩ : ∃ x, x = ordT p r := ⟨_, rfl⟩
      rw [← hx] at hq
      have HK := hide hq
      have HXV := hide hx
      have HPP := hide hp
      clear hq hx hp hxx
      by_cases hx0 : x < 0
      · have HLO2 := hide (show ∀ t, t < k + 1 → ltT ps r t from fun t ht => HM.out t k (by omega) (by omega) ((ltT_of HPP.out).2 (by rw [← HXV.out]; exact hx0)))
        go_region_held3 (fun W => W.cell? ⟨b, off + k * 4, none⟩ = some (.int .i64 p.o) ∧ W.cell? ⟨b, off + k * 4 + 1, none⟩ = some (.int .i64 p.k) ∧ W.cell? ⟨b, off + k * 4 + 2, none⟩ = some (.int .i64 p.c) ∧ W.cell? ⟨b, off + k * 4 + 3, none⟩ = some (.bool p.f) ∧ W.cell? ⟨w.heap.size, 0, none⟩ = some (.int .i64 r.o) ∧ W.cell? ⟨w.heap.size, 1, none⟩ = some (.int .i64 r.k) ∧ W.cell? ⟨w.heap.size, 2, none⟩ = some (.int .i64 r.c) ∧ W.cell? ⟨w.heap.size, 3, none⟩ = some (.bool r.f)) (first | go_keep | (refine ⟨?_, ?_, ?_, ?_, ?_, ?_, ?_, ?_⟩ <;> (rw [hbc.cell (by assumption)]; assumption))) (first | (go_at_call 95; refine (HK.out _).mono ?_; rintro e w1 ⟨rfl, hbc⟩))
        go_wp2
        go_roundw
        case rel => exact ⟨k + 1, n, by omega, by omega, by go_num, rfl, HLO2, HHI, hnx.trans ((Below.refl _ _).drew.trans (hbc.mono hsz))⟩
        case measure => simp [intOf]; omega
      · have HHI2 := hide (show ∀ t, k ≤ t → t < ps.length → ¬ ltT ps r t from fun t h1 h2 h3 => hx0 (by rw [HXV.out]; exact (ltT_of HPP.out).1 (HM.out k t h1 h2 h3)))
        go_region_held3 (fun W => W.cell? ⟨b, off + k * 4, none⟩ = some (.int .i64 p.o) ∧ W.cell? ⟨b, off + k * 4 + 1, none⟩ = some (.int .i64 p.k) ∧ W.cell? ⟨b, off + k * 4 + 2, none⟩ = some (.int .i64 p.c) ∧ W.cell? ⟨b, off + k * 4 + 3, none⟩ = some (.bool p.f) ∧ W.cell? ⟨w.heap.size, 0, none⟩ = some (.int .i64 r.o) ∧ W.cell? ⟨w.heap.size, 1, none⟩ = some (.int .i64 r.k) ∧ W.cell? ⟨w.heap.size, 2, none⟩ = some (.int .i64 r.c) ∧ W.cell? ⟨w.heap.size, 3, none⟩ = some (.bool r.f)) (first | go_keep | (refine ⟨?_, ?_, ?_, ?_, ?_, ?_, ?_, ?_⟩ <;> (rw [hbc.cell (by assumption)]; assumption))) (first | (go_at_call 95; refine (HK.out _).mono ?_; rintro e w1 ⟨rfl, hbc⟩))
        go_wp2
        go_roundw
        case rel => exact ⟨m, k, by omega, by omega, rfl, rfl, HLO, HHI2, hnx.trans ((Below.refl _ _).drew.trans (hbc.mono hsz))⟩
        case measure => simp [intOf]; omega
    · have hmn2 : m = n := by omega
      subst hmn2
      by_cases hend : m < ps.length
      · have hmi : (0 : Int) ≤ (m : Int) := by omega
        have hmj : (m : Int) < (ps.length : Int) := by omega
        obtain ⟨p, hp⟩ : ∃ p, ps[m]? = some p := ⟨ps[m], List.getElem?_eq_getElem (by omega)⟩
        obtain ⟨b, off, cap, hve, hbb, c0, c1, c2, c3⟩ := ThingsAt.cells HV.out m p hp
        cases hve
        rw [← BWR.cell (p := ⟨b, off + m * 4, none⟩) hbb] at c0
        rw [← BWR.cell (p := ⟨b, off + m * 4 + 1, none⟩) hbb] at c1
        rw [← BWR.cell (p := ⟨b, off + m * 4 + 2, none⟩) hbb] at c2
        rw [← BWR.cell (p := ⟨b, off + m * 4 + 3, none⟩) hbb] at c3
        have hxx := (hnx.block _ (lt_of_heap HX.out)).trans HX.out
        have d0 := cells_at hxx 0
        have d1 := cells_at hxx 1
        have d2 := cells_at hxx 2
        have d3 := cells_at hxx 3
        simp at d0 d1 d2 d3
        have hb1 : b < wr.heap.size := by have := BWR.size; omega
        have hb2 : w.heap.size < wr.heap.size := by omega
        have hq := fun W => ordT_any p r W
        unfold thV at hq
        obtain ⟨x, hx⟩ : ∃ x, x = ordT p r := ⟨_, rfl⟩
        rw [← hx] at hq
        have HK := hide hq
        have HXV := hide hx
        have HPP := hide hp
        clear hq hx hp hxx
        go_wp2
        go_region_held3 (fun W => W.cell? ⟨b, off + m * 4, none⟩ = some (.int .i64 p.o) ∧ W.cell? ⟨b, off + m * 4 + 1, none⟩ = some (.int .i64 p.k) ∧ W.cell? ⟨b, off + m * 4 + 2, none⟩ = some (.int .i64 p.c) ∧ W.cell? ⟨b, off + m * 4 + 3, none⟩ = some (.bool p.f) ∧ W.cell? ⟨w.heap.size, 0, none⟩ = some (.int .i64 r.o) ∧ W.cell? ⟨w.heap.size, 1, none⟩ = some (.int .i64 r.k) ∧ W.cell? ⟨w.heap.size, 2, none⟩ = some (.int .i64 r.c) ∧ W.cell? ⟨w.heap.size, 3, none⟩ = some (.bool r.f)) (first | go_keep | (refine ⟨?_, ?_, ?_, ?_, ?_, ?_, ?_, ?_⟩ <;> (rw [hbc.cell (by assumption)]; assumption))) (first | (go_at_call 95; refine (HK.out _).mono ?_; rintro e w1 ⟨rfl, hbc⟩))
        go_wp2
        go_returns
        exact ⟨m, x == 0, rfl, by omega, HLO.out, HHI.out, BWR.trans ((Below.refl _ _).drew.trans (hbc.mono (show w.heap.size ≤ wr.heap.size by omega)))⟩
      · have hme : ¬ (m : Int) < (ps.length : Int) := by omega
        go_wp2
        go_quiet (fail)
        go_wp2
        go_returns
        exact ⟨m, false, rfl, by omega, HLO.out, HHI.out, BWR.trans ⟨rfl, rfl, rfl, Nat.le_refl _, fun _ _ => rfl⟩⟩
end Go.Proofs.YtpiookjdeopmgaaDoor
