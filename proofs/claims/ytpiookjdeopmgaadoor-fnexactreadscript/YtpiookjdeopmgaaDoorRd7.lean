/-
  laws.toLinkS, toThingS: copies in new rows.
  laws.eqLinkS, eqThingS: their contracts.
  slices.BinarySearchFunc at lists of Lk: its contract.
  spec.PartsOf: its contract.
  The lines of a script: mathematics.
-/
import Derived.Test.YtpiookjdeopmgaaDoorRd6
namespace Go.Proofs.YtpiookjdeopmgaaDoor
open Go.RowKit

def lk0 : Lk := ⟨0, 0, 0, 0⟩

theorem Tryd.infoLk : (Tryd.prog.info? 77).map (fun i => (i.zero, i.size, i.bytes)) = some (some (lkV lk0), 4, 32) := by kernel_rfl

def th0 : Th := ⟨0, 0, 0, false⟩

theorem Tryd.infoTh : (Tryd.prog.info? 81).map (fun i => (i.zero, i.size, i.bytes)) = some (some (thV th0), 4, 32) := by kernel_rfl

end Go.Proofs.YtpiookjdeopmgaaDoor
namespace Go.Proofs.YtpiookjdeopmgaaDoor
open Go.RowKit

set_option maxRecDepth 100000 in
set_option maxHeartbeats 1000000 in
theorem eqLinkS_any (v1 v2 : Value) (xs ys : List Lk) (w : World) (h1 : LinksAt w v1 xs w.heap.size) (h2 : LinksAt w v2 ys w.heap.size) (hn : xs.length ≤ 1048576) :
    Calls Tryd.prog 28 #[v1, v2] w fun e w' => e = .returned (.bool (decide (xs = ys))) ∧ Below w.heap.size w w' := by
  obtain ⟨a1, c1, rfl⟩ := h1.shape
  obtain ⟨a2, c2, rfl⟩ := h2.shape
  by_cases hl : xs.length = ys.length
  · have K1 := hide h1
    have K2 := hide h2
    have HLN := hide hl
    rw [← hl]
    clear h1 h2 hl
    go_enter Tryd.func28, Tryd.ntmps28
    go_wp2
    go_loopw [5] (fun i wr => ∃ k : Nat, k ≤ xs.length ∧ i = .int .i64 k ∧ (∀ j, j < k → xs[j]? = ys[j]?) ∧ Below w.heap.size w wr) (fun i _ => xs.length - (intOf i).toNat)
    case atStart => exact ⟨0, by omega, rfl, by omega, Below.refl _ _⟩
    case round =>
      obtain ⟨k, hk, rfl, hall, hnx⟩ := hrel
      have HALL := hide hall
      clear hall
      by_cases hlt : k < xs.length
      · obtain ⟨x, hx⟩ : ∃ l, xs[k]? = some l := ⟨xs[k], List.getElem?_eq_getElem hlt⟩
        obtain ⟨y, hy⟩ : ∃ l, ys[k]? = some l := ⟨ys[k], List.getElem?_eq_getElem (by have := HLN.out; omega)⟩
        obtain ⟨b1, o1, cp1, hv1, hb1, c0, c1', c2', c3⟩ := K1.out.cells k x hx
        obtain ⟨b2, o2, cp2, hv2, hb2, d0, d1, d2, d3⟩ := K2.out.cells k y hy
        cases hv1
        cases hv2
        rw [← hnx.cell (p := ⟨b1, o1 + k * 4, none⟩) hb1] at c0
        rw [← hnx.cell (p := ⟨b1, o1 + k * 4 + 1, none⟩) hb1] at c1'
        rw [← hnx.cell (p := ⟨b1, o1 + k * 4 + 2, none⟩) hb1] at c2'
        rw [← hnx.cell (p := ⟨b1, o1 + k * 4 + 3, none⟩) hb1] at c3
        rw [← hnx.cell (p := ⟨b2, o2 + k * 4, none⟩) hb2] at d0
        rw [← hnx.cell (p := ⟨b2, o2 + k * 4 + 1, none⟩) hb2] at d1
        rw [← hnx.cell (p := ⟨b2, o2 + k * 4 + 2, none⟩) hb2] at d2
        rw [← hnx.cell (p := ⟨b2, o2 + k * 4 + 3, none⟩) hb2] at d3
        have hzr := hnx.size
        have hb1' : b1 < wr.heap.size := by omega
        have hb2' : b2 < wr.heap.size := by omega
        have hki : (0 : Int) ≤ (k : Int) := by omega
        have hkj : (k : Int) < (xs.length : Int) := by omega
        have hq := eqLink_any x y
        unfold lkV at hq
        obtain ⟨q, hqq⟩ : ∃ q, q = decide (x = y) := ⟨_, rfl⟩
        rw [← hqq] at hq
        have HQ := hide hq
        have HQQ := hide hqq
        have HX := hide hx
        have HY := hide hy
        clear hq hqq hx hy
        cases q
        · go_wp2
          go_region_held3 (fun W => W.cell? ⟨b1, o1 + k * 4, none⟩ = some (.int .i64 x.a) ∧ W.cell? ⟨b1, o1 + k * 4 + 1, none⟩ = some (.int .i64 x.b) ∧ W.cell? ⟨b1, o1 + k * 4 + 2, none⟩ = some (.int .i64 x.c) ∧ W.cell? ⟨b1, o1 + k * 4 + 3, none⟩ = some (.int .i64 x.r) ∧ W.cell? ⟨b2, o2 + k * 4, none⟩ = some (.int .i64 y.a) ∧ W.cell? ⟨b2, o2 + k * 4 + 1, none⟩ = some (.int .i64 y.b) ∧ W.cell? ⟨b2, o2 + k * 4 + 2, none⟩ = some (.int .i64 y.c) ∧ W.cell? ⟨b2, o2 + k * 4 + 3, none⟩ = some (.int .i64 y.r)) (first | go_keep | (refine ⟨?_, ?_, ?_, ?_, ?_, ?_, ?_, ?_⟩ <;> (rw [hbc.cell (by assumption)]; assumption))) (first | (go_at_call 60; refine (HQ.out _).mono ?_; rintro e w1 ⟨rfl, hbc⟩))
          go_wp2
          go_ret
          exact ⟨ret_bool_no (ne_at HX.out HY.out (of_decide_eq_false HQQ.out.symm)), hnx.trans ((Below.refl _ _).drew.trans (hbc.mono hzr))⟩
        · go_wp2
          go_region_held3 (fun W => W.cell? ⟨b1, o1 + k * 4, none⟩ = some (.int .i64 x.a) ∧ W.cell? ⟨b1, o1 + k * 4 + 1, none⟩ = some (.int .i64 x.b) ∧ W.cell? ⟨b1, o1 + k * 4 + 2, none⟩ = some (.int .i64 x.c) ∧ W.cell? ⟨b1, o1 + k * 4 + 3, none⟩ = some (.int .i64 x.r) ∧ W.cell? ⟨b2, o2 + k * 4, none⟩ = some (.int .i64 y.a) ∧ W.cell? ⟨b2, o2 + k * 4 + 1, none⟩ = some (.int .i64 y.b) ∧ W.cell? ⟨b2, o2 + k * 4 + 2, none⟩ = some (.int .i64 y.c) ∧ W.cell? ⟨b2, o2 + k * 4 + 3, none⟩ = some (.int .i64 y.r)) (first | go_keep | (refine ⟨?_, ?_, ?_, ?_, ?_, ?_, ?_, ?_⟩ <;> (rw [hbc.cell (by assumption)]; assumption))) (first | (go_at_call 60; refine (HQ.out _).mono ?_; rintro e w1 ⟨rfl, hbc⟩))
          go_wp2
          go_roundw
          case rel => exact ⟨k + 1, by omega, by go_num, (fun j hj => by
            by_cases e : j = k
            · subst e; rw [HX.out, HY.out, of_decide_eq_true HQQ.out.symm]
            · exact HALL.out j (by omega)), hnx.trans ((Below.refl _ _).drew.trans (hbc.mono hzr))⟩
          case measure => simp [intOf]; omega
      · have hkn : k = xs.length := by omega
        have KN := hide hkn
        clear hkn
        go_wp2
        go_ret
        exact ⟨ret_bool_yes (eq_all HLN.out (by rw [← KN.out]; exact HALL.out)), hnx⟩
  · clear h1 h2
    have hd : ((xs.length : Int) != (ys.length : Int)) = true := by simp; omega
    go_enter Tryd.func28, Tryd.ntmps28
    go_wp2
    go_ret
    exact ⟨ret_bool_no (fun h => hl (by rw [h])), Below.refl _ _⟩
set_option maxRecDepth 100000 in
set_option maxHeartbeats 1000000 in
theorem eqThingS_any (v1 v2 : Value) (xs ys : List Th) (w : World) (h1 : ThingsAt w v1 xs w.heap.size) (h2 : ThingsAt w v2 ys w.heap.size) (hn : xs.length ≤ 1048576) :
    Calls Tryd.prog 29 #[v1, v2] w fun e w' => e = .returned (.bool (decide (xs = ys))) ∧ Below w.heap.size w w' := by
  obtain ⟨a1, c1, rfl⟩ := h1.shape
  obtain ⟨a2, c2, rfl⟩ := h2.shape
  by_cases hl : xs.length = ys.length
  · have K1 := hide h1
    have K2 := hide h2
    have HLN := hide hl
    rw [← hl]
    clear h1 h2 hl
    go_enter Tryd.func29, Tryd.ntmps29
    go_wp2
    go_loopw [5] (fun i wr => ∃ k : Nat, k ≤ xs.length ∧ i = .int .i64 k ∧ (∀ j, j < k → xs[j]? = ys[j]?) ∧ Below w.heap.size w wr) (fun i _ => xs.length - (intOf i).toNat)
    case atStart => exact ⟨0, by omega, rfl, by omega, Below.refl _ _⟩
    case round =>
      obtain ⟨k, hk, rfl, hall, hnx⟩ := hrel
      have HALL := hide hall
      clear hall
      by_cases hlt : k < xs.length
      · obtain ⟨x, hx⟩ : ∃ l, xs[k]? = some l := ⟨xs[k], List.getElem?_eq_getElem hlt⟩
        obtain ⟨y, hy⟩ : ∃ l, ys[k]? = some l := ⟨ys[k], List.getElem?_eq_getElem (by have := HLN.out; omega)⟩
        obtain ⟨b1, o1, cp1, hv1, hb1, c0, c1', c2', c3⟩ := K1.out.cells k x hx
        obtain ⟨b2, o2, cp2, hv2, hb2, d0, d1, d2, d3⟩ := K2.out.cells k y hy
        cases hv1
        cases hv2
        rw [← hnx.cell (p := ⟨b1, o1 + k * 4, none⟩) hb1] at c0
        rw [← hnx.cell (p := ⟨b1, o1 + k * 4 + 1, none⟩) hb1] at c1'
        rw [← hnx.cell (p := ⟨b1, o1 + k * 4 + 2, none⟩) hb1] at c2'
        rw [← hnx.cell (p := ⟨b1, o1 + k * 4 + 3, none⟩) hb1] at c3
        rw [← hnx.cell (p := ⟨b2, o2 + k * 4, none⟩) hb2] at d0
        rw [← hnx.cell (p := ⟨b2, o2 + k * 4 + 1, none⟩) hb2] at d1
        rw [← hnx.cell (p := ⟨b2, o2 + k * 4 + 2, none⟩) hb2] at d2
        rw [← hnx.cell (p := ⟨b2, o2 + k * 4 + 3, none⟩) hb2] at d3
        have hzr := hnx.size
        have hb1' : b1 < wr.heap.size := by omega
        have hb2' : b2 < wr.heap.size := by omega
        have hki : (0 : Int) ≤ (k : Int) := by omega
        have hkj : (k : Int) < (xs.length : Int) := by omega
        have hq := eqThing_any x y
        unfold thV at hq
        obtain ⟨q, hqq⟩ : ∃ q, q = decide (x = y) := ⟨_, rfl⟩
        rw [← hqq] at hq
        have HQ := hide hq
        have HQQ := hide hqq
        have HX := hide hx
        have HY := hide hy
        clear hq hqq hx hy
        cases q
        · go_wp2
          go_region_held3 (fun W => W.cell? ⟨b1, o1 + k * 4, none⟩ = some (.int .i64 x.o) ∧ W.cell? ⟨b1, o1 + k * 4 + 1, none⟩ = some (.int .i64 x.k) ∧ W.cell? ⟨b1, o1 + k * 4 + 2, none⟩ = some (.int .i64 x.c) ∧ W.cell? ⟨b1, o1 + k * 4 + 3, none⟩ = some (.bool x.f) ∧ W.cell? ⟨b2, o2 + k * 4, none⟩ = some (.int .i64 y.o) ∧ W.cell? ⟨b2, o2 + k * 4 + 1, none⟩ = some (.int .i64 y.k) ∧ W.cell? ⟨b2, o2 + k * 4 + 2, none⟩ = some (.int .i64 y.c) ∧ W.cell? ⟨b2, o2 + k * 4 + 3, none⟩ = some (.bool y.f)) (first | go_keep | (refine ⟨?_, ?_, ?_, ?_, ?_, ?_, ?_, ?_⟩ <;> (rw [hbc.cell (by assumption)]; assumption))) (first | (go_at_call 61; refine (HQ.out _).mono ?_; rintro e w1 ⟨rfl, hbc⟩))
          go_wp2
          go_ret
          exact ⟨ret_bool_no (ne_at HX.out HY.out (of_decide_eq_false HQQ.out.symm)), hnx.trans ((Below.refl _ _).drew.trans (hbc.mono hzr))⟩
        · go_wp2
          go_region_held3 (fun W => W.cell? ⟨b1, o1 + k * 4, none⟩ = some (.int .i64 x.o) ∧ W.cell? ⟨b1, o1 + k * 4 + 1, none⟩ = some (.int .i64 x.k) ∧ W.cell? ⟨b1, o1 + k * 4 + 2, none⟩ = some (.int .i64 x.c) ∧ W.cell? ⟨b1, o1 + k * 4 + 3, none⟩ = some (.bool x.f) ∧ W.cell? ⟨b2, o2 + k * 4, none⟩ = some (.int .i64 y.o) ∧ W.cell? ⟨b2, o2 + k * 4 + 1, none⟩ = some (.int .i64 y.k) ∧ W.cell? ⟨b2, o2 + k * 4 + 2, none⟩ = some (.int .i64 y.c) ∧ W.cell? ⟨b2, o2 + k * 4 + 3, none⟩ = some (.bool y.f)) (first | go_keep | (refine ⟨?_, ?_, ?_, ?_, ?_, ?_, ?_, ?_⟩ <;> (rw [hbc.cell (by assumption)]; assumption))) (first | (go_at_call 61; refine (HQ.out _).mono ?_; rintro e w1 ⟨rfl, hbc⟩))
          go_wp2
          go_roundw
          case rel => exact ⟨k + 1, by omega, by go_num, (fun j hj => by
            by_cases e : j = k
            · subst e; rw [HX.out, HY.out, of_decide_eq_true HQQ.out.symm]
            · exact HALL.out j (by omega)), hnx.trans ((Below.refl _ _).drew.trans (hbc.mono hzr))⟩
          case measure => simp [intOf]; omega
      · have hkn : k = xs.length := by omega
        have KN := hide hkn
        clear hkn
        go_wp2
        go_ret
        exact ⟨ret_bool_yes (eq_all HLN.out (by rw [← KN.out]; exact HALL.out)), hnx⟩
  · clear h1 h2
    have hd : ((xs.length : Int) != (ys.length : Int)) = true := by simp; omega
    go_enter Tryd.func29, Tryd.ntmps29
    go_wp2
    go_ret
    exact ⟨ret_bool_no (fun h => hl (by rw [h])), Below.refl _ _⟩
end Go.Proofs.YtpiookjdeopmgaaDoor
namespace Go.Proofs.YtpiookjdeopmgaaDoor
open Go.RowKit

set_option linter.unusedSimpArgs false
set_option linter.unusedVariables false

/-- whether the one at t is ahead of r -/
def ltL (xs : List Lk) (r : Lk) (t : Nat) : Prop := ∃ x, xs[t]? = some x ∧ ordL x r < 0

theorem ltL_of {xs : List Lk} {r x : Lk} {t : Nat} (h : xs[t]? = some x) : ltL xs r t ↔ ordL x r < 0 :=
  ⟨fun ⟨y, hy, hl⟩ => by rw [h] at hy; cases hy; exact hl, fun hl => ⟨x, h, hl⟩⟩

set_option maxRecDepth 100000 in
set_option maxHeartbeats 4000000 in
theorem searchL_any (v : Value) (ps : List Lk) (r : Lk) (w : World) (hv : LinksAt w v ps w.heap.size) (hn : ps.length ≤ 1048576) (hmono : ∀ s t, s ≤ t → t < ps.length → ltL ps r t → ltL ps r s) :
    Calls Tryd.prog 90 #[v, lkV r, .func (.func 74) #[] #[]] w fun e w' => ∃ (i : Nat) (f : Bool), e = .returned (.tuple #[.int .i64 (i : Int), .bool f]) ∧ i ≤ ps.length ∧ (∀ t, t < i → ltL ps r t) ∧ (∀ t, i ≤ t → t < ps.length → ¬ ltL ps r t) ∧ Below w.heap.size w w' := by
  obtain ⟨a1, c1, rfl⟩ := hv.shape
  have HV := hide hv
  have HM := hide hmono
  unfold lkV
  clear hv hmono
  have BX : Below w.heap.size w (w.alloc (.cells #[.int .i64 r.a, .int .i64 r.b, .int .i64 r.c, .int .i64 r.r] 77)) := (Below.refl _ _).alloc (Nat.le_refl _) _
  have hx := heap_alloc_new w (.cells #[.int .i64 r.a, .int .i64 r.b, .int .i64 r.c, .int .i64 r.r] 77)
  obtain ⟨w0, hw0⟩ : ∃ w0, w0 = w.alloc (.cells #[.int .i64 r.a, .int .i64 r.b, .int .i64 r.c, .int .i64 r.r] 77) := ⟨_, rfl⟩
  rw [← hw0] at BX hx
  have hs0 := lt_of_heap hx
  have HX := hide hx
  clear hx
  go_enter Tryd.func90, Tryd.ntmps90
  go_wp2
  rw [← hw0]
  clear hw0
  go_loopw [9, 10] (fun i j wr => ∃ (m n : Nat), m ≤ n ∧ n ≤ ps.length ∧ i = .int .i64 m ∧ j = .int .i64 n ∧ Hid (∀ t, t < m → ltL ps r t) ∧ Hid (∀ t, n ≤ t → t < ps.length → ¬ ltL ps r t) ∧ Below w0.heap.size w0 wr) (fun i j _ => (intOf j).toNat - (intOf i).toNat)
  case atStart => exact ⟨0, ps.length, by omega, by omega, rfl, rfl, hide (by omega), hide (by omega), Below.refl _ _⟩
  case round =>
    obtain ⟨m, n, hmn, hnp, rfl, rfl, HLO, HHI, hnx⟩ := hrel
    have hsz := hnx.size
    have BWR : Below w.heap.size w wr := BX.trans (hnx.mono (by omega))
    by_cases hlt : m < n
    · have hmi : (m : Int) < (n : Int) := by omega
      have hw1 : IntKind.i64.wrap ((m : Int) + (n : Int)) = (m : Int) + (n : Int) := wrap_fit _ (by omega) (by omega)
      go_wp2
      obtain ⟨k, hk⟩ : ∃ k : Nat, k = (m + n) / 2 := ⟨_, rfl⟩
      have hke : ((m : Int) + (n : Int)) / 2 = (k : Int) := by omega
      rw [hke]
      have hkm : m ≤ k := by omega
      have hkn : k < n := by omega
      have hki : (0 : Int) ≤ (k : Int) := by omega
      have hkj : (k : Int) < (ps.length : Int) := by omega
      clear hk hke hw1
      obtain ⟨p, hp⟩ : ∃ p, ps[k]? = some p := ⟨ps[k], List.getElem?_eq_getElem (by omega)⟩
      obtain ⟨b, off, cap, hve, hbb, c0, c1, c2, c3⟩ := LinksAt.cells HV.out k p hp
      cases hve
      rw [← BWR.cell (p := ⟨b, off + k * 4, none⟩) hbb] at c0
      rw [← BWR.cell (p := ⟨b, off + k * 4 + 1, none⟩) hbb] at c1
      rw [← BWR.cell (p := ⟨b, off + k * 4 + 2, none⟩) hbb] at c2
      rw [← BWR.cell (p := ⟨b, off + k * 4 + 3, none⟩) hbb] at c3
      have hxx := (hnx.block _ (lt_of_heap HX.out)).trans HX.out
      have d0 := cells_at hxx 0
      have d1 := cells_at hxx 1
      have d2 := cells_at hxx 2
      have d3 := cells_at hxx 3
      simp at d0 d1 d2 d3
      have hb1 : b < wr.heap.size := by have := BWR.size; omega
      have hb2 : w.heap.size < wr.heap.size := by omega
      have hq := fun W => ordL_any p r W
      unfold lkV at hq
      obtain ⟨x, hx⟩ : ∃ x, x = ordL p r := ⟨_, rfl⟩
      rw [← hx] at hq
      have HK := hide hq
      have HXV := hide hx
      have HPP := hide hp
      clear hq hx hp hxx
      by_cases hx0 : x < 0
      · have HLO2 := hide (show ∀ t, t < k + 1 → ltL ps r t from fun t ht => HM.out t k (by omega) (by omega) ((ltL_of HPP.out).2 (by rw [← HXV.out]; exact hx0)))
        go_region_held3 (fun W => W.cell? ⟨b, off + k * 4, none⟩ = some (.int .i64 p.a) ∧ W.cell? ⟨b, off + k * 4 + 1, none⟩ = some (.int .i64 p.b) ∧ W.cell? ⟨b, off + k * 4 + 2, none⟩ = some (.int .i64 p.c) ∧ W.cell? ⟨b, off + k * 4 + 3, none⟩ = some (.int .i64 p.r) ∧ W.cell? ⟨w.heap.size, 0, none⟩ = some (.int .i64 r.a) ∧ W.cell? ⟨w.heap.size, 1, none⟩ = some (.int .i64 r.b) ∧ W.cell? ⟨w.heap.size, 2, none⟩ = some (.int .i64 r.c) ∧ W.cell? ⟨w.heap.size, 3, none⟩ = some (.int .i64 r.r)) (first | go_keep | (refine ⟨?_, ?_, ?_, ?_, ?_, ?_, ?_, ?_⟩ <;> (rw [hbc.cell (by assumption)]; assumption))) (first | (go_at_call 74; refine (HK.out _).mono ?_; rintro e w1 ⟨rfl, hbc⟩))
        go_wp2
        go_roundw
        case rel => exact ⟨k + 1, n, by omega, by omega, by go_num, rfl, HLO2, HHI, hnx.trans ((Below.refl _ _).drew.trans (hbc.mono hsz))⟩
        case measure => simp [intOf]; omega
      · have HHI2 := hide (show ∀ t, k ≤ t → t < ps.length → ¬ ltL ps r t from fun t h1 h2 h3 => hx0 (by rw [HXV.out]; exact (ltL_of HPP.out).1 (HM.out k t h1 h2 h3)))
        go_region_held3 (fun W => W.cell? ⟨b, off + k * 4, none⟩ = some (.int .i64 p.a) ∧ W.cell? ⟨b, off + k * 4 + 1, none⟩ = some (.int .i64 p.b) ∧ W.cell? ⟨b, off + k * 4 + 2, none⟩ = some (.int .i64 p.c) ∧ W.cell? ⟨b, off + k * 4 + 3, none⟩ = some (.int .i64 p.r) ∧ W.cell? ⟨w.heap.size, 0, none⟩ = some (.int .i64 r.a) ∧ W.cell? ⟨w.heap.size, 1, none⟩ = some (.int .i64 r.b) ∧ W.cell? ⟨w.heap.size, 2, none⟩ = some (.int .i64 r.c) ∧ W.cell? ⟨w.heap.size, 3, none⟩ = some (.int .i64 r.r)) (first | go_keep | (refine ⟨?_, ?_, ?_, ?_, ?_, ?_, ?_, ?_⟩ <;> (rw [hbc.cell (by assumption)]; assumption))) (first | (go_at_call 74; refine (HK.out _).mono ?_; rintro e w1 ⟨rfl, hbc⟩))
        go_wp2
        go_roundw
        case rel => exact ⟨m, k, by omega, by omega, rfl, rfl, HLO, HHI2, hnx.trans ((Below.refl _ _).drew.trans (hbc.mono hsz))⟩
        case measure => simp [intOf]; omega
    · have hmn2 : m = n := by omega
      subst hmn2
      by_cases hend : m < ps.length
      · have hmi : (0 : Int) ≤ (m : Int) := by omega
        have hmj : (m : Int) < (ps.length : Int) := by omega
        obtain ⟨p, hp⟩ : ∃ p, ps[m]? = some p := ⟨ps[m], List.getElem?_eq_getElem (by omega)⟩
        obtain ⟨b, off, cap, hve, hbb, c0, c1, c2, c3⟩ := LinksAt.cells HV.out m p hp
        cases hve
        rw [← BWR.cell (p := ⟨b, off + m * 4, none⟩) hbb] at c0
        rw [← BWR.cell (p := ⟨b, off + m * 4 + 1, none⟩) hbb] at c1
        rw [← BWR.cell (p := ⟨b, off + m * 4 + 2, none⟩) hbb] at c2
        rw [← BWR.cell (p := ⟨b, off + m * 4 + 3, none⟩) hbb] at c3
        have hxx := (hnx.block _ (lt_of_heap HX.out)).trans HX.out
        have d0 := cells_at hxx 0
        have d1 := cells_at hxx 1
        have d2 := cells_at hxx 2
        have d3 := cells_at hxx 3
        simp at d0 d1 d2 d3
        have hb1 : b < wr.heap.size := by have := BWR.size; omega
        have hb2 : w.heap.size < wr.heap.size := by omega
        have hq := fun W => ordL_any p r W
        unfold lkV at hq
        obtain ⟨x, hx⟩ : ∃ x, x = ordL p r := ⟨_, rfl⟩
        rw [← hx] at hq
        have HK := hide hq
        have HXV := hide hx
        have HPP := hide hp
        clear hq hx hp hxx
        go_wp2
        go_region_held3 (fun W => W.cell? ⟨b, off + m * 4, none⟩ = some (.int .i64 p.a) ∧ W.cell? ⟨b, off + m * 4 + 1, none⟩ = some (.int .i64 p.b) ∧ W.cell? ⟨b, off + m * 4 + 2, none⟩ = some (.int .i64 p.c) ∧ W.cell? ⟨b, off + m * 4 + 3, none⟩ = some (.int .i64 p.r) ∧ W.cell? ⟨w.heap.size, 0, none⟩ = some (.int .i64 r.a) ∧ W.cell? ⟨w.heap.size, 1, none⟩ = some (.int .i64 r.b) ∧ W.cell? ⟨w.heap.size, 2, none⟩ = some (.int .i64 r.c) ∧ W.cell? ⟨w.heap.size, 3, none⟩ = some (.int .i64 r.r)) (first | go_keep | (refine ⟨?_, ?_, ?_, ?_, ?_, ?_, ?_, ?_⟩ <;> (rw [hbc.cell (by assumption)]; assumption))) (first | (go_at_call 74; refine (HK.out _).mono ?_; rintro e w1 ⟨rfl, hbc⟩))
        go_wp2
        go_returns
        exact ⟨m, x == 0, rfl, by omega, HLO.out, HHI.out, BWR.trans ((Below.refl _ _).drew.trans (hbc.mono (show w.heap.size ≤ wr.heap.size by omega)))⟩
      · have hme : ¬ (m : Int) < (ps.length : Int) := by omega
        go_wp2
        go_quiet (fail)
        go_wp2
        go_returns
        exact ⟨m, false, rfl, by omega, HLO.out, HHI.out, BWR.trans ⟨rfl, rfl, rfl, Nat.le_refl _, fun _ _ => rfl⟩⟩
end Go.Proofs.YtpiookjdeopmgaaDoor
namespace Go.Proofs.YtpiookjdeopmgaaDoor
open Go.RowKit

theorem news_str {w : World} (t : ByteArray) (l : List UInt8) (ty : TypeId) (h : t = bs l) : ∀ j u, (strs [l])[j]? = some u → (w.alloc (.cells #[.string t] ty)).cell? ((⟨w.heap.size, 0, none⟩ : Addr).add j) = some u := by
  intro j u hj
  match j, hj with
  | 0, hj =>
    rw [add_zero', World.cell?_alloc_at _ _ _ _ rfl, h]
    simpa [strs] using hj
theorem strs_one (xs : List (List UInt8)) : ∀ u ∈ strs xs, u.oneCell' = true := by
  intro u hu
  simp only [strs, List.mem_map] at hu
  obtain ⟨b, _, rfl⟩ := hu
  rfl

/-- 'append(out, t)' of a string, out a row that the call itself made -/
theorem wpList_append_str (w : World) {ops : Array Oper} {rest : List Oper} {o : Oper} {a : Act} {Q : Exit → Act → World → Prop} (hgd : o.guard = none) (s x : Operand)
    (ho : o.op = .call { callee := .builtin .append, args := #[s, x], argTypes := #[43, 43] }) (base : Nat)
    (v : Value) (xs : List (List UInt8)) (l : List UInt8) (hs : a.eval s = v) (hown : w.ownsRow base 9 1 v xs.length (strs xs))
    (ad : Addr) (hx : a.eval x = .slice (some ad) 1 1) (hnews : ∀ j u, (strs [l])[j]? = some u → w.cell? (ad.add j) = some u)
    (hlen : xs.length ≤ 100000000) (hbase : base ≤ w.heap.size)
    (h : ∀ v' w' xs', Hid (xs' = xs ++ [l]) → w'.ownsRow base 9 1 v' xs'.length (strs xs') → w.grownBy w' v.ownBlock → wpList Tryd.prog ops Q rest (a.put o.dst v') w') : wpList Tryd.prog ops Q (o :: rest) a w := by
  obtain ⟨i0, hi, hz0, hz1, hz2⟩ := info_parts Tryd.info9
  refine wpList_append_own w hgd s x 43 ho base 9 i0 (.string ⟨#[]⟩) 1 16 Tryd.underlying43 hi hz0 hz1 hz2 rfl (by decide) v xs.length (strs xs) hs hown ad 1 1 (strs [l]) hx (by simp [strs]) hnews (strs_one _) (by unfold maxLen; omega) (by omega) hbase ?_
  intro v' w' h1 h2 _
  have e : strs xs ++ strs [l] = strs (xs ++ [l]) := by simp [strs]
  have e2 : xs.length + 1 = (xs ++ [l]).length := by simp
  rw [e, e2] at h1
  exact h v' w' _ rfl h1 h2

theorem owns_empty (w : World) (base : Nat) (h : base ≤ w.heap.size) : (w.alloc (.cells #[] 9)).ownsRow base 9 1 (.slice (some ⟨w.heap.size, 0, none⟩) 0 0) 0 (strs []) := World.ownsRow_lit _ _ 0 h (by decide) rfl

set_option maxRecDepth 100000 in
set_option maxHeartbeats 2000000 in
theorem spt_any (s : ByteArray) (w : World) (hs : s.size ≤ 1048576) :
    Calls Tryd.prog 19 #[.string s] w fun e w' => ∃ v, e = .returned (.tuple #[v, .bool (goodS s)]) ∧ w'.ownsRow w.heap.size 9 1 v (prL s).length (strs (prL s)) ∧ Below w.heap.size w w' := by
  by_cases h600 : (600 : Int) < (s.size : Int)
  · have hg : goodS s = false := by simp [goodS]; omega
    rw [prL_no hg, hg]
    clear hg
    go_enter Tryd.func19, Tryd.ntmps19
    go_wp2
    go_ret2
    exact ⟨_, rfl, owns_empty w _ (Nat.le_refl _), (Below.refl _ _).alloc (Nat.le_refl _) _⟩
  obtain ⟨G, hG⟩ : ∃ G, G = goodS s := ⟨_, rfl⟩
  obtain ⟨L, hL⟩ : ∃ L, L = prL s := ⟨_, rfl⟩
  rw [← hG, ← hL]
  have GL : Hid (G = goodS s ∧ L = prL s) := ⟨hG, hL⟩
  clear hG hL
  go_enter Tryd.func19, Tryd.ntmps19
  go_wp2
  go_loopw [4, 5, 6] (fun v bb i wr => ∃ (k b : Nat) (done : List (List UInt8)), k ≤ s.size + 1 ∧ b ≤ k ∧ done.length ≤ k ∧ i = .int .i64 k ∧ bb = .int .i64 b ∧ Hid ((k ≤ s.size → Pt s b k done) ∧ (k = s.size + 1 → Lib.fields s.data.toList = done ∧ okL s.data.toList = true)) ∧ wr.ownsRow w.heap.size 9 1 v done.length (strs done) ∧ Below w.heap.size w wr)
    (fun _ _ i _ => s.size + 1 - (intOf i).toNat)
  case atStart =>
    exact ⟨0, 0, [], by omega, by omega, by simp, rfl, rfl, ⟨fun _ => Pt.first s, fun h => by omega⟩, owns_empty w _ (Nat.le_refl _), (Below.refl _ _).alloc (Nat.le_refl _) _⟩
  case round =>
    obtain ⟨k, b, done, hk, hbk, hdl, rfl, rfl, hp, hown, hnx⟩ := hrel
    have hsz := hnx.size
    by_cases hlt : k < s.size
    · obtain ⟨c, hc⟩ : ∃ c : Nat, c = s[k].toNat := ⟨_, rfl⟩
      have hcb : c < 256 := by have := s[k].toNat_lt; omega
      have hix := idx_str Tryd.underlying9 s k c hlt hc
      have C : Hid (c = s[k].toNat) := hc
      clear hc
      have h3 : c < 32 ∨ 126 < c ∨ (32 < c ∧ c ≤ 126) ∨ c = 32 := by omega
      rcases h3 with h | h | ⟨h, h'⟩ | h
      iterate 2
        · have hg : goodS s = false := by simp [goodS, okL_bad s k hlt (by have := C.out; omega)]
          have HG := hide hg
          clear hg
          go_wp2
          go_ret2
          refine ⟨_, by rw [GL.out.1, HG.out]; rfl, ?_, hnx.alloc hsz _⟩
          rw [GL.out.2, prL_no HG.out]
          exact owns_empty wr _ hsz
      · have hne : ((c : Int) != 32) = true := by simp; omega
        go_wp2
        go_roundw
        case rel => exact ⟨k + 1, b, done, by omega, by omega, by omega, by go_num, rfl, ⟨fun _ => (hp.out.1 (by omega)).more hlt (by have := C.out; omega) (by have := C.out; omega), fun h => by omega⟩, hown, hnx⟩
        case measure => simp [intOf]; omega
      · have hne : ((c : Int) != 32) = false := by simp; omega
        have hc1 : 32 ≤ c := by omega
        have hc2 : c ≤ 32 := by omega
        clear h
        by_cases hb : b < k
        · obtain ⟨t, ht⟩ : ∃ t : ByteArray, t = s.extract b k := ⟨_, rfl⟩
          have hsl := sl_str Tryd.underlying9 s t (b : Int) (k : Int) (by omega) (by omega) (by omega) (by rw [ht]; rfl)
          have TT := hide ht
          clear ht
          go_wp2_with (first
            | (at_builtin; refine wpList_append_str _ rfl _ _ rfl w.heap.size u4 done ((s.data.toList.drop b).take (k - b)) rfl (hown.alloc _) ⟨wr.heap.size, 0, none⟩ rfl (news_str t _ _ (by rw [TT.out, extract_bs])) (by omega) (by simp; omega) ?_))
          intro v' w1 xs' hx' hown' hgrow
          have hb1 := below_append _ hnx hown (Nat.le_refl _) hsz hgrow
          clear hgrow hnx hown
          go_wp2
          go_roundw
          case rel => exact ⟨k + 1, k + 1, xs', by omega, by omega, by rw [hx'.out]; simp; omega, by go_num, by go_num, ⟨fun _ => by rw [hx'.out]; exact (hp.out.1 (by omega)).word hlt (by have := C.out; omega) hb, fun h => by omega⟩, hown', hb1⟩
          case measure => simp [intOf]; omega
        · go_wp2
          go_roundw
          case rel => exact ⟨k + 1, k + 1, done, by omega, by omega, by omega, by go_num, by go_num, ⟨fun _ => (hp.out.1 (by omega)).blank hlt (by have := C.out; omega) hb, fun h => by omega⟩, hown, hnx⟩
          case measure => simp [intOf]; omega
    · by_cases hks : k ≤ s.size
      · by_cases hb : b < k
        · obtain ⟨t, ht⟩ : ∃ t : ByteArray, t = s.extract b k := ⟨_, rfl⟩
          have hsl := sl_str Tryd.underlying9 s t (b : Int) (k : Int) (by omega) (by omega) (by omega) (by rw [ht]; rfl)
          have TT := hide ht
          clear ht
          go_wp2_with (first
            | (at_builtin; refine wpList_append_str _ rfl _ _ rfl w.heap.size u4 done ((s.data.toList.drop b).take (k - b)) rfl (hown.alloc _) ⟨wr.heap.size, 0, none⟩ rfl (news_str t _ _ (by rw [TT.out, extract_bs])) (by omega) (by simp; omega) ?_))
          intro v' w1 xs' hx' hown' hgrow
          have hb1 := below_append _ hnx hown (Nat.le_refl _) hsz hgrow
          clear hgrow hnx hown
          go_wp2
          go_roundw
          case rel => exact ⟨k + 1, k + 1, xs', by omega, by omega, by rw [hx'.out]; simp; omega, by go_num, by go_num, ⟨fun h => by omega, fun _ => by rw [hx'.out]; exact (hp.out.1 hks).last hlt hb⟩, hown', hb1⟩
          case measure => simp [intOf]; omega
        · go_wp2
          go_roundw
          case rel => exact ⟨k + 1, k + 1, done, by omega, by omega, by omega, by go_num, by go_num, ⟨fun h => by omega, fun _ => (hp.out.1 hks).none hlt hb⟩, hown, hnx⟩
          case measure => simp [intOf]; omega
      · obtain ⟨a4, c4, h4⟩ := owns_len hown
        obtain ⟨e1, e2⟩ := hp.out.2 (by omega)
        by_cases h10 : (10 : Int) < (done.length : Int)
        · have hg : goodS s = false := by
            rw [goodS, e1]
            simp
            omega
          have HG := hide hg
          have E := hide e1
          clear hg e1 e2 hp
          rw [h4]
          go_wp2
          go_ret2
          refine ⟨_, by rw [GL.out.1, HG.out]; rfl, ?_, hnx.alloc hsz _⟩
          rw [GL.out.2, prL_no HG.out]
          exact owns_empty wr _ hsz
        · have hg : goodS s = true := by
            rw [goodS, e1, e2]
            simp
            omega
          have HG := hide hg
          have E := hide e1
          have OW := hide hown
          clear hg e1 e2 hp hown
          rw [h4]
          go_wp2
          go_ret2
          refine ⟨_, by rw [GL.out.1, HG.out]; rfl, ?_, hnx⟩
          rw [GL.out.2, prL_yes HG.out, E.out, ← h4]
          exact OW.out
end Go.Proofs.YtpiookjdeopmgaaDoor
namespace Go.Proofs.YtpiookjdeopmgaaDoor
open Go.RowKit

/-- 'cur': the line under way -/
def lnsGo (cur : List UInt8) : List UInt8 → List (List UInt8)
  | [] => if cur = [] then [] else [cur]
  | b :: l => if b.toNat = 10 then cur :: lnsGo [] l else lnsGo (cur ++ [b]) l
def lnsOf (l : List UInt8) : List (List UInt8) := lnsGo [] l

theorem lnsGo_size : ∀ (l cur : List UInt8) (x : List UInt8), x ∈ lnsGo cur l → x.length ≤ cur.length + l.length
  | [], cur, x, h => by
    unfold lnsGo at h
    split at h
    · cases h
    · simp at h; subst h; simp
  | b :: l, cur, x, h => by
    unfold lnsGo at h
    split at h
    · rcases List.mem_cons.1 h with h | h
      · subst h; omega
      · have := lnsGo_size l [] x h
        simp at this ⊢; omega
    · have := lnsGo_size l (cur ++ [b]) x h
      simp at this ⊢; omega
theorem lnsOf_size (l x : List UInt8) (h : x ∈ lnsOf l) : x.length ≤ l.length := by
  have := lnsGo_size l [] x h
  simpa using this

/-- at the head of a round: b: where the line began; k: the place; done: the lines so far -/
structure Lt (s : ByteArray) (b k : Nat) (done : List (List UInt8)) : Prop where
  bk : b ≤ k
  ks : k ≤ s.size
  len : done.length ≤ k
  all : lnsOf s.data.toList = done ++ lnsGo ((s.data.toList.drop b).take (k - b)) (s.data.toList.drop k)

theorem Lt.first (s : ByteArray) : Lt s 0 0 [] := ⟨by omega, by omega, by simp, by simp [lnsOf]⟩
theorem Lt.more {s : ByteArray} {b k : Nat} {done : List (List UInt8)} (h : Lt s b k done) (hk : k < s.size) (h1 : s[k].toNat ≠ 10) : Lt s b (k + 1) done := by
  refine ⟨by have := h.bk; omega, by omega, by have := h.len; omega, ?_⟩
  rw [h.all, drop_one s k hk, piece_one s b k h.bk hk, lnsGo, if_neg h1]
theorem Lt.line {s : ByteArray} {b k : Nat} {done : List (List UInt8)} (h : Lt s b k done) (hk : k < s.size) (h1 : s[k].toNat = 10) : Lt s (k + 1) (k + 1) (done ++ [(s.data.toList.drop b).take (k - b)]) := by
  refine ⟨by omega, by omega, by have := h.len; simp; omega, ?_⟩
  rw [h.all, drop_one s k hk, lnsGo, if_pos h1]
  simp
theorem Lt.last {s : ByteArray} {b k : Nat} {done : List (List UInt8)} (h : Lt s b k done) (hk : ¬ k < s.size) (hb : b < s.size) : lnsOf s.data.toList = done ++ [s.data.toList.drop b] := by
  have e : s.data.toList.drop k = [] := List.drop_eq_nil_of_le (by simp; omega)
  have hks := h.ks
  have e2 : (s.data.toList.drop b).take (k - b) = s.data.toList.drop b := List.take_of_length_le (by simp; omega)
  have hne : s.data.toList.drop b ≠ [] := by
    intro h0
    have := congrArg List.length h0
    simp at this
    omega
  rw [h.all, e, e2, lnsGo, if_neg hne]
theorem Lt.none {s : ByteArray} {b k : Nat} {done : List (List UInt8)} (h : Lt s b k done) (hk : ¬ k < s.size) (hb : ¬ b < s.size) : lnsOf s.data.toList = done := by
  have e : s.data.toList.drop k = [] := List.drop_eq_nil_of_le (by simp; omega)
  have hks := h.ks
  have hbk := h.bk
  have e2 : (s.data.toList.drop b).take (k - b) = [] := by
    have : k - b = 0 := by omega
    rw [this, List.take_zero]
  rw [h.all, e, e2, lnsGo, if_pos rfl, List.append_nil]
/-- signs of more than one byte hold no end of a line -/
theorem Lt.skip {s : ByteArray} {b : Nat} {done : List (List UInt8)} : ∀ (n k : Nat), Lt s b k done → k + n ≤ s.size → (∀ j (hj : k + j < s.size), j < n → s[k + j].toNat ≠ 10) → Lt s b (k + n) done
  | 0, k, h, _, _ => h
  | n + 1, k, h, hn, hb => by
    have h1 := h.more (by omega) (hb 0 (by omega) (by omega))
    have := Lt.skip n (k + 1) h1 (by omega) (fun j hj hjn => by
      have := hb (j + 1) (by omega) (by omega)
      have e : k + (j + 1) = k + 1 + j := by omega
      simpa only [e] using this)
    have e : k + 1 + n = k + (n + 1) := by omega
    rwa [e] at this

theorem get_in (s : ByteArray) (i : Nat) (h : i < s.size) : s.get! i = s[i] := by
  simp [ByteArray.get!, getElem!_pos, h]
  rfl

theorem decode_wide (s : ByteArray) (pos : Nat) (h : pos < s.size) : pos + (Utf8.decode s pos).2 ≤ s.size ∧ 1 ≤ (Utf8.decode s pos).2 ∧ ∀ j (hj : pos + j < s.size), 1 ≤ j → j < (Utf8.decode s pos).2 → 128 ≤ s[pos + j].toNat := by
  have hc : ∀ k, (decide (pos + k < s.size) && (s.get! (pos + k)).toNat / 64 == 2) = true → ∃ hk : pos + k < s.size, 128 ≤ s[pos + k].toNat := by
    intro k hk
    simp only [Bool.and_eq_true, decide_eq_true_eq, beq_iff_eq] at hk
    refine ⟨hk.1, ?_⟩
    rw [get_in s _ hk.1] at hk
    omega
  have one : pos + 1 ≤ s.size ∧ 1 ≤ 1 ∧ ∀ j (hj : pos + j < s.size), 1 ≤ j → j < 1 → 128 ≤ s[pos + j].toNat := ⟨by omega, by omega, fun j _ h1 h2 => by omega⟩
  simp only [Utf8.decode]
  split
  · exact one
  split
  · rename_i h2
    simp only [Bool.and_eq_true] at h2
    obtain ⟨q1, p1⟩ := hc 1 (by simpa using h2.2)
    split
    · refine ⟨by omega, by omega, fun j hj a1 a2 => ?_⟩
      have : j = 1 := by omega
      subst this; exact p1
    · exact one
  split
  · rename_i h2
    simp only [Bool.and_eq_true] at h2
    obtain ⟨q1, p1⟩ := hc 1 (by simpa using h2.1.2)
    obtain ⟨q2, p2⟩ := hc 2 (by simpa using h2.2)
    split
    · refine ⟨by omega, by omega, fun j hj a1 a2 => ?_⟩
      have : j = 1 ∨ j = 2 := by omega
      rcases this with rfl | rfl
      · exact p1
      · exact p2
    · exact one
  split
  · rename_i h2
    simp only [Bool.and_eq_true] at h2
    obtain ⟨q1, p1⟩ := hc 1 (by simpa using h2.1.1.2)
    obtain ⟨q2, p2⟩ := hc 2 (by simpa using h2.1.2)
    obtain ⟨q3, p3⟩ := hc 3 (by simpa using h2.2)
    split
    · refine ⟨by omega, by omega, fun j hj a1 a2 => ?_⟩
      have : j = 1 ∨ j = 2 ∨ j = 3 := by omega
      rcases this with rfl | rfl | rfl
      · exact p1
      · exact p2
      · exact p3
    · exact one
  · exact one

/-- a sign that is not the end of a line: on behind it -/
theorem Lt.sign {s : ByteArray} {b k : Nat} {done : List (List UInt8)} (h : Lt s b k done) (hk : k < s.size) (h1 : s[k].toNat ≠ 10) : Lt s b (k + (Utf8.decode s k).2) done := by
  obtain ⟨d1, d2, d3⟩ := decode_wide s k hk
  refine h.skip _ _ d1 (fun j hj hjn => ?_)
  rcases Nat.eq_zero_or_pos j with h0 | h0
  · subst h0; exact h1
  · have := d3 j hj h0 hjn
    omega
end Go.Proofs.YtpiookjdeopmgaaDoor
