/-
  impl.ascends of links and of things: their contracts.
  impl.linksOk, thingsOk, NetOk: their contracts.
  What a node hears, as pairs of nodes and areas: the mathematics.
  impl.fromBothEnds, impl.CostTo: their contracts.
-/
import Derived.Test.YtcimbiinljcifaaGreatLe9
import Derived.Test.YtcimbiinljcifaaGreatLe22
import Derived.Test.YtcimbiinljcifaaGreatLe1
import Derived.Test.YtcimbiinljcifaaGreatLe2
import Derived.Deep.RegionHeld3
import Derived.Laws.StructEq
namespace Go.Proofs.YtcimbiinljcifaaGreat
open Go.RowKit

set_option maxRecDepth 100000 in
set_option maxHeartbeats 4000000 in
theorem ascL_any (v : Value) (ls : List Lk) (w : World) (hls : ls.length ≤ 1048576) (hv : LinksAt w v ls w.heap.size) :
    Calls Tryz.prog 113 #[v, .func (.func 114) #[] #[]] w fun e w' => e = .returned (.bool (ascB ordL ls)) ∧ Below w.heap.size w w' := by
  obtain ⟨a, cap, rfl⟩ := hv.shape
  have HV := hide hv
  clear hv
  go_enter Tryz.func113, Tryz.ntmps113
  go_wp2
  go_loopw [5] (fun i wr => ∃ k : Nat, 1 ≤ k ∧ (k ≤ ls.length ∨ k = 1) ∧ i = .int .i64 k ∧ (∀ j, j < k → ascAt ordL ls j = true) ∧ Below w.heap.size w wr) (fun i _ => ls.length + 1 - (intOf i).toNat)
  case atStart => exact ⟨1, by omega, by omega, rfl, fun j hj => by obtain rfl : j = 0 := by omega
                                                                    rfl, Below.refl _ _⟩
  case round =>
    obtain ⟨k, hk1, hk, rfl, hno, hb⟩ := hrel
    have HNO := hide hno
    clear hno
    by_cases hlt : k < ls.length
    · obtain ⟨l, hl⟩ : ∃ l, ls[k]? = some l := ⟨ls[k], List.getElem?_eq_getElem hlt⟩
      obtain ⟨j, hj⟩ : ∃ j, k = j + 1 := ⟨k - 1, by omega⟩
      obtain ⟨p, hp⟩ : ∃ p, ls[j]? = some p := ⟨ls[j], List.getElem?_eq_getElem (by omega)⟩
      obtain ⟨b, off, cap', hve, hbb, c0, c1, c2, c3⟩ := HV.out.cells k l hl
      cases hve
      obtain ⟨b', off', cap2, hve2, hbb2, d0, d1, d2, d3⟩ := HV.out.cells j p hp
      cases hve2
      rw [← hb.cell (p := ⟨b, off + k * 4, none⟩) hbb] at c0
      rw [← hb.cell (p := ⟨b, off + k * 4 + 1, none⟩) hbb] at c1
      rw [← hb.cell (p := ⟨b, off + k * 4 + 2, none⟩) hbb] at c2
      rw [← hb.cell (p := ⟨b, off + k * 4 + 3, none⟩) hbb] at c3
      rw [← hb.cell (p := ⟨b, off + j * 4, none⟩) hbb] at d0
      rw [← hb.cell (p := ⟨b, off + j * 4 + 1, none⟩) hbb] at d1
      rw [← hb.cell (p := ⟨b, off + j * 4 + 2, none⟩) hbb] at d2
      rw [← hb.cell (p := ⟨b, off + j * 4 + 3, none⟩) hbb] at d3
      have hat : ascAt ordL ls k = decide (ordL p l < 0) := by rw [hj]; exact ascAt_eq hp (by rw [← hj]; exact hl)
      have hzr := hb.size
      have hbr : b < wr.heap.size := by omega
      have hki : (0 : Int) ≤ (k : Int) := by omega
      have hkj : (k : Int) < (ls.length : Int) := by omega
      have hj1 : (k : Int) - 1 = (j : Int) := by omega
      have hj2 : (0 : Int) ≤ (j : Int) := by omega
      have hj3 : (j : Int) < (ls.length : Int) := by omega
      have hj5 : IntKind.i64.wrap (j : Int) = (j : Int) := wrap_fit _ (by omega) (by omega)
      have HORD := hide (ordL_any p l)
      have HAT := hide hat
      have HJ := hide hj
      clear hl hp hat hj
      obtain ⟨x, hx⟩ : ∃ x, x = ordL p l := ⟨_, rfl⟩
      rw [← hx] at HORD HAT
      clear hx
      unfold lkV at HORD
      by_cases hx0 : x < 0
      · have hx1 : ¬ (0 : Int) ≤ x := by omega
        rw [decide_eq_true hx0] at HAT
        go_wp2
        go_region_held3 (fun W => W.cell? ⟨b, off + k * 4, none⟩ = some (.int .i64 l.a) ∧ W.cell? ⟨b, off + k * 4 + 1, none⟩ = some (.int .i64 l.b) ∧ W.cell? ⟨b, off + k * 4 + 2, none⟩ = some (.int .i64 l.c) ∧ W.cell? ⟨b, off + k * 4 + 3, none⟩ = some (.int .i64 l.r) ∧ W.cell? ⟨b, off + j * 4, none⟩ = some (.int .i64 p.a) ∧ W.cell? ⟨b, off + j * 4 + 1, none⟩ = some (.int .i64 p.b) ∧ W.cell? ⟨b, off + j * 4 + 2, none⟩ = some (.int .i64 p.c) ∧ W.cell? ⟨b, off + j * 4 + 3, none⟩ = some (.int .i64 p.r)) (first | go_keep | (refine ⟨?_, ?_, ?_, ?_, ?_, ?_, ?_, ?_⟩ <;> (rw [hbc.cell (by assumption)]; assumption))) (first | (go_at_call 114; refine (HORD.out _).mono ?_; rintro e w2 ⟨rfl, hbc⟩))
        go_wp2
        exact ⟨⟨k + 1, by omega, by omega, by go_num, next_true HNO.out HAT.out, hb.drew.trans (hbc.mono hb.size)⟩, by simp [intOf]; omega⟩
      · have hx1 : (0 : Int) ≤ x := by omega
        rw [decide_eq_false hx0] at HAT
        have hf : ascB ordL ls = false := all_false hlt HAT.out
        have HF := hide hf
        clear hf
        go_wp2
        go_region_held3 (fun W => W.cell? ⟨b, off + k * 4, none⟩ = some (.int .i64 l.a) ∧ W.cell? ⟨b, off + k * 4 + 1, none⟩ = some (.int .i64 l.b) ∧ W.cell? ⟨b, off + k * 4 + 2, none⟩ = some (.int .i64 l.c) ∧ W.cell? ⟨b, off + k * 4 + 3, none⟩ = some (.int .i64 l.r) ∧ W.cell? ⟨b, off + j * 4, none⟩ = some (.int .i64 p.a) ∧ W.cell? ⟨b, off + j * 4 + 1, none⟩ = some (.int .i64 p.b) ∧ W.cell? ⟨b, off + j * 4 + 2, none⟩ = some (.int .i64 p.c) ∧ W.cell? ⟨b, off + j * 4 + 3, none⟩ = some (.int .i64 p.r)) (first | go_keep | (refine ⟨?_, ?_, ?_, ?_, ?_, ?_, ?_, ?_⟩ <;> (rw [hbc.cell (by assumption)]; assumption))) (first | (go_at_call 114; refine (HORD.out _).mono ?_; rintro e w2 ⟨rfl, hbc⟩))
        go_wp2
        go_ret
        exact ⟨ret_bool HF.out, hb.drew.trans (hbc.mono hb.size)⟩
    · have hall : ascB ordL ls = true := all_true fun i hi => HNO.out i (by omega)
      have HA := hide hall
      clear hall
      go_wp2
      go_ret
      exact ⟨ret_bool HA.out, hb⟩
set_option maxRecDepth 100000 in
set_option maxHeartbeats 4000000 in
theorem ascT_any (v : Value) (ls : List Th) (w : World) (hls : ls.length ≤ 1048576) (hv : ThingsAt w v ls w.heap.size) :
    Calls Tryz.prog 115 #[v, .func (.func 116) #[] #[]] w fun e w' => e = .returned (.bool (ascB ordT ls)) ∧ Below w.heap.size w w' := by
  obtain ⟨a, cap, rfl⟩ := hv.shape
  have HV := hide hv
  clear hv
  go_enter Tryz.func115, Tryz.ntmps115
  go_wp2
  go_loopw [5] (fun i wr => ∃ k : Nat, 1 ≤ k ∧ (k ≤ ls.length ∨ k = 1) ∧ i = .int .i64 k ∧ (∀ j, j < k → ascAt ordT ls j = true) ∧ Below w.heap.size w wr) (fun i _ => ls.length + 1 - (intOf i).toNat)
  case atStart => exact ⟨1, by omega, by omega, rfl, fun j hj => by obtain rfl : j = 0 := by omega
                                                                    rfl, Below.refl _ _⟩
  case round =>
    obtain ⟨k, hk1, hk, rfl, hno, hb⟩ := hrel
    have HNO := hide hno
    clear hno
    by_cases hlt : k < ls.length
    · obtain ⟨l, hl⟩ : ∃ l, ls[k]? = some l := ⟨ls[k], List.getElem?_eq_getElem hlt⟩
      obtain ⟨j, hj⟩ : ∃ j, k = j + 1 := ⟨k - 1, by omega⟩
      obtain ⟨p, hp⟩ : ∃ p, ls[j]? = some p := ⟨ls[j], List.getElem?_eq_getElem (by omega)⟩
      obtain ⟨b, off, cap', hve, hbb, c0, c1, c2, c3⟩ := HV.out.cells k l hl
      cases hve
      obtain ⟨b', off', cap2, hve2, hbb2, d0, d1, d2, d3⟩ := HV.out.cells j p hp
      cases hve2
      rw [← hb.cell (p := ⟨b, off + k * 4, none⟩) hbb] at c0
      rw [← hb.cell (p := ⟨b, off + k * 4 + 1, none⟩) hbb] at c1
      rw [← hb.cell (p := ⟨b, off + k * 4 + 2, none⟩) hbb] at c2
      rw [← hb.cell (p := ⟨b, off + k * 4 + 3, none⟩) hbb] at c3
      rw [← hb.cell (p := ⟨b, off + j * 4, none⟩) hbb] at d0
      rw [← hb.cell (p := ⟨b, off + j * 4 + 1, none⟩) hbb] at d1
      rw [← hb.cell (p := ⟨b, off + j * 4 + 2, none⟩) hbb] at d2
      rw [← hb.cell (p := ⟨b, off + j * 4 + 3, none⟩) hbb] at d3
      have hat : ascAt ordT ls k = decide (ordT p l < 0) := by rw [hj]; exact ascAt_eq hp (by rw [← hj]; exact hl)
      have hzr := hb.size
      have hbr : b < wr.heap.size := by omega
      have hki : (0 : Int) ≤ (k : Int) := by omega
      have hkj : (k : Int) < (ls.length : Int) := by omega
      have hj1 : (k : Int) - 1 = (j : Int) := by omega
      have hj2 : (0 : Int) ≤ (j : Int) := by omega
      have hj3 : (j : Int) < (ls.length : Int) := by omega
      have hj5 : IntKind.i64.wrap (j : Int) = (j : Int) := wrap_fit _ (by omega) (by omega)
      have HORD := hide (ordT_any p l)
      have HAT := hide hat
      have HJ := hide hj
      clear hl hp hat hj
      obtain ⟨x, hx⟩ : ∃ x, x = ordT p l := ⟨_, rfl⟩
      rw [← hx] at HORD HAT
      clear hx
      unfold thV at HORD
      by_cases hx0 : x < 0
      · have hx1 : ¬ (0 : Int) ≤ x := by omega
        rw [decide_eq_true hx0] at HAT
        go_wp2
        go_region_held3 (fun W => W.cell? ⟨b, off + k * 4, none⟩ = some (.int .i64 l.o) ∧ W.cell? ⟨b, off + k * 4 + 1, none⟩ = some (.int .i64 l.k) ∧ W.cell? ⟨b, off + k * 4 + 2, none⟩ = some (.int .i64 l.c) ∧ W.cell? ⟨b, off + k * 4 + 3, none⟩ = some (.bool l.f) ∧ W.cell? ⟨b, off + j * 4, none⟩ = some (.int .i64 p.o) ∧ W.cell? ⟨b, off + j * 4 + 1, none⟩ = some (.int .i64 p.k) ∧ W.cell? ⟨b, off + j * 4 + 2, none⟩ = some (.int .i64 p.c) ∧ W.cell? ⟨b, off + j * 4 + 3, none⟩ = some (.bool p.f)) (first | go_keep | (refine ⟨?_, ?_, ?_, ?_, ?_, ?_, ?_, ?_⟩ <;> (rw [hbc.cell (by assumption)]; assumption))) (first | (go_at_call 116; refine (HORD.out _).mono ?_; rintro e w2 ⟨rfl, hbc⟩))
        go_wp2
        exact ⟨⟨k + 1, by omega, by omega, by go_num, next_true HNO.out HAT.out, hb.drew.trans (hbc.mono hb.size)⟩, by simp [intOf]; omega⟩
      · have hx1 : (0 : Int) ≤ x := by omega
        rw [decide_eq_false hx0] at HAT
        have hf : ascB ordT ls = false := all_false hlt HAT.out
        have HF := hide hf
        clear hf
        go_wp2
        go_region_held3 (fun W => W.cell? ⟨b, off + k * 4, none⟩ = some (.int .i64 l.o) ∧ W.cell? ⟨b, off + k * 4 + 1, none⟩ = some (.int .i64 l.k) ∧ W.cell? ⟨b, off + k * 4 + 2, none⟩ = some (.int .i64 l.c) ∧ W.cell? ⟨b, off + k * 4 + 3, none⟩ = some (.bool l.f) ∧ W.cell? ⟨b, off + j * 4, none⟩ = some (.int .i64 p.o) ∧ W.cell? ⟨b, off + j * 4 + 1, none⟩ = some (.int .i64 p.k) ∧ W.cell? ⟨b, off + j * 4 + 2, none⟩ = some (.int .i64 p.c) ∧ W.cell? ⟨b, off + j * 4 + 3, none⟩ = some (.bool p.f)) (first | go_keep | (refine ⟨?_, ?_, ?_, ?_, ?_, ?_, ?_, ?_⟩ <;> (rw [hbc.cell (by assumption)]; assumption))) (first | (go_at_call 116; refine (HORD.out _).mono ?_; rintro e w2 ⟨rfl, hbc⟩))
        go_wp2
        go_ret
        exact ⟨ret_bool HF.out, hb.drew.trans (hbc.mono hb.size)⟩
    · have hall : ascB ordT ls = true := all_true fun i hi => HNO.out i (by omega)
      have HA := hide hall
      clear hall
      go_wp2
      go_ret
      exact ⟨ret_bool HA.out, hb⟩
end Go.Proofs.YtcimbiinljcifaaGreat
namespace Go.Proofs.YtcimbiinljcifaaGreat
open Go.RowKit

def linksB (n : Int) (ls : List Lk) : Bool := decide (ls.length ≤ 12) && allOk (linkOkB n) ls && ascB ordL ls

set_option maxRecDepth 100000 in
set_option maxHeartbeats 4000000 in
theorem linksOk_any (n : Int) (v : Value) (ls : List Lk) (w : World) (hls : ls.length ≤ 1048576) (hv : LinksAt w v ls w.heap.size) :
    Calls Tryz.prog 75 #[.int .i64 n, v] w fun e w' => e = .returned (.bool (linksB n ls)) ∧ Below w.heap.size w w' := by
  obtain ⟨a, cap, rfl⟩ := hv.shape
  have HV := hide hv
  clear hv
  by_cases h12 : ls.length ≤ 12
  case neg =>
    have hno : linksB n ls = false := by unfold linksB; rw [decide_eq_false h12]; rfl
    rw [hno]
    have h12' : (12 : Int) < (ls.length : Int) := by omega
    clear hno
    go_enter Tryz.func75, Tryz.ntmps75
    go_wp2
    go_ret
    exact ⟨rfl, Below.refl _ _⟩
  have h12' : ¬ (12 : Int) < (ls.length : Int) := by omega
  have hB : linksB n ls = (allOk (linkOkB n) ls && ascB ordL ls) := by unfold linksB; rw [decide_eq_true h12]; rfl
  have HB := hide hB
  clear hB
  go_enter Tryz.func75, Tryz.ntmps75
  go_wp2
  go_loopw [12] (fun i wr => ∃ k : Nat, k ≤ ls.length ∧ i = .int .i64 k ∧ (∀ j, j < k → okAt (linkOkB n) ls j = true) ∧ Below w.heap.size w wr) (fun i _ => ls.length - (intOf i).toNat)
  case atStart => exact ⟨0, by omega, rfl, by omega, Below.refl _ _⟩
  case round =>
    obtain ⟨k, hk, rfl, hno, hb⟩ := hrel
    have HNO := hide hno
    clear hno
    by_cases hlt : k < ls.length
    · obtain ⟨l, hl⟩ : ∃ l, ls[k]? = some l := ⟨ls[k], List.getElem?_eq_getElem hlt⟩
      obtain ⟨b, off, cap', hve, hbb, c0, c1, c2, c3⟩ := HV.out.cells k l hl
      cases hve
      rw [← hb.cell (p := ⟨b, off + k * 4, none⟩) hbb] at c0
      rw [← hb.cell (p := ⟨b, off + k * 4 + 1, none⟩) hbb] at c1
      rw [← hb.cell (p := ⟨b, off + k * 4 + 2, none⟩) hbb] at c2
      rw [← hb.cell (p := ⟨b, off + k * 4 + 3, none⟩) hbb] at c3
      have HAT := hide (okAt_eq (ok := linkOkB n) hl)
      have HOK := hide (ilinkOk_any n l)
      clear hl
      obtain ⟨q, hq⟩ : ∃ q, q = linkOkB n l := ⟨_, rfl⟩
      rw [← hq] at HAT HOK
      unfold lkV at HOK
      clear hq
      have hzr := hb.size
      go_wp2_with fail
      refine (HOK.out _).mono ?_
      rintro e w2 ⟨rfl, hbc⟩
      have B2 : Below w.heap.size w w2 := (hb.alloc hb.size _).trans (hbc.mono (by simp; omega))
      cases q
      · have hf : linksB n ls = false := by rw [HB.out]; unfold allOk; rw [all_false hlt HAT.out]; rfl
        have HF := hide hf
        clear hf
        go_wp2
        go_ret
        exact ⟨ret_bool HF.out, B2⟩
      · go_wp2
        exact ⟨⟨k + 1, by omega, by go_num, next_true HNO.out HAT.out, B2⟩, by simp [intOf]; omega⟩
    · have hall : allOk (linkOkB n) ls = true := all_true fun i hi => HNO.out i (by omega)
      have hF : linksB n ls = ascB ordL ls := by rw [HB.out, hall]; rfl
      have HF := hide hF
      clear hF hall
      have HVR := hide (HV.out.then hb)
      go_wp2_with fail
      refine (ascL_any _ ls _ hls HVR.out).mono ?_
      rintro e w2 ⟨rfl, hbc⟩
      go_wp2
      go_ret
      exact ⟨ret_bool HF.out, hb.trans (hbc.mono hb.size)⟩
def thOkB (n : Int) (t : Th) : Bool := inB t.k 1 9 && inB t.o 1 n && inB t.c 1 1000

def thingsB (n : Int) (ls : List Th) : Bool := decide (ls.length ≤ 4) && allOk (thOkB n) ls && ascB ordT ls

set_option maxRecDepth 100000 in
set_option maxHeartbeats 4000000 in
theorem thingsOk_any (n : Int) (v : Value) (ls : List Th) (w : World) (hls : ls.length ≤ 1048576) (hv : ThingsAt w v ls w.heap.size) :
    Calls Tryz.prog 76 #[.int .i64 n, v] w fun e w' => e = .returned (.bool (thingsB n ls)) ∧ Below w.heap.size w w' := by
  obtain ⟨a, cap, rfl⟩ := hv.shape
  have HV := hide hv
  clear hv
  by_cases h12 : ls.length ≤ 4
  case neg =>
    have hno : thingsB n ls = false := by unfold thingsB; rw [decide_eq_false h12]; rfl
    rw [hno]
    have h12' : (4 : Int) < (ls.length : Int) := by omega
    clear hno
    go_enter Tryz.func76, Tryz.ntmps76
    go_wp2
    go_ret
    exact ⟨rfl, Below.refl _ _⟩
  have h12' : ¬ (4 : Int) < (ls.length : Int) := by omega
  have hB : thingsB n ls = (allOk (thOkB n) ls && ascB ordT ls) := by unfold thingsB; rw [decide_eq_true h12]; rfl
  have HB := hide hB
  clear hB
  go_enter Tryz.func76, Tryz.ntmps76
  go_wp2
  go_loopw [12] (fun i wr => ∃ k : Nat, k ≤ ls.length ∧ i = .int .i64 k ∧ (∀ j, j < k → okAt (thOkB n) ls j = true) ∧ Below w.heap.size w wr) (fun i _ => ls.length - (intOf i).toNat)
  case atStart => exact ⟨0, by omega, rfl, by omega, Below.refl _ _⟩
  case round =>
    obtain ⟨k, hk, rfl, hno, hb⟩ := hrel
    have HNO := hide hno
    clear hno
    by_cases hlt : k < ls.length
    · obtain ⟨l, hl⟩ : ∃ l, ls[k]? = some l := ⟨ls[k], List.getElem?_eq_getElem hlt⟩
      obtain ⟨b, off, cap', hve, hbb, c0, c1, c2, c3⟩ := HV.out.cells k l hl
      cases hve
      rw [← hb.cell (p := ⟨b, off + k * 4, none⟩) hbb] at c0
      rw [← hb.cell (p := ⟨b, off + k * 4 + 1, none⟩) hbb] at c1
      rw [← hb.cell (p := ⟨b, off + k * 4 + 2, none⟩) hbb] at c2
      rw [← hb.cell (p := ⟨b, off + k * 4 + 3, none⟩) hbb] at c3
      have HAT := hide (okAt_eq (ok := thOkB n) hl)
      obtain ⟨q1, hq1⟩ : ∃ q, q = inB l.k 1 9 := ⟨_, rfl⟩
      obtain ⟨q2, hq2⟩ : ∃ q, q = inB l.o 1 n := ⟨_, rfl⟩
      obtain ⟨q3, hq3⟩ : ∃ q, q = inB l.c 1 1000 := ⟨_, rfl⟩
      have hok : thOkB n l = (q1 && q2 && q3) := by unfold thOkB; rw [hq1, hq2, hq3]
      have H1 := hide (isIn_any l.k 1 9)
      have H2 := hide (isIn_any l.o 1 n)
      have H3 := hide (isIn_any l.c 1 1000)
      rw [← hq1] at H1
      rw [← hq2] at H2
      rw [← hq3] at H3
      rw [hok] at HAT
      clear hl hq1 hq2 hq3 hok
      have hzr := hb.size
      have B2 : Below w.heap.size w (wr.alloc (.cells #[.int .i64 l.o, .int .i64 l.k, .int .i64 l.c, .bool l.f] 131)) := hb.alloc hb.size _
      cases q1
      · have hf : thingsB n ls = false := by rw [HB.out]; unfold allOk; rw [all_false hlt HAT.out]; rfl
        have HF := hide hf
        clear hf
        go_wp2_with fail
        refine (H1.out _).mono ?_
        rintro e w2 ⟨rfl, rfl⟩
        go_wp2
        go_ret
        exact ⟨ret_bool HF.out, B2⟩
      cases q2
      · have hf : thingsB n ls = false := by rw [HB.out]; unfold allOk; rw [all_false hlt HAT.out]; rfl
        have HF := hide hf
        clear hf
        go_wp2_with fail
        refine (H1.out _).mono ?_
        rintro e w2 ⟨rfl, rfl⟩
        go_wp2_with fail
        refine (H2.out _).mono ?_
        rintro e w2 ⟨rfl, rfl⟩
        go_wp2
        go_ret
        exact ⟨ret_bool HF.out, B2⟩
      cases q3
      · have hf : thingsB n ls = false := by rw [HB.out]; unfold allOk; rw [all_false hlt HAT.out]; rfl
        have HF := hide hf
        clear hf
        go_wp2_with fail
        refine (H1.out _).mono ?_
        rintro e w2 ⟨rfl, rfl⟩
        go_wp2_with fail
        refine (H2.out _).mono ?_
        rintro e w2 ⟨rfl, rfl⟩
        go_wp2_with fail
        refine (H3.out _).mono ?_
        rintro e w2 ⟨rfl, rfl⟩
        go_wp2
        go_ret
        exact ⟨ret_bool HF.out, B2⟩
      · go_wp2_with fail
        refine (H1.out _).mono ?_
        rintro e w2 ⟨rfl, rfl⟩
        go_wp2_with fail
        refine (H2.out _).mono ?_
        rintro e w2 ⟨rfl, rfl⟩
        go_wp2_with fail
        refine (H3.out _).mono ?_
        rintro e w2 ⟨rfl, rfl⟩
        go_wp2
        exact ⟨⟨k + 1, by omega, by go_num, next_true HNO.out HAT.out, B2⟩, by simp [intOf]; omega⟩
    · have hall : allOk (thOkB n) ls = true := all_true fun i hi => HNO.out i (by omega)
      have hF : thingsB n ls = ascB ordT ls := by rw [HB.out, hall]; rfl
      have HF := hide hF
      clear hF hall
      have HVR := hide (HV.out.then hb)
      go_wp2_with fail
      refine (ascT_any _ ls _ hls HVR.out).mono ?_
      rintro e w2 ⟨rfl, hbc⟩
      go_wp2
      go_ret
      exact ⟨ret_bool HF.out, hb.trans (hbc.mono hb.size)⟩

def netOkI (x : NetD) : Bool := inB x.n 1 6 && linksB x.n x.ls && thingsB x.n x.ts

set_option maxRecDepth 100000 in
set_option maxHeartbeats 4000000 in
theorem inetOk_any (v : Value) (x : NetD) (w : World) (hl : x.ls.length ≤ 1048576) (ht : x.ts.length ≤ 1048576) (hv : NetAt w v x w.heap.size) :
    Calls Tryz.prog 36 #[v] w fun e w' => e = .returned (.bool (netOkI x)) ∧ Below w.heap.size w w' := by
  obtain ⟨n, ls, ts⟩ := x
  obtain ⟨v1, v2, rfl, h1, h2⟩ := hv
  simp only [] at h1 h2 hl ht ⊢
  obtain ⟨a1, c1, rfl⟩ := h1.shape
  obtain ⟨a2, c2, rfl⟩ := h2.shape
  obtain ⟨q1, hq1⟩ : ∃ q, q = inB n 1 6 := ⟨_, rfl⟩
  obtain ⟨q2, hq2⟩ : ∃ q, q = linksB n ls := ⟨_, rfl⟩
  obtain ⟨q3, hq3⟩ : ∃ q, q = thingsB n ts := ⟨_, rfl⟩
  have hok : netOkI ⟨n, ls, ts⟩ = (q1 && q2 && q3) := by unfold netOkI; rw [hq1, hq2, hq3]
  rw [hok]
  have HIN := hide (isIn_any n 1 6)
  rw [← hq1] at HIN
  have HL := hide (fun W (h : Below w.heap.size w W) => linksOk_any n _ ls W hl (h1.then h))
  have HT := hide (fun W (h : Below w.heap.size w W) => thingsOk_any n _ ts W ht (h2.then h))
  rw [← hq2] at HL
  rw [← hq3] at HT
  clear hq1 hq2 hq3 hok h1 h2
  have B0 : Below w.heap.size w (w.alloc (.cells #[.int .i64 n, .slice a1 ls.length c1, .slice a2 ts.length c2] 27)) := (Below.refl _ _).alloc (Nat.le_refl _) _
  have hnew := heap_alloc_new w (.cells #[.int .i64 n, .slice a1 ls.length c1, .slice a2 ts.length c2] 27)
  have NEW := hide hnew
  clear hnew
  cases q1
  · go_enter Tryz.func36, Tryz.ntmps36
    go_wp2_with fail
    refine (HIN.out _).mono ?_
    rintro e w1 ⟨rfl, rfl⟩
    go_wp2
    go_ret
    exact ⟨by simp, B0⟩
  cases q2
  · go_enter Tryz.func36, Tryz.ntmps36
    go_wp2_with fail
    refine (HIN.out _).mono ?_
    rintro e w1 ⟨rfl, rfl⟩
    go_wp2_with fail
    refine (HL.out _ B0).mono ?_
    rintro e w1 ⟨rfl, b1⟩
    go_wp2
    go_ret
    exact ⟨by simp, B0.trans (b1.mono B0.size)⟩
  · go_enter Tryz.func36, Tryz.ntmps36
    go_wp2_with fail
    refine (HIN.out _).mono ?_
    rintro e w1 ⟨rfl, rfl⟩
    go_wp2_with fail
    refine (HL.out _ B0).mono ?_
    rintro e w1 ⟨rfl, b1⟩
    have g1 : w1.heap[w.heap.size]? = some (.cells #[.int .i64 n, .slice a1 ls.length c1, .slice a2 ts.length c2] 27) := by rw [b1.block _ (by simp)]; exact NEW.out
    have B1 : Below w.heap.size w w1 := B0.trans (b1.mono B0.size)
    have s0 := cells_at g1 0
    have s2 := cells_at g1 2
    simp at s0 s2
    clear g1 b1 B0
    go_wp2_with fail
    refine (HT.out _ B1).mono ?_
    rintro e w2 ⟨rfl, b2⟩
    go_wp2
    go_ret
    exact ⟨by simp, B1.trans (b2.mono B1.size)⟩
end Go.Proofs.YtcimbiinljcifaaGreat
namespace Go.Proofs.YtcimbiinljcifaaGreat
open Go.RowKit

/-- two numbers each -/
def pairsOf : List Int → List (Int × Int)
  | a :: b :: l => (a, b) :: pairsOf l
  | _ => []

theorem pairs_len : ∀ l : List Int, (pairsOf l).length = l.length / 2
  | [] => rfl
  | [_] => by simp [pairsOf]
  | a :: b :: l => by
    simp only [pairsOf, List.length_cons, pairs_len l]
    omega

theorem pairs_at : ∀ (l : List Int) (i : Nat) (a b : Int), l[2 * i]? = some a → l[2 * i + 1]? = some b → (pairsOf l)[i]? = some (a, b)
  | [], _, _, _, h, _ => by simp at h
  | [_], 0, _, _, _, h => by simp at h
  | [_], i + 1, _, _, h, _ => by simp at h
  | x :: y :: l, 0, a, b, h1, h2 => by
    simp at h1 h2
    simp [pairsOf, h1, h2]
  | x :: y :: l, i + 1, a, b, h1, h2 => by
    have e1 : 2 * (i + 1) = 2 * i + 1 + 1 := by omega
    rw [e1] at h1 h2
    simp only [List.getElem?_cons_succ] at h1 h2
    simp only [pairsOf, List.getElem?_cons_succ]
    exact pairs_at l i a b h1 h2

theorem pairs_take (l : List Int) (i : Nat) (a b : Int) (h1 : l[2 * i]? = some a) (h2 : l[2 * i + 1]? = some b) : (pairsOf l).take (i + 1) = (pairsOf l).take i ++ [(a, b)] := by
  have h := pairs_at l i a b h1 h2
  obtain ⟨hi, e⟩ := List.getElem?_eq_some_iff.1 h
  rw [List.take_succ_eq_append_getElem hi, e]

/-- by node, then by area -/
def ordH (p q : Int × Int) : Int := orN [cmpN p.1 q.1, cmpN p.2 q.2]

theorem ordH_lt (p q : Int × Int) : ordH p q < 0 ↔ p.1 < q.1 ∨ (p.1 = q.1 ∧ p.2 < q.2) := by
  unfold ordH cmpN
  simp only [orN]
  rcases Int.lt_trichotomy p.1 q.1 with h | h | h
  · simp [h]
  · rcases Int.lt_trichotomy p.2 q.2 with h2 | h2 | h2
    · simp [h, h2]
    · simp [h, h2]
    · have h3 : ¬ p.2 < q.2 := by omega
      simp [h, h2, h3]
  · have h3 : ¬ p.1 < q.1 := by omega
    have h4 : ¬ p.1 = q.1 := by omega
    simp [h, h3, h4]

def hitP (ls : List Lk) (id : Int) (e : Int × Int) : Bool := !(costN ls id e.1 e.2 == 0)

/-- what impl's heardOk answers -/
def heardB (ls : List Lk) (id : Int) (h : List Int) : Bool := (pairsOf h).all (hitP ls id) && (decide (h.length % 2 = 0) && ascB ordH (pairsOf h))

theorem asc_len : ∀ (l : List Int) (a b : Int), l.Pairwise (· < ·) → (∀ x ∈ l, a ≤ x ∧ x ≤ b) → (l.length : Int) ≤ max 0 (b - a + 1)
  | [], _, _, _, _ => by simp; omega
  | x :: l, a, b, hp, hx => by
    rw [List.pairwise_cons] at hp
    have h1 := hx x (by simp)
    have h2 := asc_len l (x + 1) b hp.2 (fun y hy => ⟨by have := hp.1 y hy; omega, (hx y (by simp [hy])).2⟩)
    simp only [List.length_cons]
    omega

theorem chain_asc {l : List (Int × Int)} (h : ascB ordH l = true) : ∀ (d i : Nat) (p q : Int × Int), l[i]? = some p → l[i + d + 1]? = some q → p.1 < q.1 ∨ (p.1 = q.1 ∧ p.2 < q.2)
  | 0, i, p, q, hp, hq => by
    obtain ⟨hl, _⟩ := List.getElem?_eq_some_iff.1 hq
    have h1 := List.all_eq_true.1 h (i + 1) (List.mem_range.2 hl)
    rw [ascAt_eq hp hq] at h1
    exact (ordH_lt p q).1 (by simpa using h1)
  | d + 1, i, p, q, hp, hq => by
    obtain ⟨hl, _⟩ := List.getElem?_eq_some_iff.1 hq
    obtain ⟨m, hm⟩ : ∃ m, l[i + d + 1]? = some m := ⟨l[i + d + 1]'(by omega), List.getElem?_eq_getElem (by omega)⟩
    have h1 := chain_asc h d i p m hp hm
    have h2 := List.all_eq_true.1 h (i + d + 1 + 1) (List.mem_range.2 hl)
    rw [ascAt_eq hm hq] at h2
    have h3 := (ordH_lt m q).1 (by simpa using h2)
    omega

theorem cost_hits {ls : List Lk} {f t r : Int} (h : costN ls f t r ≠ 0) : ∃ l ∈ ls, lkHit f t r l = true := by
  unfold costN at h
  cases e : ls.find? (lkHit f t r) with
  | none => rw [e] at h; simp at h
  | some l => exact ⟨l, List.mem_of_find?_eq_some e, List.find?_some e⟩

theorem linksOf_ok {n : Int} {ls : List Lk} (h : linksB n ls = true) : ∀ l ∈ ls, linkOkB n l = true := by
  intro l hl
  unfold linksB at h
  simp only [Bool.and_eq_true] at h
  obtain ⟨i, hi, e⟩ := List.mem_iff_getElem.1 hl
  have h1 := List.all_eq_true.1 h.1.2 i (List.mem_range.2 hi)
  rw [okAt_eq (List.getElem?_eq_getElem hi), e] at h1
  exact h1

/-- a right node hears no more than 18 -/
theorem heard_short {x : NetD} {id : Int} {h : List Int} (hn : netOkI x = true) (hh : heardB x.ls id h = true) : h.length ≤ 60 := by
  unfold heardB at hh
  simp only [Bool.and_eq_true, decide_eq_true_eq] at hh
  obtain ⟨h1, h2, h3⟩ := hh
  have hn2 := hn
  simp only [netOkI, Bool.and_eq_true] at hn2
  have hnn : 1 ≤ x.n ∧ x.n ≤ 6 := by
    have := hn2.1.1
    simp only [inB, Bool.and_eq_true, decide_eq_true_eq] at this
    exact this
  have hlk := linksOf_ok hn2.1.2
  have hrange : ∀ e ∈ pairsOf h, 1 ≤ e.1 ∧ e.1 ≤ 6 ∧ 0 ≤ e.2 ∧ e.2 ≤ 2 := by
    intro e he
    have hc := List.all_eq_true.1 h1 e he
    unfold hitP at hc
    obtain ⟨l, hl, hit⟩ := cost_hits (by simpa using hc)
    have hok := hlk l hl
    simp only [linkOkB, inB, Bool.and_eq_true, decide_eq_true_eq] at hok
    simp only [lkHit, Bool.and_eq_true, Bool.or_eq_true, beq_iff_eq] at hit
    omega
  have hp : ((pairsOf h).map (fun e => 3 * e.1 + e.2)).Pairwise (· < ·) := by
    rw [List.pairwise_map, List.pairwise_iff_getElem]
    intro i j hi hj hij
    have hc := chain_asc h3 (j - i - 1) i _ _ (List.getElem?_eq_getElem hi) (by rw [show i + (j - i - 1) + 1 = j by omega]; exact List.getElem?_eq_getElem hj)
    have r1 := hrange _ (List.getElem_mem hi)
    have r2 := hrange _ (List.getElem_mem hj)
    omega
  have hl := asc_len _ 3 20 hp (fun y hy => by
    obtain ⟨e, he, rfl⟩ := List.mem_map.1 hy
    have := hrange e he
    omega)
  rw [List.length_map, pairs_len] at hl
  omega
end Go.Proofs.YtcimbiinljcifaaGreat
namespace Go.Proofs.YtcimbiinljcifaaGreat
open Go.RowKit

def bothV (l : Lk) : Value := .agg #[.int .i64 l.a, .int .i64 l.b, .int .i64 l.c, .int .i64 l.r, .int .i64 l.b, .int .i64 l.a, .int .i64 l.c, .int .i64 l.r]

set_option maxRecDepth 100000 in
set_option maxHeartbeats 2000000 in
theorem both_any (l : Lk) (w : World) : Calls Tryz.prog 117 #[lkV l] w fun e w' => e = .returned (bothV l) ∧ Below w.heap.size w w' := by
  obtain ⟨a, b, c, r⟩ := l
  unfold lkV bothV
  go_enter Tryz.func117, Tryz.ntmps117
  go_wp2
  go_returns
  exact ⟨rfl, below_three _ _ _⟩

set_option maxRecDepth 100000 in
theorem run_both0 (w : World) (x0 x1 x2 x3 x4 x5 x6 x7 : Value) : (Instr.index 152 (.agg #[x0, x1, x2, x3, x4, x5, x6, x7]) (.int .i64 0)).run Tryz.prog w = .ok (.agg #[x0, x1, x2, x3]) w := by
  rfl

set_option maxRecDepth 100000 in
theorem run_both1 (w : World) (x0 x1 x2 x3 x4 x5 x6 x7 : Value) : (Instr.index 152 (.agg #[x0, x1, x2, x3, x4, x5, x6, x7]) (.int .i64 1)).run Tryz.prog w = .ok (.agg #[x4, x5, x6, x7]) w := by
  rfl

set_option maxRecDepth 100000 in
theorem run_same (w : World) (a b c d a' b' c' d' : Int) : (binOp .eql 127 (.agg #[.int .i64 a, .int .i64 b, .int .i64 c, .int .i64 d]) (.agg #[.int .i64 a', .int .i64 b', .int .i64 c', .int .i64 d'])).run Tryz.prog w = .ok (.bool (decide (a = a' ∧ b = b' ∧ c = c' ∧ d = d'))) w := by
  go_simp
  by_cases h1 : a = a' <;> by_cases h2 : b = b' <;> by_cases h3 : c = c' <;> by_cases h4 : d = d' <;> simp [h1, h2, h3, h4]

theorem same_yes {f t r la lb lc lr : Int} (h : la = f ∧ lb = t ∧ lr = r) (W : World) : (binOp .eql 127 (.agg #[.int .i64 la, .int .i64 lb, .int .i64 lc, .int .i64 lr]) (.agg #[.int .i64 f, .int .i64 t, .int .i64 lc, .int .i64 r])).run Tryz.prog W = .ok (.bool true) W := by
  rw [run_same, decide_eq_true ⟨h.1, h.2.1, rfl, h.2.2⟩]

theorem same_no {f t r la lb lc lr : Int} (h : ¬ (la = f ∧ lb = t ∧ lr = r)) (W : World) : (binOp .eql 127 (.agg #[.int .i64 la, .int .i64 lb, .int .i64 lc, .int .i64 lr]) (.agg #[.int .i64 f, .int .i64 t, .int .i64 lc, .int .i64 r])).run Tryz.prog W = .ok (.bool false) W := by
  rw [run_same, decide_eq_false (fun g => h ⟨g.1, g.2.1, g.2.2.2⟩)]

set_option maxRecDepth 100000 in
set_option maxHeartbeats 4000000 in
theorem icost_any (n : Value) (v tv : Value) (ls : List Lk) (f t r : Int) (w : World) (hls : ls.length ≤ 1048576) (hv : LinksAt w v ls w.heap.size) :
    Calls Tryz.prog 78 #[.agg #[n, v, tv], .int .i64 f, .int .i64 t, .int .i64 r] w fun e w' => e = .returned (.int .i64 (costN ls f t r)) ∧ Below w.heap.size w w' := by
  obtain ⟨a, cap, rfl⟩ : ∃ a cap, v = .slice a ls.length cap := by obtain ⟨a, cap, h, _⟩ := hv; exact ⟨a, cap, h⟩
  have HV := hide hv
  clear hv
  go_enter Tryz.func78, Tryz.ntmps78
  go_wp2
  go_loopw [17] (fun i wr => ∃ k : Nat, k ≤ ls.length ∧ i = .int .i64 k ∧ (∀ j, j < k → ∀ l, ls[j]? = some l → lkHit f t r l = false) ∧ Below w.heap.size w wr) (fun i _ => ls.length - (intOf i).toNat)
  case atStart => exact ⟨0, by omega, rfl, by omega, (Below.refl _ _).alloc (Nat.le_refl _) _⟩
  case round =>
    obtain ⟨k, hk, rfl, hno, hb⟩ := hrel
    have HNO := hide hno
    clear hno
    by_cases hlt : k < ls.length
    · obtain ⟨l, hl⟩ : ∃ l, ls[k]? = some l := ⟨ls[k], List.getElem?_eq_getElem hlt⟩
      obtain ⟨b, off, cap', hve, hbb, c0, c1, c2, c3⟩ := HV.out.cells k l hl
      cases hve
      rw [← hb.cell (p := ⟨b, off + k * 4, none⟩) hbb] at c0
      rw [← hb.cell (p := ⟨b, off + k * 4 + 1, none⟩) hbb] at c1
      rw [← hb.cell (p := ⟨b, off + k * 4 + 2, none⟩) hbb] at c2
      rw [← hb.cell (p := ⟨b, off + k * 4 + 3, none⟩) hbb] at c3
      have HL := hide hl
      have hbo := both_any l
      clear hl
      obtain ⟨la, lb, lc, lr⟩ := l
      unfold bothV lkV at hbo
      simp only [] at hbo
      have HBO := hide hbo
      clear hbo
      go_wp2_with fail
      refine (HBO.out _).mono ?_
      rintro e w1 ⟨rfl, b1⟩
      have hp : w1.heap[wr.heap.size]? = some (.cells #[.int .i64 la, .int .i64 lb, .int .i64 lc, .int .i64 lr] 127) := by
        rw [b1.block _ (by simp; omega), Below.heap_alloc _ _ _ (by simp), heap_alloc_new]
      have hq : w1.heap[wr.heap.size + 1]? = some (.cells #[.int .i64 f, .int .i64 t, .int .i64 lc, .int .i64 r] 127) := by
        rw [b1.block _ (by simp)]
        have := heap_alloc_new (wr.alloc (.cells #[.int .i64 la, .int .i64 lb, .int .i64 lc, .int .i64 lr] 127)) (.cells #[.int .i64 f, .int .i64 t, .int .i64 lc, .int .i64 r] 127)
        simpa using this
      have hbr := hb.size
      have B1 : Below w.heap.size w w1 := (hb.trans ((below_two _ _).mono hb.size)).trans (b1.mono (by simp; omega))
      have HP := hide hp
      have HQ := hide hq
      clear hp hq b1 c0 c1 c2 c3 hb
      obtain ⟨z, hz⟩ : ∃ z, z = wr.heap.size := ⟨_, rfl⟩
      rw [← hz] at HP HQ hbr ⊢
      clear hz wr
      go_wp2
      go_loopw [29] (fun i wr => ∃ j : Nat, j ≤ 2 ∧ i = .int .i64 j ∧ (1 ≤ j → ¬ (la = f ∧ lb = t ∧ lr = r)) ∧ (2 ≤ j → ¬ (lb = f ∧ la = t ∧ lr = r)) ∧ Below w.heap.size w wr ∧ wr.heap[z]? = some (.cells #[.int .i64 la, .int .i64 lb, .int .i64 lc, .int .i64 lr] 127) ∧ wr.heap[z + 1]? = some (.cells #[.int .i64 f, .int .i64 t, .int .i64 lc, .int .i64 r] 127)) (fun i _ => 2 - (intOf i).toNat)
      case atStart => exact ⟨0, by omega, rfl, by omega, by omega, B1, HP.out, HQ.out⟩
      case round =>
        obtain ⟨j, hj, rfl, hn1, hn2, hb, hp, hq⟩ := hrel
        have HN1 := hide hn1
        have HN2 := hide hn2
        have p0 := cells_at hp 0
        have p1 := cells_at hp 1
        have p2 := cells_at hp 2
        have p3 := cells_at hp 3
        have q0 := cells_at hq 0
        have q1 := cells_at hq 1
        have q2 := cells_at hq 2
        have q3 := cells_at hq 3
        simp at p0 p1 p2 p3 q0 q1 q2 q3
        have hz1 := lt_of_heap hq
        have hz0 := lt_of_heap hp
        have HP := hide hp
        have HQ := hide hq
        clear hn1 hn2 hp hq
        obtain rfl | rfl | rfl : j = 0 ∨ j = 1 ∨ j = 2 := by omega
        · have i0 := fun W => run_both0 W (.int .i64 la) (.int .i64 lb) (.int .i64 lc) (.int .i64 lr) (.int .i64 lb) (.int .i64 la) (.int .i64 lc) (.int .i64 lr)
          by_cases h : la = f ∧ lb = t ∧ lr = r
          · have e0 := same_yes (lc := lc) h
            have hh : lkHit f t r ⟨la, lb, lc, lr⟩ = true := by simp [lkHit, h.1, h.2.1, h.2.2]
            have HH := hide hh
            clear hh h
            go_wp2
            go_ret
            exact ⟨ret_int (cost_hit HNO.out HL.out HH.out).symm, hb.alloc hb.size _⟩
          · have e0 := same_no (lc := lc) h
            have HH := hide h
            clear h
            go_wp2
            go_roundw
            case rel => exact ⟨1, by omega, by go_num, fun _ => HH.out, by omega, hb.alloc hb.size _, by rw [Below.heap_alloc _ _ _ hz0]; exact HP.out, by rw [Below.heap_alloc _ _ _ hz1]; exact HQ.out⟩
            case measure => simp [intOf]
        · have i0 := fun W => run_both1 W (.int .i64 la) (.int .i64 lb) (.int .i64 lc) (.int .i64 lr) (.int .i64 lb) (.int .i64 la) (.int .i64 lc) (.int .i64 lr)
          by_cases h : lb = f ∧ la = t ∧ lr = r
          · have e0 := same_yes (lc := lc) h
            have hh : lkHit f t r ⟨la, lb, lc, lr⟩ = true := by simp [lkHit, h.1, h.2.1, h.2.2]
            have HH := hide hh
            clear hh h
            go_wp2
            go_ret
            exact ⟨ret_int (cost_hit HNO.out HL.out HH.out).symm, hb.alloc hb.size _⟩
          · have e0 := same_no (lc := lc) h
            have HH := hide h
            clear h
            go_wp2
            go_roundw
            case rel => exact ⟨2, by omega, by go_num, fun _ => HN1.out (by omega), fun _ => HH.out, hb.alloc hb.size _, by rw [Below.heap_alloc _ _ _ hz0]; exact HP.out, by rw [Below.heap_alloc _ _ _ hz1]; exact HQ.out⟩
            case measure => simp [intOf]
        · have hh : lkHit f t r ⟨la, lb, lc, lr⟩ = false := by
            have m1 := HN1.out (by omega)
            have m2 := HN2.out (by omega)
            simp only [lkHit]
            grind
          have HH := hide hh
          clear hh
          go_wp2
          exact ⟨⟨k + 1, by omega, by go_num, cost_next HNO.out HL.out HH.out, hb⟩, by simp [intOf]; omega⟩
    · have hk' : k = ls.length := by omega
      have HK := hide hk'
      clear hk'
      go_wp2
      go_ret
      exact ⟨ret_int (cost_none HNO.out HK.out).symm, hb⟩
end Go.Proofs.YtcimbiinljcifaaGreat
