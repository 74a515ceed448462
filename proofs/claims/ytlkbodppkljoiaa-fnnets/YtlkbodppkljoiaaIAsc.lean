/-
  impl.ascends of links and of things: their contracts.
-/
import Derived.Test.YtlkbodppkljoiaaIOrd
import Derived.Test.YtlkbodppkljoiaaILink
namespace Go.Proofs.Ytlkbodppkljoiaa
open Go.RowKit

def ascAt {α : Type} (ord : α → α → Int) (ls : List α) : Nat → Bool
  | 0 => true
  | k + 1 => match ls[k]?, ls[k + 1]? with
    | some p, some l => decide (ord p l < 0)
    | _, _ => true

theorem ascAt_eq {α : Type} {ord : α → α → Int} {ls : List α} {j : Nat} {p l : α} (hp : ls[j]? = some p) (hl : ls[j + 1]? = some l) : ascAt ord ls (j + 1) = decide (ord p l < 0) := by
  simp only [ascAt, hp, hl]

def ascB {α : Type} (ord : α → α → Int) (ls : List α) : Bool := (List.range ls.length).all (ascAt ord ls)

theorem all_false {n k : Nat} {p : Nat → Bool} (hk : k < n) (h : p k = false) : (List.range n).all p = false := by
  cases e : (List.range n).all p with
  | false => rfl
  | true => rw [List.all_eq_true.1 e k (List.mem_range.2 hk)] at h; cases h

theorem all_true {n : Nat} {p : Nat → Bool} (h : ∀ j, j < n → p j = true) : (List.range n).all p = true := List.all_eq_true.2 fun j hj => h j (List.mem_range.1 hj)

theorem next_true {k : Nat} {p : Nat → Bool} (h : ∀ j, j < k → p j = true) (hk : p k = true) : ∀ j, j < k + 1 → p j = true := fun j hj => by
  by_cases e : j = k
  · subst e; exact hk
  · exact h j (by omega)

set_option maxRecDepth 100000 in
set_option maxHeartbeats 4000000 in
theorem ascL_any (v : Value) (ls : List Lk) (w : World) (hls : ls.length ≤ 1048576) (hv : LinksAt w v ls w.heap.size) :
    Calls Try.prog 46 #[v, .func (.func 47) #[] #[]] w fun e w' => e = .returned (.bool (ascB ordL ls)) ∧ Below w.heap.size w w' := by
  obtain ⟨a, cap, rfl⟩ := hv.shape
  have HV := hide hv
  clear hv
  go_enter Try.func46, Try.ntmps46
  go_wp2
  go_loopw [5] (fun i wr => ∃ k : Nat, 1 ≤ k ∧ (k ≤ ls.length ∨ k = 1) ∧ i = .int .i64 k ∧ (∀ j, j < k → ascAt ordL ls j = true) ∧ Below w.heap.size w wr) (fun i _ => ls.length + 1 - (intOf i).toNat)
  case atStart => exact ⟨1, by omega, by omega, rfl, fun j hj => by obtain rfl : j = 0 := by omega
                                                                    rfl, Below.refl _ _⟩
  case round =>
    obtain ⟨k, hk1, hk, rfl, hno, hb⟩ := hrel
    have HNO := hide hno
    clear hno
    by_cases hlt : k < ls.length
    · obtain ⟨l, hl⟩ : ∃ l, ls[k]? = some l := ⟨ls[k], List.getElem?_eq_getElem hlt⟩
      obtain ⟨j, hj⟩ : ∃ j, k = j + 1 := ⟨k - 1, by omega⟩
      obtain ⟨p, hp⟩ : ∃ p, ls[j]? = some p := ⟨ls[j], List.getElem?_eq_getElem (by omega)⟩
      obtain ⟨b, off, cap', hve, hbb, c0, c1, c2, c3⟩ := HV.out.cells k l hl
      cases hve
      obtain ⟨b', off', cap2, hve2, hbb2, d0, d1, d2, d3⟩ := HV.out.cells j p hp
      cases hve2
      rw [← hb.cell (p := ⟨b, off + k * 4, none⟩) hbb] at c0
      rw [← hb.cell (p := ⟨b, off + k * 4 + 1, none⟩) hbb] at c1
      rw [← hb.cell (p := ⟨b, off + k * 4 + 2, none⟩) hbb] at c2
      rw [← hb.cell (p := ⟨b, off + k * 4 + 3, none⟩) hbb] at c3
      rw [← hb.cell (p := ⟨b, off + j * 4, none⟩) hbb] at d0
      rw [← hb.cell (p := ⟨b, off + j * 4 + 1, none⟩) hbb] at d1
      rw [← hb.cell (p := ⟨b, off + j * 4 + 2, none⟩) hbb] at d2
      rw [← hb.cell (p := ⟨b, off + j * 4 + 3, none⟩) hbb] at d3
      have hat : ascAt ordL ls k = decide (ordL p l < 0) := by rw [hj]; exact ascAt_eq hp (by rw [← hj]; exact hl)
      have hzr := hb.size
      have hbr : b < wr.heap.size := by omega
      have hki : (0 : Int) ≤ (k : Int) := by omega
      have hkj : (k : Int) < (ls.length : Int) := by omega
      have hj1 : (k : Int) - 1 = (j : Int) := by omega
      have hj2 : (0 : Int) ≤ (j : Int) := by omega
      have hj3 : (j : Int) < (ls.length : Int) := by omega
      have hj5 : IntKind.i64.wrap (j : Int) = (j : Int) := wrap_fit _ (by omega) (by omega)
      have HORD := hide (ordL_any p l)
      have HAT := hide hat
      have HJ := hide hj
      clear hl hp hat hj
      obtain ⟨x, hx⟩ : ∃ x, x = ordL p l := ⟨_, rfl⟩
      rw [← hx] at HORD HAT
      clear hx
      unfold lkV at HORD
      by_cases hx0 : x < 0
      · have hx1 : ¬ (0 : Int) ≤ x := by omega
        rw [decide_eq_true hx0] at HAT
        go_wp2
        go_region_held3 (fun W => W.cell? ⟨b, off + k * 4, none⟩ = some (.int .i64 l.a) ∧ W.cell? ⟨b, off + k * 4 + 1, none⟩ = some (.int .i64 l.b) ∧ W.cell? ⟨b, off + k * 4 + 2, none⟩ = some (.int .i64 l.c) ∧ W.cell? ⟨b, off + k * 4 + 3, none⟩ = some (.int .i64 l.r) ∧ W.cell? ⟨b, off + j * 4, none⟩ = some (.int .i64 p.a) ∧ W.cell? ⟨b, off + j * 4 + 1, none⟩ = some (.int .i64 p.b) ∧ W.cell? ⟨b, off + j * 4 + 2, none⟩ = some (.int .i64 p.c) ∧ W.cell? ⟨b, off + j * 4 + 3, none⟩ = some (.int .i64 p.r)) (first | go_keep | (refine ⟨?_, ?_, ?_, ?_, ?_, ?_, ?_, ?_⟩ <;> (rw [hbc.cell (by assumption)]; assumption))) (first | (go_at_call 47; refine (HORD.out _).mono ?_; rintro e w2 ⟨rfl, hbc⟩))
        go_wp2
        exact ⟨⟨k + 1, by omega, by omega, by go_num, next_true HNO.out HAT.out, hb.drew.trans (hbc.mono hb.size)⟩, by simp [intOf]; omega⟩
      · have hx1 : (0 : Int) ≤ x := by omega
        rw [decide_eq_false hx0] at HAT
        have hf : ascB ordL ls = false := all_false hlt HAT.out
        have HF := hide hf
        clear hf
        go_wp2
        go_region_held3 (fun W => W.cell? ⟨b, off + k * 4, none⟩ = some (.int .i64 l.a) ∧ W.cell? ⟨b, off + k * 4 + 1, none⟩ = some (.int .i64 l.b) ∧ W.cell? ⟨b, off + k * 4 + 2, none⟩ = some (.int .i64 l.c) ∧ W.cell? ⟨b, off + k * 4 + 3, none⟩ = some (.int .i64 l.r) ∧ W.cell? ⟨b, off + j * 4, none⟩ = some (.int .i64 p.a) ∧ W.cell? ⟨b, off + j * 4 + 1, none⟩ = some (.int .i64 p.b) ∧ W.cell? ⟨b, off + j * 4 + 2, none⟩ = some (.int .i64 p.c) ∧ W.cell? ⟨b, off + j * 4 + 3, none⟩ = some (.int .i64 p.r)) (first | go_keep | (refine ⟨?_, ?_, ?_, ?_, ?_, ?_, ?_, ?_⟩ <;> (rw [hbc.cell (by assumption)]; assumption))) (first | (go_at_call 47; refine (HORD.out _).mono ?_; rintro e w2 ⟨rfl, hbc⟩))
        go_wp2
        go_ret
        exact ⟨ret_bool HF.out, hb.drew.trans (hbc.mono hb.size)⟩
    · have hall : ascB ordL ls = true := all_true fun i hi => HNO.out i (by omega)
      have HA := hide hall
      clear hall
      go_wp2
      go_ret
      exact ⟨ret_bool HA.out, hb⟩
set_option maxRecDepth 100000 in
set_option maxHeartbeats 4000000 in
theorem ascT_any (v : Value) (ls : List Th) (w : World) (hls : ls.length ≤ 1048576) (hv : ThingsAt w v ls w.heap.size) :
    Calls Try.prog 48 #[v, .func (.func 49) #[] #[]] w fun e w' => e = .returned (.bool (ascB ordT ls)) ∧ Below w.heap.size w w' := by
  obtain ⟨a, cap, rfl⟩ := hv.shape
  have HV := hide hv
  clear hv
  go_enter Try.func48, Try.ntmps48
  go_wp2
  go_loopw [5] (fun i wr => ∃ k : Nat, 1 ≤ k ∧ (k ≤ ls.length ∨ k = 1) ∧ i = .int .i64 k ∧ (∀ j, j < k → ascAt ordT ls j = true) ∧ Below w.heap.size w wr) (fun i _ => ls.length + 1 - (intOf i).toNat)
  case atStart => exact ⟨1, by omega, by omega, rfl, fun j hj => by obtain rfl : j = 0 := by omega
                                                                    rfl, Below.refl _ _⟩
  case round =>
    obtain ⟨k, hk1, hk, rfl, hno, hb⟩ := hrel
    have HNO := hide hno
    clear hno
    by_cases hlt : k < ls.length
    · obtain ⟨l, hl⟩ : ∃ l, ls[k]? = some l := ⟨ls[k], List.getElem?_eq_getElem hlt⟩
      obtain ⟨j, hj⟩ : ∃ j, k = j + 1 := ⟨k - 1, by omega⟩
      obtain ⟨p, hp⟩ : ∃ p, ls[j]? = some p := ⟨ls[j], List.getElem?_eq_getElem (by omega)⟩
      obtain ⟨b, off, cap', hve, hbb, c0, c1, c2, c3⟩ := HV.out.cells k l hl
      cases hve
      obtain ⟨b', off', cap2, hve2, hbb2, d0, d1, d2, d3⟩ := HV.out.cells j p hp
      cases hve2
      rw [← hb.cell (p := ⟨b, off + k * 4, none⟩) hbb] at c0
      rw [← hb.cell (p := ⟨b, off + k * 4 + 1, none⟩) hbb] at c1
      rw [← hb.cell (p := ⟨b, off + k * 4 + 2, none⟩) hbb] at c2
      rw [← hb.cell (p := ⟨b, off + k * 4 + 3, none⟩) hbb] at c3
      rw [← hb.cell (p := ⟨b, off + j * 4, none⟩) hbb] at d0
      rw [← hb.cell (p := ⟨b, off + j * 4 + 1, none⟩) hbb] at d1
      rw [← hb.cell (p := ⟨b, off + j * 4 + 2, none⟩) hbb] at d2
      rw [← hb.cell (p := ⟨b, off + j * 4 + 3, none⟩) hbb] at d3
      have hat : ascAt ordT ls k = decide (ordT p l < 0) := by rw [hj]; exact ascAt_eq hp (by rw [← hj]; exact hl)
      have hzr := hb.size
      have hbr : b < wr.heap.size := by omega
      have hki : (0 : Int) ≤ (k : Int) := by omega
      have hkj : (k : Int) < (ls.length : Int) := by omega
      have hj1 : (k : Int) - 1 = (j : Int) := by omega
      have hj2 : (0 : Int) ≤ (j : Int) := by omega
      have hj3 : (j : Int) < (ls.length : Int) := by omega
      have hj5 : IntKind.i64.wrap (j : Int) = (j : Int) := wrap_fit _ (by omega) (by omega)
      have HORD := hide (ordT_any p l)
      have HAT := hide hat
      have HJ := hide hj
      clear hl hp hat hj
      obtain ⟨x, hx⟩ : ∃ x, x = ordT p l := ⟨_, rfl⟩
      rw [← hx] at HORD HAT
      clear hx
      unfold thV at HORD
      by_cases hx0 : x < 0
      · have hx1 : ¬ (0 : Int) ≤ x := by omega
        rw [decide_eq_true hx0] at HAT
        go_wp2
        go_region_held3 (fun W => W.cell? ⟨b, off + k * 4, none⟩ = some (.int .i64 l.o) ∧ W.cell? ⟨b, off + k * 4 + 1, none⟩ = some (.int .i64 l.k) ∧ W.cell? ⟨b, off + k * 4 + 2, none⟩ = some (.int .i64 l.c) ∧ W.cell? ⟨b, off + k * 4 + 3, none⟩ = some (.bool l.f) ∧ W.cell? ⟨b, off + j * 4, none⟩ = some (.int .i64 p.o) ∧ W.cell? ⟨b, off + j * 4 + 1, none⟩ = some (.int .i64 p.k) ∧ W.cell? ⟨b, off + j * 4 + 2, none⟩ = some (.int .i64 p.c) ∧ W.cell? ⟨b, off + j * 4 + 3, none⟩ = some (.bool p.f)) (first | go_keep | (refine ⟨?_, ?_, ?_, ?_, ?_, ?_, ?_, ?_⟩ <;> (rw [hbc.cell (by assumption)]; assumption))) (first | (go_at_call 49; refine (HORD.out _).mono ?_; rintro e w2 ⟨rfl, hbc⟩))
        go_wp2
        exact ⟨⟨k + 1, by omega, by omega, by go_num, next_true HNO.out HAT.out, hb.drew.trans (hbc.mono hb.size)⟩, by simp [intOf]; omega⟩
      · have hx1 : (0 : Int) ≤ x := by omega
        rw [decide_eq_false hx0] at HAT
        have hf : ascB ordT ls = false := all_false hlt HAT.out
        have HF := hide hf
        clear hf
        go_wp2
        go_region_held3 (fun W => W.cell? ⟨b, off + k * 4, none⟩ = some (.int .i64 l.o) ∧ W.cell? ⟨b, off + k * 4 + 1, none⟩ = some (.int .i64 l.k) ∧ W.cell? ⟨b, off + k * 4 + 2, none⟩ = some (.int .i64 l.c) ∧ W.cell? ⟨b, off + k * 4 + 3, none⟩ = some (.bool l.f) ∧ W.cell? ⟨b, off + j * 4, none⟩ = some (.int .i64 p.o) ∧ W.cell? ⟨b, off + j * 4 + 1, none⟩ = some (.int .i64 p.k) ∧ W.cell? ⟨b, off + j * 4 + 2, none⟩ = some (.int .i64 p.c) ∧ W.cell? ⟨b, off + j * 4 + 3, none⟩ = some (.bool p.f)) (first | go_keep | (refine ⟨?_, ?_, ?_, ?_, ?_, ?_, ?_, ?_⟩ <;> (rw [hbc.cell (by assumption)]; assumption))) (first | (go_at_call 49; refine (HORD.out _).mono ?_; rintro e w2 ⟨rfl, hbc⟩))
        go_wp2
        go_ret
        exact ⟨ret_bool HF.out, hb.drew.trans (hbc.mono hb.size)⟩
    · have hall : ascB ordT ls = true := all_true fun i hi => HNO.out i (by omega)
      have HA := hide hall
      clear hall
      go_wp2
      go_ret
      exact ⟨ret_bool HA.out, hb⟩
end Go.Proofs.Ytlkbodppkljoiaa
