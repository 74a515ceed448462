/-
  impl.orderOfNear, impl.ascends of nears, impl.nearOk: their contracts.
-/
import Derived.Test.YtdaigojpeofmpaaNearOk
import Derived.Test.YtdaigojpeofmpaaIsIn
namespace Go.Proofs.Ytdaigojpeofmpaa
open Go.RowKit

def cmpNr (p l : Nr) : Int := cmpN p.to l.to

theorem asc_cmp (ls : List Nr) : ascB cmpNr ls = ascB ordN ls := by
  unfold ascB
  congr 1
  funext k
  cases k with
  | zero => rfl
  | succ k =>
    simp only [ascAt]
    split
    · rename_i p l _ _
      have h : (cmpNr p l < 0) ↔ (ordN p l < 0) := by
        unfold cmpNr ordN
        rw [cmpN_neg]
        omega
      exact decide_eq_decide.2 h
    · rfl

set_option maxRecDepth 100000 in
set_option maxHeartbeats 1000000 in
theorem orderNear_any (l m : Nr) (w : World) : Calls Try.prog 114 #[nrV l, nrV m] w fun e w' => e = .returned (.int .i64 (cmpNr l m)) ∧ Below w.heap.size w w' := by
  obtain ⟨a, b⟩ := l
  obtain ⟨a', b'⟩ := m
  unfold nrV cmpNr
  simp only []
  have H := hide (compare_any a a')
  go_enter Try.func114, Try.ntmps114
  go_wp2_with fail
  refine (H.out _).mono ?_
  rintro e w1 ⟨rfl, rfl⟩
  go_wp2
  go_ret
  exact ⟨rfl, below_two _ _⟩

set_option maxRecDepth 100000 in
set_option maxHeartbeats 4000000 in
theorem ascNear_any (v : Value) (ls : List Nr) (w : World) (hls : ls.length ≤ 1048576) (hv : NearsAt w v ls w.heap.size) :
    Calls Try.prog 113 #[v, .func (.func 114) #[] #[]] w fun e w' => e = .returned (.bool (ascB cmpNr ls)) ∧ Below w.heap.size w w' := by
  obtain ⟨a, cap, rfl⟩ := hv.shape
  have HV := hide hv
  clear hv
  go_enter Try.func113, Try.ntmps113
  go_wp2
  go_loopw [5] (fun i wr => ∃ k : Nat, 1 ≤ k ∧ (k ≤ ls.length ∨ k = 1) ∧ i = .int .i64 k ∧ (∀ j, j < k → ascAt cmpNr ls j = true) ∧ Below w.heap.size w wr) (fun i _ => ls.length + 1 - (intOf i).toNat)
  case atStart => exact ⟨1, by omega, by omega, rfl, fun j hj => by obtain rfl : j = 0 := by omega
                                                                    rfl, Below.refl _ _⟩
  case round =>
    obtain ⟨k, hk1, hk, rfl, hno, hb⟩ := hrel
    have HNO := hide hno
    clear hno
    by_cases hlt : k < ls.length
    · obtain ⟨l, hl⟩ : ∃ l, ls[k]? = some l := ⟨ls[k], List.getElem?_eq_getElem hlt⟩
      obtain ⟨j, hj⟩ : ∃ j, k = j + 1 := ⟨k - 1, by omega⟩
      obtain ⟨p, hp⟩ : ∃ p, ls[j]? = some p := ⟨ls[j], List.getElem?_eq_getElem (by omega)⟩
      obtain ⟨b, off, cap', hve, hbb, c0, c1⟩ := HV.out.cells k l hl
      cases hve
      obtain ⟨b', off', cap2, hve2, hbb2, d0, d1⟩ := HV.out.cells j p hp
      cases hve2
      rw [← hb.cell (p := ⟨b, off + k * 2, none⟩) hbb] at c0
      rw [← hb.cell (p := ⟨b, off + k * 2 + 1, none⟩) hbb] at c1
      rw [← hb.cell (p := ⟨b, off + j * 2, none⟩) hbb] at d0
      rw [← hb.cell (p := ⟨b, off + j * 2 + 1, none⟩) hbb] at d1
      have hat : ascAt cmpNr ls k = decide (cmpNr p l < 0) := by rw [hj]; exact ascAt_eq hp (by rw [← hj]; exact hl)
      have hzr := hb.size
      have hbr : b < wr.heap.size := by omega
      have hki : (0 : Int) ≤ (k : Int) := by omega
      have hkj : (k : Int) < (ls.length : Int) := by omega
      have hj1 : (k : Int) - 1 = (j : Int) := by omega
      have hj2 : (0 : Int) ≤ (j : Int) := by omega
      have hj3 : (j : Int) < (ls.length : Int) := by omega
      have hj5 : IntKind.i64.wrap (j : Int) = (j : Int) := wrap_fit _ (by omega) (by omega)
      have HORD := hide (orderNear_any p l)
      have HAT := hide hat
      have HJ := hide hj
      clear hl hp hat hj
      obtain ⟨x, hx⟩ : ∃ x, x = cmpNr p l := ⟨_, rfl⟩
      rw [← hx] at HORD HAT
      clear hx
      unfold nrV at HORD
      by_cases hx0 : x < 0
      · have hx1 : ¬ (0 : Int) ≤ x := by omega
        rw [decide_eq_true hx0] at HAT
        go_wp2
        go_region_held3 (fun W => W.cell? ⟨b, off + k * 2, none⟩ = some (.int .i64 l.to) ∧ W.cell? ⟨b, off + k * 2 + 1, none⟩ = some (.int .i64 l.c) ∧ W.cell? ⟨b, off + j * 2, none⟩ = some (.int .i64 p.to) ∧ W.cell? ⟨b, off + j * 2 + 1, none⟩ = some (.int .i64 p.c)) (first | go_keep | (refine ⟨?_, ?_, ?_, ?_⟩ <;> (rw [hbc.cell (by assumption)]; assumption))) (first | (go_at_call 114; refine (HORD.out _).mono ?_; rintro e w2 ⟨rfl, hbc⟩))
        go_wp2
        exact ⟨⟨k + 1, by omega, by omega, by go_num, next_true HNO.out HAT.out, hb.drew.trans (hbc.mono hb.size)⟩, by simp [intOf]; omega⟩
      · have hx1 : (0 : Int) ≤ x := by omega
        rw [decide_eq_false hx0] at HAT
        have hf : ascB cmpNr ls = false := all_false hlt HAT.out
        have HF := hide hf
        clear hf
        go_wp2
        go_region_held3 (fun W => W.cell? ⟨b, off + k * 2, none⟩ = some (.int .i64 l.to) ∧ W.cell? ⟨b, off + k * 2 + 1, none⟩ = some (.int .i64 l.c) ∧ W.cell? ⟨b, off + j * 2, none⟩ = some (.int .i64 p.to) ∧ W.cell? ⟨b, off + j * 2 + 1, none⟩ = some (.int .i64 p.c)) (first | go_keep | (refine ⟨?_, ?_, ?_, ?_⟩ <;> (rw [hbc.cell (by assumption)]; assumption))) (first | (go_at_call 114; refine (HORD.out _).mono ?_; rintro e w2 ⟨rfl, hbc⟩))
        go_wp2
        go_ret
        exact ⟨ret_bool HF.out, hb.drew.trans (hbc.mono hb.size)⟩
    · have hall : ascB cmpNr ls = true := all_true fun i hi => HNO.out i (by omega)
      have HA := hide hall
      clear hall
      go_wp2
      go_ret
      exact ⟨ret_bool HA.out, hb⟩

set_option maxRecDepth 100000 in
set_option maxHeartbeats 4000000 in
theorem inear_any (o : Int) (v : Value) (ls : List Nr) (w : World) (hls : ls.length ≤ 1048576) (hv : NearsAt w v ls w.heap.size) :
    Calls Try.prog 108 #[.int .i64 o, v] w fun e w' => e = .returned (.bool (nearsB o ls)) ∧ Below w.heap.size w w' := by
  obtain ⟨a, cap, rfl⟩ := hv.shape
  have HV := hide hv
  clear hv
  go_enter Try.func108, Try.ntmps108
  go_wp2
  go_loopw [9] (fun i wr => ∃ k : Nat, k ≤ ls.length ∧ i = .int .i64 k ∧ (∀ j, j < k → okAt (nearOkB o) ls j = true) ∧ Below w.heap.size w wr) (fun i _ => ls.length - (intOf i).toNat)
  case atStart => exact ⟨0, by omega, rfl, by omega, Below.refl _ _⟩
  case round =>
    obtain ⟨k, hk, rfl, hno, hb⟩ := hrel
    have HNO := hide hno
    clear hno
    by_cases hlt : k < ls.length
    · obtain ⟨l, hl⟩ : ∃ l, ls[k]? = some l := ⟨ls[k], List.getElem?_eq_getElem hlt⟩
      obtain ⟨b, off, cap', hve, hbb, c0, c1⟩ := HV.out.cells k l hl
      cases hve
      rw [← hb.cell (p := ⟨b, off + k * 2, none⟩) hbb] at c0
      rw [← hb.cell (p := ⟨b, off + k * 2 + 1, none⟩) hbb] at c1
      have hki : (0 : Int) ≤ (k : Int) := by omega
      have hkj : (k : Int) < (ls.length : Int) := by omega
      have HAT := hide (okAt_eq (ok := nearOkB o) hl)
      obtain ⟨lt, lc⟩ := l
      simp only [nearOkB] at HAT c0 c1
      obtain ⟨q1, hq1⟩ : ∃ q, q = inB lt 1 6 := ⟨_, rfl⟩
      obtain ⟨q3, hq3⟩ : ∃ q, q = inB lc 1 1000 := ⟨_, rfl⟩
      have H1 := hide (isIn_any lt 1 6)
      have H3 := hide (isIn_any lc 1 1000)
      rw [← hq1] at H1 HAT
      rw [← hq3] at H3 HAT
      clear hl hq1 hq3
      have hzr := hb.size
      have B2 : Below w.heap.size w (wr.alloc (.cells #[.int .i64 lt, .int .i64 lc] 120)) := hb.alloc hb.size _
      go_wp2_with fail
      refine (H1.out _).mono ?_
      rintro e w2 ⟨rfl, rfl⟩
      cases q1
      · have hf : nearsB o ls = false := by unfold nearsB allOk; rw [all_false hlt HAT.out]; rfl
        have HF := hide hf
        clear hf
        go_wp2
        go_ret
        exact ⟨ret_bool HF.out, B2⟩
      by_cases hlo : lt = o
      · have hd : (lt == o) = true := by simpa using hlo
        have hf : nearsB o ls = false := by
          have := HAT.out
          rw [hd] at this
          unfold nearsB allOk; rw [all_false hlt this]; rfl
        have HF := hide hf
        clear hf hlo HAT
        go_wp2
        go_ret
        exact ⟨ret_bool HF.out, B2⟩
      have hd : (lt == o) = false := by simpa using hlo
      rw [hd] at HAT
      clear hlo
      go_wp2_with fail
      refine (H3.out _).mono ?_
      rintro e w2 ⟨rfl, rfl⟩
      cases q3
      · have hf : nearsB o ls = false := by unfold nearsB allOk; rw [all_false hlt HAT.out]; rfl
        have HF := hide hf
        clear hf
        go_wp2
        go_ret
        exact ⟨ret_bool HF.out, B2⟩
      · go_wp2
        exact ⟨⟨k + 1, by omega, by go_num, next_true HNO.out HAT.out, B2⟩, by simp [intOf]; omega⟩
    · have hall : allOk (nearOkB o) ls = true := all_true fun i hi => HNO.out i (by omega)
      have hF : nearsB o ls = ascB cmpNr ls := by unfold nearsB; rw [hall, asc_cmp]; rfl
      have HF := hide hF
      clear hF hall
      have HVR := hide (HV.out.then hb)
      go_wp2_with fail
      refine (ascNear_any _ ls _ hls HVR.out).mono ?_
      rintro e w2 ⟨rfl, hbc⟩
      go_wp2
      go_ret
      exact ⟨ret_bool HF.out, hb.trans (hbc.mono hb.size)⟩
end Go.Proofs.Ytdaigojpeofmpaa
