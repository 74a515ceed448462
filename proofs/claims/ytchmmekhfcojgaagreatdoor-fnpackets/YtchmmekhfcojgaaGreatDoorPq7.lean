/-
  impl.orderOfNear, impl.ascends of nears, impl.nearOk: their contracts.
  spec.RecordOk: its contract.
  impl.bodyOk: its contract.
-/
import Derived.Test.YtchmmekhfcojgaaGreatDoorPq6
import Derived.Test.YtchmmekhfcojgaaGreatDoorPq4
import Derived.Test.YtchmmekhfcojgaaGreatDoorPq5
namespace Go.Proofs.YtchmmekhfcojgaaGreatDoor
open Go.RowKit

def cmpNr (p l : Nr) : Int := cmpN p.to l.to

theorem asc_cmp (ls : List Nr) : ascB cmpNr ls = ascB ordN ls := by
  unfold ascB
  congr 1
  funext k
  cases k with
  | zero => rfl
  | succ k =>
    simp only [ascAt]
    split
    · rename_i p l _ _
      have h : (cmpNr p l < 0) ↔ (ordN p l < 0) := by
        unfold cmpNr ordN
        rw [cmpN_neg]
        omega
      exact decide_eq_decide.2 h
    · rfl

set_option maxRecDepth 100000 in
set_option maxHeartbeats 1000000 in
theorem orderNear_any (l m : Nr) (w : World) : Calls Tryz.prog 122 #[nrV l, nrV m] w fun e w' => e = .returned (.int .i64 (cmpNr l m)) ∧ Below w.heap.size w w' := by
  obtain ⟨a, b⟩ := l
  obtain ⟨a', b'⟩ := m
  unfold nrV cmpNr
  simp only []
  have H := hide (compare_any a a')
  go_enter Tryz.func122, Tryz.ntmps122
  go_wp2_with fail
  refine (H.out _).mono ?_
  rintro e w1 ⟨rfl, rfl⟩
  go_wp2
  go_ret
  exact ⟨rfl, below_two _ _⟩

set_option maxRecDepth 100000 in
set_option maxHeartbeats 4000000 in
theorem ascNear_any (v : Value) (ls : List Nr) (w : World) (hls : ls.length ≤ 1048576) (hv : NearsAt w v ls w.heap.size) :
    Calls Tryz.prog 121 #[v, .func (.func 122) #[] #[]] w fun e w' => e = .returned (.bool (ascB cmpNr ls)) ∧ Below w.heap.size w w' := by
  obtain ⟨a, cap, rfl⟩ := hv.shape
  have HV := hide hv
  clear hv
  go_enter Tryz.func121, Tryz.ntmps121
  go_wp2
  go_loopw [5] (fun i wr => ∃ k : Nat, 1 ≤ k ∧ (k ≤ ls.length ∨ k = 1) ∧ i = .int .i64 k ∧ (∀ j, j < k → ascAt cmpNr ls j = true) ∧ Below w.heap.size w wr) (fun i _ => ls.length + 1 - (intOf i).toNat)
  case atStart => exact ⟨1, by omega, by omega, rfl, fun j hj => by obtain rfl : j = 0 := by omega
                                                                    rfl, Below.refl _ _⟩
  case round =>
    obtain ⟨k, hk1, hk, rfl, hno, hb⟩ := hrel
    have HNO := hide hno
    clear hno
    by_cases hlt : k < ls.length
    · obtain ⟨l, hl⟩ : ∃ l, ls[k]? = some l := ⟨ls[k], List.getElem?_eq_getElem hlt⟩
      obtain ⟨j, hj⟩ : ∃ j, k = j + 1 := ⟨k - 1, by omega⟩
      obtain ⟨p, hp⟩ : ∃ p, ls[j]? = some p := ⟨ls[j], List.getElem?_eq_getElem (by omega)⟩
      obtain ⟨b, off, cap', hve, hbb, c0, c1⟩ := HV.out.cells k l hl
      cases hve
      obtain ⟨b', off', cap2, hve2, hbb2, d0, d1⟩ := HV.out.cells j p hp
      cases hve2
      rw [← hb.cell (p := ⟨b, off + k * 2, none⟩) hbb] at c0
      rw [← hb.cell (p := ⟨b, off + k * 2 + 1, none⟩) hbb] at c1
      rw [← hb.cell (p := ⟨b, off + j * 2, none⟩) hbb] at d0
      rw [← hb.cell (p := ⟨b, off + j * 2 + 1, none⟩) hbb] at d1
      have hat : ascAt cmpNr ls k = decide (cmpNr p l < 0) := by rw [hj]; exact ascAt_eq hp (by rw [← hj]; exact hl)
      have hzr := hb.size
      have hbr : b < wr.heap.size := by omega
      have hki : (0 : Int) ≤ (k : Int) := by omega
      have hkj : (k : Int) < (ls.length : Int) := by omega
      have hj1 : (k : Int) - 1 = (j : Int) := by omega
      have hj2 : (0 : Int) ≤ (j : Int) := by omega
      have hj3 : (j : Int) < (ls.length : Int) := by omega
      have hj5 : IntKind.i64.wrap (j : Int) = (j : Int) := wrap_fit _ (by omega) (by omega)
      have HORD := hide (orderNear_any p l)
      have HAT := hide hat
      have HJ := hide hj
      clear hl hp hat hj
      obtain ⟨x, hx⟩ : ∃ x, x = cmpNr p l := ⟨_, rfl⟩
      rw [← hx] at HORD HAT
      clear hx
      unfold nrV at HORD
      by_cases hx0 : x < 0
      · have hx1 : ¬ (0 : Int) ≤ x := by omega
        rw [decide_eq_true hx0] at HAT
        go_wp2
        go_region_held3 (fun W => W.cell? ⟨b, off + k * 2, none⟩ = some (.int .i64 l.to) ∧ W.cell? ⟨b, off + k * 2 + 1, none⟩ = some (.int .i64 l.c) ∧ W.cell? ⟨b, off + j * 2, none⟩ = some (.int .i64 p.to) ∧ W.cell? ⟨b, off + j * 2 + 1, none⟩ = some (.int .i64 p.c)) (first | go_keep | (refine ⟨?_, ?_, ?_, ?_⟩ <;> (rw [hbc.cell (by assumption)]; assumption))) (first | (go_at_call 122; refine (HORD.out _).mono ?_; rintro e w2 ⟨rfl, hbc⟩))
        go_wp2
        exact ⟨⟨k + 1, by omega, by omega, by go_num, next_true HNO.out HAT.out, hb.drew.trans (hbc.mono hb.size)⟩, by simp [intOf]; omega⟩
      · have hx1 : (0 : Int) ≤ x := by omega
        rw [decide_eq_false hx0] at HAT
        have hf : ascB cmpNr ls = false := all_false hlt HAT.out
        have HF := hide hf
        clear hf
        go_wp2
        go_region_held3 (fun W => W.cell? ⟨b, off + k * 2, none⟩ = some (.int .i64 l.to) ∧ W.cell? ⟨b, off + k * 2 + 1, none⟩ = some (.int .i64 l.c) ∧ W.cell? ⟨b, off + j * 2, none⟩ = some (.int .i64 p.to) ∧ W.cell? ⟨b, off + j * 2 + 1, none⟩ = some (.int .i64 p.c)) (first | go_keep | (refine ⟨?_, ?_, ?_, ?_⟩ <;> (rw [hbc.cell (by assumption)]; assumption))) (first | (go_at_call 122; refine (HORD.out _).mono ?_; rintro e w2 ⟨rfl, hbc⟩))
        go_wp2
        go_ret
        exact ⟨ret_bool HF.out, hb.drew.trans (hbc.mono hb.size)⟩
    · have hall : ascB cmpNr ls = true := all_true fun i hi => HNO.out i (by omega)
      have HA := hide hall
      clear hall
      go_wp2
      go_ret
      exact ⟨ret_bool HA.out, hb⟩

set_option maxRecDepth 100000 in
set_option maxHeartbeats 4000000 in
theorem inear_any (o : Int) (v : Value) (ls : List Nr) (w : World) (hls : ls.length ≤ 1048576) (hv : NearsAt w v ls w.heap.size) :
    Calls Tryz.prog 113 #[.int .i64 o, v] w fun e w' => e = .returned (.bool (nearsB o ls)) ∧ Below w.heap.size w w' := by
  obtain ⟨a, cap, rfl⟩ := hv.shape
  have HV := hide hv
  clear hv
  go_enter Tryz.func113, Tryz.ntmps113
  go_wp2
  go_loopw [9] (fun i wr => ∃ k : Nat, k ≤ ls.length ∧ i = .int .i64 k ∧ (∀ j, j < k → okAt (nearOkB o) ls j = true) ∧ Below w.heap.size w wr) (fun i _ => ls.length - (intOf i).toNat)
  case atStart => exact ⟨0, by omega, rfl, by omega, Below.refl _ _⟩
  case round =>
    obtain ⟨k, hk, rfl, hno, hb⟩ := hrel
    have HNO := hide hno
    clear hno
    by_cases hlt : k < ls.length
    · obtain ⟨l, hl⟩ : ∃ l, ls[k]? = some l := ⟨ls[k], List.getElem?_eq_getElem hlt⟩
      obtain ⟨b, off, cap', hve, hbb, c0, c1⟩ := HV.out.cells k l hl
      cases hve
      rw [← hb.cell (p := ⟨b, off + k * 2, none⟩) hbb] at c0
      rw [← hb.cell (p := ⟨b, off + k * 2 + 1, none⟩) hbb] at c1
      have hki : (0 : Int) ≤ (k : Int) := by omega
      have hkj : (k : Int) < (ls.length : Int) := by omega
      have HAT := hide (okAt_eq (ok := nearOkB o) hl)
      obtain ⟨lt, lc⟩ := l
      simp only [nearOkB] at HAT c0 c1
      obtain ⟨q1, hq1⟩ : ∃ q, q = inB lt 1 6 := ⟨_, rfl⟩
      obtain ⟨q3, hq3⟩ : ∃ q, q = inB lc 1 1000 := ⟨_, rfl⟩
      have H1 := hide (isIn_any lt 1 6)
      have H3 := hide (isIn_any lc 1 1000)
      rw [← hq1] at H1 HAT
      rw [← hq3] at H3 HAT
      clear hl hq1 hq3
      have hzr := hb.size
      have B2 : Below w.heap.size w (wr.alloc (.cells #[.int .i64 lt, .int .i64 lc] 100)) := hb.alloc hb.size _
      go_wp2_with fail
      refine (H1.out _).mono ?_
      rintro e w2 ⟨rfl, rfl⟩
      cases q1
      · have hf : nearsB o ls = false := by unfold nearsB allOk; rw [all_false hlt HAT.out]; rfl
        have HF := hide hf
        clear hf
        go_wp2
        go_ret
        exact ⟨ret_bool HF.out, B2⟩
      by_cases hlo : lt = o
      · have hd : (lt == o) = true := by simpa using hlo
        have hf : nearsB o ls = false := by
          have := HAT.out
          rw [hd] at this
          unfold nearsB allOk; rw [all_false hlt this]; rfl
        have HF := hide hf
        clear hf hlo HAT
        go_wp2
        go_ret
        exact ⟨ret_bool HF.out, B2⟩
      have hd : (lt == o) = false := by simpa using hlo
      rw [hd] at HAT
      clear hlo
      go_wp2_with fail
      refine (H3.out _).mono ?_
      rintro e w2 ⟨rfl, rfl⟩
      cases q3
      · have hf : nearsB o ls = false := by unfold nearsB allOk; rw [all_false hlt HAT.out]; rfl
        have HF := hide hf
        clear hf
        go_wp2
        go_ret
        exact ⟨ret_bool HF.out, B2⟩
      · go_wp2
        exact ⟨⟨k + 1, by omega, by go_num, next_true HNO.out HAT.out, B2⟩, by simp [intOf]; omega⟩
    · have hall : allOk (nearOkB o) ls = true := all_true fun i hi => HNO.out i (by omega)
      have hF : nearsB o ls = ascB cmpNr ls := by unfold nearsB; rw [hall, asc_cmp]; rfl
      have HF := hide hF
      clear hF hall
      have HVR := hide (HV.out.then hb)
      go_wp2_with fail
      refine (ascNear_any _ ls _ hls HVR.out).mono ?_
      rintro e w2 ⟨rfl, hbc⟩
      go_wp2
      go_ret
      exact ⟨ret_bool HF.out, hb.trans (hbc.mono hb.size)⟩
end Go.Proofs.YtchmmekhfcojgaaGreatDoor
namespace Go.Proofs.YtchmmekhfcojgaaGreatDoor
open Go.RowKit

def recOkB (x : RecD) : Bool := inB x.owner 1 6 && inB x.seq 1 100000 &&
  (if x.kind = 1 then inB x.area 0 2 && x.key == 0 && nearsB x.owner x.near && x.cost == 0 && !x.far
   else if x.kind = 2 then inB x.area 0 2 && inB x.key 1 6 && x.near.length == 0 && inB x.cost 0 60000 && !x.far
   else if x.kind = 3 then x.area == 9 && inB x.key 1 9 && x.near.length == 0 && (inB x.cost 1 1000 || x.cost == 60000)
   else false)

set_option maxRecDepth 100000 in
set_option maxHeartbeats 8000000 in
theorem srecOk_any (v1 : Value) (x : RecD) (w : World) (hl : x.near.length ≤ 1048576) (hv : NearsAt w v1 x.near w.heap.size) :
    Calls Tryz.prog 91 #[.agg (recC x v1)] w fun e w' => e = .returned (.bool (recOkB x)) ∧ Below w.heap.size w w' := by
  obtain ⟨p1, c1, rfl⟩ := hv.shape
  have HN := hide (fun W (h : Below w.heap.size w W) => snear_any (.slice p1 x.near.length c1) x W hl (hv.then h))
  obtain ⟨R, hR⟩ : ∃ R, R = recOkB x := ⟨_, rfl⟩
  rw [← hR]
  obtain ⟨qn, hqn⟩ : ∃ q, q = nearsB x.owner x.near := ⟨_, rfl⟩
  rw [← hqn] at HN
  unfold recOkB at hR
  rw [← hqn] at hR
  obtain ⟨area, kind, owner, key, seq, ns, cost, far⟩ := x
  unfold recC at HN ⊢
  simp only [] at HN hR hl hv ⊢
  have hnew := heap_alloc_new w (.cells #[.int .i64 area, .int .i64 kind, .int .i64 owner, .int .i64 key, .int .i64 seq, .slice p1 ns.length c1, .int .i64 cost, .bool far] 51)
  have B0 : Below w.heap.size w (w.alloc (.cells #[.int .i64 area, .int .i64 kind, .int .i64 owner, .int .i64 key, .int .i64 seq, .slice p1 ns.length c1, .int .i64 cost, .bool far] 51)) := (Below.refl _ _).alloc (Nat.le_refl _) _
  have H1 := hide (in_any owner 1 6)
  have H2 := hide (in_any seq 1 100000)
  obtain ⟨q1, hq1⟩ : ∃ q, q = inB owner 1 6 := ⟨_, rfl⟩
  obtain ⟨q2, hq2⟩ : ∃ q, q = inB seq 1 100000 := ⟨_, rfl⟩
  rw [← hq1] at H1 hR
  rw [← hq2] at H2 hR
  have NEW := hide hnew
  have HR := hide hR
  have HL := hide hl
  clear hnew hR hq1 hq2 hqn hv hl
  go_enter Tryz.func91, Tryz.ntmps91
  go_wp2_with fail
  refine (H1.out _).mono ?_
  rintro e w1 ⟨rfl, rfl⟩
  cases q1
  · go_wp2
    go_ret
    exact ⟨ret_bool (by rw [HR.out]; rfl), B0⟩
  go_wp2_with fail
  refine (H2.out _).mono ?_
  rintro e w1 ⟨rfl, rfl⟩
  cases q2
  · go_wp2
    go_ret
    exact ⟨ret_bool (by rw [HR.out]; rfl), B0⟩
  clear H1 H2
  by_cases hk1 : kind = 1
  · subst hk1
    have HR2 := hide (show R = (inB area 0 2 && key == 0 && qn && cost == 0 && !far) by have := HR.out; simpa using this)
    have H3 := hide (in_any area 0 2)
    obtain ⟨q3, hq3⟩ : ∃ q, q = inB area 0 2 := ⟨_, rfl⟩
    rw [← hq3] at H3 HR2
    clear hq3 HR
    go_wp2_with fail
    refine (H3.out _).mono ?_
    rintro e w1 ⟨rfl, rfl⟩
    cases q3
    · go_wp2
      go_ret
      exact ⟨ret_bool (by rw [HR2.out]; rfl), B0⟩
    by_cases hkey : key = 0
    case neg =>
      have hd : (key == 0) = false := by simpa using hkey
      rw [hd] at HR2
      go_wp2
      go_ret
      exact ⟨ret_bool (by rw [HR2.out]; rfl), B0⟩
    subst hkey
    go_wp2_with fail
    refine (HN.out _ B0).mono ?_
    rintro e w2 ⟨rfl, b2⟩
    have hx2 : w2.heap[w.heap.size]? = some (.cells #[.int .i64 area, .int .i64 1, .int .i64 owner, .int .i64 0, .int .i64 seq, .slice p1 ns.length c1, .int .i64 cost, .bool far] 51) := by rw [b2.block _ (by simp)]; exact NEW.out
    have f6 := cells_at hx2 6
    have f7 := cells_at hx2 7
    simp at f6 f7
    have B2 := B0.trans (b2.mono B0.size)
    clear hx2 b2 NEW B0
    cases qn
    · go_wp2
      go_ret
      exact ⟨ret_bool (by rw [HR2.out]; rfl), B2⟩
    by_cases hco : cost = 0
    case neg =>
      have hd : (cost == 0) = false := by simpa using hco
      rw [hd] at HR2
      go_wp2
      go_ret
      exact ⟨ret_bool (by rw [HR2.out]; rfl), B2⟩
    subst hco
    cases far
    · go_wp2
      go_ret
      exact ⟨ret_bool (by rw [HR2.out]; rfl), B2⟩
    · go_wp2
      go_ret
      exact ⟨ret_bool (by rw [HR2.out]; rfl), B2⟩
  have k1 : (kind == 1) = false := by simpa using hk1
  by_cases hk2 : kind = 2
  · subst hk2
    have HR2 := hide (show R = (inB area 0 2 && inB key 1 6 && ns.length == 0 && inB cost 0 60000 && !far) by have := HR.out; simpa using this)
    have H3 := hide (in_any area 0 2)
    obtain ⟨q3, hq3⟩ : ∃ q, q = inB area 0 2 := ⟨_, rfl⟩
    rw [← hq3] at H3 HR2
    have H4 := hide (in_any key 1 6)
    obtain ⟨q4, hq4⟩ : ∃ q, q = inB key 1 6 := ⟨_, rfl⟩
    rw [← hq4] at H4 HR2
    have H5 := hide (in_any cost 0 60000)
    obtain ⟨q5, hq5⟩ : ∃ q, q = inB cost 0 60000 := ⟨_, rfl⟩
    rw [← hq5] at H5 HR2
    clear hq3 hq4 hq5 HR hk1 k1
    go_wp2_with fail
    refine (H3.out _).mono ?_
    rintro e w1 ⟨rfl, rfl⟩
    cases q3
    · go_wp2
      go_ret
      exact ⟨ret_bool (by rw [HR2.out]; rfl), B0⟩
    go_wp2_with fail
    refine (H4.out _).mono ?_
    rintro e w1 ⟨rfl, rfl⟩
    cases q4
    · go_wp2
      go_ret
      exact ⟨ret_bool (by rw [HR2.out]; rfl), B0⟩
    by_cases hn0 : ns.length = 0
    case neg =>
      have hd : ((ns.length : Int) == 0) = false := by simp; intro h; rw [h] at hn0; exact hn0 rfl
      have hR2 : R = false := by rw [HR2.out, show (ns.length == 0) = false by simpa using hn0]; rfl
      have HR3 := hide hR2
      clear hR2 hn0 HR2
      go_wp2
      go_ret
      exact ⟨ret_bool HR3.out, B0⟩
    have hd : ((ns.length : Int) == 0) = true := by simp; exact List.length_eq_zero_iff.1 hn0
    have HR3 := hide (show R = (q5 && !far) by have := HR2.out; rw [show (ns.length == 0) = true by simpa using hn0] at this; simpa using this)
    clear hn0 HR2
    go_wp2_with fail
    refine (H5.out _).mono ?_
    rintro e w1 ⟨rfl, rfl⟩
    cases q5
    · go_wp2
      go_ret
      exact ⟨ret_bool (by rw [HR3.out]; rfl), B0⟩
    cases far
    · go_wp2
      go_ret
      exact ⟨ret_bool (by rw [HR3.out]; rfl), B0⟩
    · go_wp2
      go_ret
      exact ⟨ret_bool (by rw [HR3.out]; rfl), B0⟩
  have k2 : (kind == 2) = false := by simpa using hk2
  by_cases hk3 : kind = 3
  · subst hk3
    have HR2 := hide (show R = (area == 9 && inB key 1 9 && ns.length == 0 && (inB cost 1 1000 || cost == 60000)) by have := HR.out; simpa using this)
    have H4 := hide (in_any key 1 9)
    obtain ⟨q4, hq4⟩ : ∃ q, q = inB key 1 9 := ⟨_, rfl⟩
    rw [← hq4] at H4 HR2
    have H5 := hide (in_any cost 1 1000)
    obtain ⟨q5, hq5⟩ : ∃ q, q = inB cost 1 1000 := ⟨_, rfl⟩
    rw [← hq5] at H5 HR2
    clear hq4 hq5 HR hk1 k1 hk2 k2
    by_cases ha : area = 9
    case neg =>
      have hd : (area == 9) = false := by simpa using ha
      rw [hd] at HR2
      go_wp2
      go_ret
      exact ⟨ret_bool (by rw [HR2.out]; rfl), B0⟩
    subst ha
    go_wp2_with fail
    refine (H4.out _).mono ?_
    rintro e w1 ⟨rfl, rfl⟩
    cases q4
    · go_wp2
      go_ret
      exact ⟨ret_bool (by rw [HR2.out]; rfl), B0⟩
    by_cases hn0 : ns.length = 0
    case neg =>
      have hd : ((ns.length : Int) == 0) = false := by simp; intro h; rw [h] at hn0; exact hn0 rfl
      have hR2 : R = false := by rw [HR2.out, show (ns.length == 0) = false by simpa using hn0]; rfl
      have HR3 := hide hR2
      clear hR2 hn0 HR2
      go_wp2
      go_ret
      exact ⟨ret_bool HR3.out, B0⟩
    have hd : ((ns.length : Int) == 0) = true := by simp; exact List.length_eq_zero_iff.1 hn0
    have HR3 := hide (show R = (q5 || cost == 60000) by have := HR2.out; rw [show (ns.length == 0) = true by simpa using hn0] at this; simpa using this)
    clear hn0 HR2
    go_wp2_with fail
    refine (H5.out _).mono ?_
    rintro e w1 ⟨rfl, rfl⟩
    cases q5
    · go_wp2
      go_ret
      exact ⟨ret_bool (by rw [HR3.out]; rfl), B0⟩
    · go_wp2
      go_ret
      exact ⟨ret_bool (by rw [HR3.out]; rfl), B0⟩
  have k3 : (kind == 3) = false := by simpa using hk3
  have hR2 : R = false := by rw [HR.out, if_neg hk1, if_neg hk2, if_neg hk3]; rfl
  have HR2 := hide hR2
  clear hR2 HR hk1 hk2 hk3
  go_wp2
  go_ret
  exact ⟨ret_bool HR2.out, B0⟩
end Go.Proofs.YtchmmekhfcojgaaGreatDoor
namespace Go.Proofs.YtchmmekhfcojgaaGreatDoor
open Go.RowKit

def nilC : Array Value := #[.int .i64 0, .int .i64 0, .int .i64 0, .int .i64 0, .int .i64 0, .slice none 0 0, .int .i64 0, .bool false]

theorem as1_1 (v : Value) (w : World) : (Instr.typeAssert (.iface 141 v) 128 141 true).run Tryz.prog w = .ok (.tuple #[v, .bool true]) w := by kernel_rfl

theorem as2_1 (v : Value) (w : World) : (Instr.typeAssert (.iface 142 v) 128 141 true).run Tryz.prog w = .ok (.tuple #[.agg nilC, .bool false]) w := by kernel_rfl

theorem as2_2 (v : Value) (w : World) : (Instr.typeAssert (.iface 142 v) 128 142 true).run Tryz.prog w = .ok (.tuple #[v, .bool true]) w := by kernel_rfl

theorem as3_1 (v : Value) (w : World) : (Instr.typeAssert (.iface 143 v) 128 141 true).run Tryz.prog w = .ok (.tuple #[.agg nilC, .bool false]) w := by kernel_rfl

theorem as3_2 (v : Value) (w : World) : (Instr.typeAssert (.iface 143 v) 128 142 true).run Tryz.prog w = .ok (.tuple #[.agg nilC, .bool false]) w := by kernel_rfl

theorem as3_3 (v : Value) (w : World) : (Instr.typeAssert (.iface 143 v) 128 143 true).run Tryz.prog w = .ok (.tuple #[v, .bool true]) w := by kernel_rfl

set_option maxRecDepth 100000 in
set_option maxHeartbeats 400000 in
theorem bodyNode_any (v1 : Value) (x : RecD) (w : World) (hl : x.near.length ≤ 1048576) (hv : NearsAt w v1 x.near w.heap.size) :
    Calls Tryz.prog 100 #[.iface 141 (.agg (recC x v1))] w fun e w' => e = .returned (.bool (nearsB x.owner x.near && x.cost == 0 && !x.far)) ∧ Below w.heap.size w w' := by
  obtain ⟨p1, c1, rfl⟩ := hv.shape
  have HN := hide (fun W (h : Below w.heap.size w W) => inear_any x.owner (.slice p1 x.near.length c1) x.near W hl (hv.then h))
  obtain ⟨qn, hqn⟩ : ∃ q, q = nearsB x.owner x.near := ⟨_, rfl⟩
  rw [← hqn] at HN ⊢
  clear hqn hv
  obtain ⟨area, kind, owner, key, seq, ns, cost, far⟩ := x
  unfold recC
  simp only [] at HN hl ⊢
  have a1 := as1_1
  have B0 : Below w.heap.size w (w.alloc (.cells #[.int .i64 area, .int .i64 kind, .int .i64 owner, .int .i64 key, .int .i64 seq, .slice p1 ns.length c1, .int .i64 cost, .bool far] 141)) := (Below.refl _ _).alloc (Nat.le_refl _) _
  have NEW := hide (heap_alloc_new w (.cells #[.int .i64 area, .int .i64 kind, .int .i64 owner, .int .i64 key, .int .i64 seq, .slice p1 ns.length c1, .int .i64 cost, .bool far] 141))
  go_enter Tryz.func100, Tryz.ntmps100
  go_wp2_with fail
  refine (HN.out _ B0).mono ?_
  rintro e w1 ⟨rfl, b1⟩
  have hx1 : w1.heap[w.heap.size]? = some (.cells #[.int .i64 area, .int .i64 kind, .int .i64 owner, .int .i64 key, .int .i64 seq, .slice p1 ns.length c1, .int .i64 cost, .bool far] 141) := by rw [b1.block _ (by simp)]; exact NEW.out
  have f6 := cells_at hx1 6
  have f7 := cells_at hx1 7
  simp at f6 f7
  have B1 := B0.trans (b1.mono B0.size)
  clear hx1 b1 NEW HN
  cases qn
  · go_wp2
    go_ret
    exact ⟨by simp, B1⟩
  by_cases hc : cost = 0
  case neg =>
    have hd : (cost == 0) = false := by simpa using hc
    go_wp2
    go_ret
    exact ⟨by simp [hd], B1⟩
  subst hc
  cases far
  all_goals
    go_wp2
    go_ret
    exact ⟨by simp, B1⟩

set_option maxRecDepth 100000 in
set_option maxHeartbeats 400000 in
theorem bodyBeyond_any (v1 : Value) (x : RecD) (w : World) (hl : x.near.length ≤ 1048576) (hv : NearsAt w v1 x.near w.heap.size) :
    Calls Tryz.prog 100 #[.iface 142 (.agg (recC x v1))] w fun e w' => e = .returned (.bool (x.near.length == 0 && inB x.cost 0 60000 && !x.far)) ∧ Below w.heap.size w w' := by
  obtain ⟨p1, c1, rfl⟩ := hv.shape
  clear hv
  have H5 := hide (isIn_any x.cost 0 60000)
  obtain ⟨q5, hq5⟩ : ∃ q, q = inB x.cost 0 60000 := ⟨_, rfl⟩
  rw [← hq5] at H5 ⊢
  clear hq5
  obtain ⟨area, kind, owner, key, seq, ns, cost, far⟩ := x
  unfold recC
  simp only [] at H5 hl ⊢
  have a1 := as2_1
  have a2 := as2_2
  have B0 : Below w.heap.size w (w.alloc (.cells #[.int .i64 area, .int .i64 kind, .int .i64 owner, .int .i64 key, .int .i64 seq, .slice p1 ns.length c1, .int .i64 cost, .bool far] 142)) := (Below.refl _ _).alloc (Nat.le_refl _) _
  by_cases hn0 : ns.length = 0
  case neg =>
    have hd : ((ns.length : Int) == 0) = false := by simp; intro h; rw [h] at hn0; exact hn0 rfl
    have hd2 : (ns.length == 0) = false := by simpa using hn0
    rw [hd2]
    clear hn0 hd2
    go_enter Tryz.func100, Tryz.ntmps100
    go_wp2
    go_ret
    exact ⟨by simp, B0⟩
  have hd : ((ns.length : Int) == 0) = true := by simp; exact List.length_eq_zero_iff.1 hn0
  have hd2 : (ns.length == 0) = true := by simpa using hn0
  rw [hd2]
  clear hn0 hd2
  go_enter Tryz.func100, Tryz.ntmps100
  go_wp2_with fail
  refine (H5.out _).mono ?_
  rintro e w1 ⟨rfl, rfl⟩
  cases q5
  · go_wp2
    go_ret
    exact ⟨by simp, B0⟩
  cases far
  all_goals
    go_wp2
    go_ret
    exact ⟨by simp, B0⟩

set_option maxRecDepth 100000 in
set_option maxHeartbeats 400000 in
theorem bodyThing_any (v1 : Value) (x : RecD) (w : World) (hl : x.near.length ≤ 1048576) (hv : NearsAt w v1 x.near w.heap.size) :
    Calls Tryz.prog 100 #[.iface 143 (.agg (recC x v1))] w fun e w' => e = .returned (.bool (x.near.length == 0 && (inB x.cost 1 1000 || x.cost == 60000))) ∧ Below w.heap.size w w' := by
  obtain ⟨p1, c1, rfl⟩ := hv.shape
  clear hv
  have H5 := hide (isIn_any x.cost 1 1000)
  obtain ⟨q5, hq5⟩ : ∃ q, q = inB x.cost 1 1000 := ⟨_, rfl⟩
  rw [← hq5] at H5 ⊢
  clear hq5
  obtain ⟨area, kind, owner, key, seq, ns, cost, far⟩ := x
  unfold recC
  simp only [] at H5 hl ⊢
  have a1 := as3_1
  have a2 := as3_2
  have a3 := as3_3
  have B0 : Below w.heap.size w (w.alloc (.cells #[.int .i64 area, .int .i64 kind, .int .i64 owner, .int .i64 key, .int .i64 seq, .slice p1 ns.length c1, .int .i64 cost, .bool far] 143)) := (Below.refl _ _).alloc (Nat.le_refl _) _
  by_cases hn0 : ns.length = 0
  case neg =>
    have hd : ((ns.length : Int) == 0) = false := by simp; intro h; rw [h] at hn0; exact hn0 rfl
    have hd2 : (ns.length == 0) = false := by simpa using hn0
    rw [hd2]
    clear hn0 hd2
    go_enter Tryz.func100, Tryz.ntmps100
    go_wp2
    go_ret
    exact ⟨by simp, B0⟩
  have hd : ((ns.length : Int) == 0) = true := by simp; exact List.length_eq_zero_iff.1 hn0
  have hd2 : (ns.length == 0) = true := by simpa using hn0
  rw [hd2]
  clear hn0 hd2
  go_enter Tryz.func100, Tryz.ntmps100
  go_wp2_with fail
  refine (H5.out _).mono ?_
  rintro e w1 ⟨rfl, rfl⟩
  cases q5
  all_goals
    go_wp2
    go_ret
    exact ⟨by simp, B0⟩

end Go.Proofs.YtchmmekhfcojgaaGreatDoor
