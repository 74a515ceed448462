/-
  impl.ofItsKind, the three keyOk methods: their contracts.
  impl.orderOfNear, impl.ascends of nears, impl.nearOk: their contracts.
  impl.bodyOk: its contract.
  impl.RecordOk: its contract.
-/
import Derived.Test.YtcimbiinljcifaaGreatLe3
import Derived.Test.YtcimbiinljcifaaGreatLe8
import Derived.Test.YtcimbiinljcifaaGreatLe10
import Derived.Test.YtcimbiinljcifaaGreatLe11
namespace Go.Proofs.YtcimbiinljcifaaGreat
open Go.RowKit

/-- what ofItsKind answers -/
def kindV (x : RecD) (v1 : Value) : Value :=
  if x.kind = 1 then .tuple #[.iface 174 (.agg (recC x v1)), .bool true]
  else if x.kind = 2 then .tuple #[.iface 175 (.agg (recC x v1)), .bool true]
  else if x.kind = 3 then .tuple #[.iface 176 (.agg (recC x v1)), .bool true]
  else .tuple #[.nilIface, .bool false]

set_option maxRecDepth 100000 in
set_option maxHeartbeats 4000000 in
theorem kind_any (v1 : Value) (x : RecD) (w : World) :
    Calls Tryz.prog 120 #[.agg (recC x v1)] w fun e w' => e = .returned (kindV x v1) ∧ Below w.heap.size w w' := by
  have hV : kindV x v1 = kindV x v1 := rfl
  obtain ⟨area, kind, owner, key, seq, ns, cost, far⟩ := x
  by_cases hk1 : kind = 1
  · subst hk1
    have e : kindV ⟨area, 1, owner, key, seq, ns, cost, far⟩ v1 = .tuple #[.iface 174 (.agg (recC ⟨area, 1, owner, key, seq, ns, cost, far⟩ v1)), .bool true] := rfl
    rw [e]
    unfold recC
    simp only []
    clear e hV
    go_enter Tryz.func120, Tryz.ntmps120
    go_wp2
    go_ret2
    exact ⟨rfl, (Below.refl _ _).alloc (Nat.le_refl _) _⟩
  have k1 : (kind == 1) = false := by simpa using hk1
  by_cases hk2 : kind = 2
  · subst hk2
    have e : kindV ⟨area, 2, owner, key, seq, ns, cost, far⟩ v1 = .tuple #[.iface 175 (.agg (recC ⟨area, 2, owner, key, seq, ns, cost, far⟩ v1)), .bool true] := rfl
    rw [e]
    unfold recC
    simp only []
    clear e hV k1 hk1
    go_enter Tryz.func120, Tryz.ntmps120
    go_wp2
    go_ret2
    exact ⟨rfl, (Below.refl _ _).alloc (Nat.le_refl _) _⟩
  have k2 : (kind == 2) = false := by simpa using hk2
  by_cases hk3 : kind = 3
  · subst hk3
    have e : kindV ⟨area, 3, owner, key, seq, ns, cost, far⟩ v1 = .tuple #[.iface 176 (.agg (recC ⟨area, 3, owner, key, seq, ns, cost, far⟩ v1)), .bool true] := rfl
    rw [e]
    unfold recC
    simp only []
    clear e hV k1 hk1 k2 hk2
    go_enter Tryz.func120, Tryz.ntmps120
    go_wp2
    go_ret2
    exact ⟨rfl, (Below.refl _ _).alloc (Nat.le_refl _) _⟩
  have k3 : (kind == 3) = false := by simpa using hk3
  have e : kindV ⟨area, kind, owner, key, seq, ns, cost, far⟩ v1 = .tuple #[.nilIface, .bool false] := by unfold kindV; rw [if_neg hk1, if_neg hk2, if_neg hk3]
  rw [e]
  unfold recC
  simp only []
  clear e hV hk1 hk2 hk3
  go_enter Tryz.func120, Tryz.ntmps120
  go_wp2
  go_ret2
  exact ⟨rfl, (Below.refl _ _).alloc (Nat.le_refl _) _⟩

set_option maxRecDepth 100000 in
set_option maxHeartbeats 4000000 in
theorem nodeKey_any (v1 : Value) (x : RecD) (w : World) :
    Calls Tryz.prog 171 #[.agg (recC x v1)] w fun e w' => e = .returned (.bool (inB x.area 0 2 && x.key == 0)) ∧ Below w.heap.size w w' := by
  obtain ⟨area, kind, owner, key, seq, ns, cost, far⟩ := x
  unfold recC
  simp only []
  have H1 := hide (isIn_any area 0 2)
  obtain ⟨q1, hq1⟩ : ∃ q, q = inB area 0 2 := ⟨_, rfl⟩
  rw [← hq1] at H1 ⊢
  clear hq1
  go_enter Tryz.func171, Tryz.ntmps171
  go_wp2_with fail
  refine (H1.out _).mono ?_
  rintro e w1 ⟨rfl, rfl⟩
  cases q1
  · go_wp2
    go_ret
    exact ⟨by simp, (Below.refl _ _).alloc (Nat.le_refl _) _⟩
  · go_wp2
    go_ret
    exact ⟨by simp, (Below.refl _ _).alloc (Nat.le_refl _) _⟩

set_option maxRecDepth 100000 in
set_option maxHeartbeats 4000000 in
theorem beyondKey_any (v1 : Value) (x : RecD) (w : World) :
    Calls Tryz.prog 172 #[.agg (recC x v1)] w fun e w' => e = .returned (.bool (inB x.area 0 2 && inB x.key 1 6)) ∧ Below w.heap.size w w' := by
  obtain ⟨area, kind, owner, key, seq, ns, cost, far⟩ := x
  unfold recC
  simp only []
  have H1 := hide (isIn_any area 0 2)
  have H2 := hide (isIn_any key 1 6)
  obtain ⟨q1, hq1⟩ : ∃ q, q = inB area 0 2 := ⟨_, rfl⟩
  obtain ⟨q2, hq2⟩ : ∃ q, q = inB key 1 6 := ⟨_, rfl⟩
  rw [← hq1] at H1 ⊢
  rw [← hq2] at H2 ⊢
  clear hq1 hq2
  go_enter Tryz.func172, Tryz.ntmps172
  go_wp2_with fail
  refine (H1.out _).mono ?_
  rintro e w1 ⟨rfl, rfl⟩
  cases q1
  · go_wp2
    go_ret
    exact ⟨by simp, (Below.refl _ _).alloc (Nat.le_refl _) _⟩
  · go_wp2_with fail
    refine (H2.out _).mono ?_
    rintro e w1 ⟨rfl, rfl⟩
    go_wp2
    go_ret
    exact ⟨by simp, (Below.refl _ _).alloc (Nat.le_refl _) _⟩

set_option maxRecDepth 100000 in
set_option maxHeartbeats 4000000 in
theorem thingKey_any (v1 : Value) (x : RecD) (w : World) :
    Calls Tryz.prog 173 #[.agg (recC x v1)] w fun e w' => e = .returned (.bool (x.area == 9 && inB x.key 1 9)) ∧ Below w.heap.size w w' := by
  obtain ⟨area, kind, owner, key, seq, ns, cost, far⟩ := x
  unfold recC
  simp only []
  have H2 := hide (isIn_any key 1 9)
  obtain ⟨q2, hq2⟩ : ∃ q, q = inB key 1 9 := ⟨_, rfl⟩
  rw [← hq2] at H2 ⊢
  clear hq2
  by_cases ha : area = 9
  · subst ha
    go_enter Tryz.func173, Tryz.ntmps173
    go_wp2_with fail
    refine (H2.out _).mono ?_
    rintro e w1 ⟨rfl, rfl⟩
    go_wp2
    go_ret
    exact ⟨by simp, (Below.refl _ _).alloc (Nat.le_refl _) _⟩
  · have hd : (area == 9) = false := by simpa using ha
    go_enter Tryz.func173, Tryz.ntmps173
    go_wp2
    go_ret
    exact ⟨by simp [hd], (Below.refl _ _).alloc (Nat.le_refl _) _⟩
end Go.Proofs.YtcimbiinljcifaaGreat
namespace Go.Proofs.YtcimbiinljcifaaGreat
open Go.RowKit

def cmpNr (p l : Nr) : Int := cmpN p.to l.to

theorem asc_cmp (ls : List Nr) : ascB cmpNr ls = ascB ordN ls := by
  unfold ascB
  congr 1
  funext k
  cases k with
  | zero => rfl
  | succ k =>
    simp only [ascAt]
    split
    · rename_i p l _ _
      have h : (cmpNr p l < 0) ↔ (ordN p l < 0) := by
        unfold cmpNr ordN
        rw [cmpN_neg]
        omega
      exact decide_eq_decide.2 h
    · rfl

set_option maxRecDepth 100000 in
set_option maxHeartbeats 1000000 in
theorem orderNear_any (l m : Nr) (w : World) : Calls Tryz.prog 144 #[nrV l, nrV m] w fun e w' => e = .returned (.int .i64 (cmpNr l m)) ∧ Below w.heap.size w w' := by
  obtain ⟨a, b⟩ := l
  obtain ⟨a', b'⟩ := m
  unfold nrV cmpNr
  simp only []
  have H := hide (compare_any a a')
  go_enter Tryz.func144, Tryz.ntmps144
  go_wp2_with fail
  refine (H.out _).mono ?_
  rintro e w1 ⟨rfl, rfl⟩
  go_wp2
  go_ret
  exact ⟨rfl, below_two _ _⟩

set_option maxRecDepth 100000 in
set_option maxHeartbeats 4000000 in
theorem ascNear_any (v : Value) (ls : List Nr) (w : World) (hls : ls.length ≤ 1048576) (hv : NearsAt w v ls w.heap.size) :
    Calls Tryz.prog 143 #[v, .func (.func 144) #[] #[]] w fun e w' => e = .returned (.bool (ascB cmpNr ls)) ∧ Below w.heap.size w w' := by
  obtain ⟨a, cap, rfl⟩ := hv.shape
  have HV := hide hv
  clear hv
  go_enter Tryz.func143, Tryz.ntmps143
  go_wp2
  go_loopw [5] (fun i wr => ∃ k : Nat, 1 ≤ k ∧ (k ≤ ls.length ∨ k = 1) ∧ i = .int .i64 k ∧ (∀ j, j < k → ascAt cmpNr ls j = true) ∧ Below w.heap.size w wr) (fun i _ => ls.length + 1 - (intOf i).toNat)
  case atStart => exact ⟨1, by omega, by omega, rfl, fun j hj => by obtain rfl : j = 0 := by omega
                                                                    rfl, Below.refl _ _⟩
  case round =>
    obtain ⟨k, hk1, hk, rfl, hno, hb⟩ := hrel
    have HNO := hide hno
    clear hno
    by_cases hlt : k < ls.length
    · obtain ⟨l, hl⟩ : ∃ l, ls[k]? = some l := ⟨ls[k], List.getElem?_eq_getElem hlt⟩
      obtain ⟨j, hj⟩ : ∃ j, k = j + 1 := ⟨k - 1, by omega⟩
      obtain ⟨p, hp⟩ : ∃ p, ls[j]? = some p := ⟨ls[j], List.getElem?_eq_getElem (by omega)⟩
      obtain ⟨b, off, cap', hve, hbb, c0, c1⟩ := HV.out.cells k l hl
      cases hve
      obtain ⟨b', off', cap2, hve2, hbb2, d0, d1⟩ := HV.out.cells j p hp
      cases hve2
      rw [← hb.cell (p := ⟨b, off + k * 2, none⟩) hbb] at c0
      rw [← hb.cell (p := ⟨b, off + k * 2 + 1, none⟩) hbb] at c1
      rw [← hb.cell (p := ⟨b, off + j * 2, none⟩) hbb] at d0
      rw [← hb.cell (p := ⟨b, off + j * 2 + 1, none⟩) hbb] at d1
      have hat : ascAt cmpNr ls k = decide (cmpNr p l < 0) := by rw [hj]; exact ascAt_eq hp (by rw [← hj]; exact hl)
      have hzr := hb.size
      have hbr : b < wr.heap.size := by omega
      have hki : (0 : Int) ≤ (k : Int) := by omega
      have hkj : (k : Int) < (ls.length : Int) := by omega
      have hj1 : (k : Int) - 1 = (j : Int) := by omega
      have hj2 : (0 : Int) ≤ (j : Int) := by omega
      have hj3 : (j : Int) < (ls.length : Int) := by omega
      have hj5 : IntKind.i64.wrap (j : Int) = (j : Int) := wrap_fit _ (by omega) (by omega)
      have HORD := hide (orderNear_any p l)
      have HAT := hide hat
      have HJ := hide hj
      clear hl hp hat hj
      obtain ⟨x, hx⟩ : ∃ x, x = cmpNr p l := ⟨_, rfl⟩
      rw [← hx] at HORD HAT
      clear hx
      unfold nrV at HORD
      by_cases hx0 : x < 0
      · have hx1 : ¬ (0 : Int) ≤ x := by omega
        rw [decide_eq_true hx0] at HAT
        go_wp2
        go_region_held3 (fun W => W.cell? ⟨b, off + k * 2, none⟩ = some (.int .i64 l.to) ∧ W.cell? ⟨b, off + k * 2 + 1, none⟩ = some (.int .i64 l.c) ∧ W.cell? ⟨b, off + j * 2, none⟩ = some (.int .i64 p.to) ∧ W.cell? ⟨b, off + j * 2 + 1, none⟩ = some (.int .i64 p.c)) (first | go_keep | (refine ⟨?_, ?_, ?_, ?_⟩ <;> (rw [hbc.cell (by assumption)]; assumption))) (first | (go_at_call 144; refine (HORD.out _).mono ?_; rintro e w2 ⟨rfl, hbc⟩))
        go_wp2
        exact ⟨⟨k + 1, by omega, by omega, by go_num, next_true HNO.out HAT.out, hb.drew.trans (hbc.mono hb.size)⟩, by simp [intOf]; omega⟩
      · have hx1 : (0 : Int) ≤ x := by omega
        rw [decide_eq_false hx0] at HAT
        have hf : ascB cmpNr ls = false := all_false hlt HAT.out
        have HF := hide hf
        clear hf
        go_wp2
        go_region_held3 (fun W => W.cell? ⟨b, off + k * 2, none⟩ = some (.int .i64 l.to) ∧ W.cell? ⟨b, off + k * 2 + 1, none⟩ = some (.int .i64 l.c) ∧ W.cell? ⟨b, off + j * 2, none⟩ = some (.int .i64 p.to) ∧ W.cell? ⟨b, off + j * 2 + 1, none⟩ = some (.int .i64 p.c)) (first | go_keep | (refine ⟨?_, ?_, ?_, ?_⟩ <;> (rw [hbc.cell (by assumption)]; assumption))) (first | (go_at_call 144; refine (HORD.out _).mono ?_; rintro e w2 ⟨rfl, hbc⟩))
        go_wp2
        go_ret
        exact ⟨ret_bool HF.out, hb.drew.trans (hbc.mono hb.size)⟩
    · have hall : ascB cmpNr ls = true := all_true fun i hi => HNO.out i (by omega)
      have HA := hide hall
      clear hall
      go_wp2
      go_ret
      exact ⟨ret_bool HA.out, hb⟩

set_option maxRecDepth 100000 in
set_option maxHeartbeats 4000000 in
theorem inear_any (o : Int) (v : Value) (ls : List Nr) (w : World) (hls : ls.length ≤ 1048576) (hv : NearsAt w v ls w.heap.size) :
    Calls Tryz.prog 136 #[.int .i64 o, v] w fun e w' => e = .returned (.bool (nearsB o ls)) ∧ Below w.heap.size w w' := by
  obtain ⟨a, cap, rfl⟩ := hv.shape
  have HV := hide hv
  clear hv
  go_enter Tryz.func136, Tryz.ntmps136
  go_wp2
  go_loopw [9] (fun i wr => ∃ k : Nat, k ≤ ls.length ∧ i = .int .i64 k ∧ (∀ j, j < k → okAt (nearOkB o) ls j = true) ∧ Below w.heap.size w wr) (fun i _ => ls.length - (intOf i).toNat)
  case atStart => exact ⟨0, by omega, rfl, by omega, Below.refl _ _⟩
  case round =>
    obtain ⟨k, hk, rfl, hno, hb⟩ := hrel
    have HNO := hide hno
    clear hno
    by_cases hlt : k < ls.length
    · obtain ⟨l, hl⟩ : ∃ l, ls[k]? = some l := ⟨ls[k], List.getElem?_eq_getElem hlt⟩
      obtain ⟨b, off, cap', hve, hbb, c0, c1⟩ := HV.out.cells k l hl
      cases hve
      rw [← hb.cell (p := ⟨b, off + k * 2, none⟩) hbb] at c0
      rw [← hb.cell (p := ⟨b, off + k * 2 + 1, none⟩) hbb] at c1
      have hki : (0 : Int) ≤ (k : Int) := by omega
      have hkj : (k : Int) < (ls.length : Int) := by omega
      have HAT := hide (okAt_eq (ok := nearOkB o) hl)
      obtain ⟨lt, lc⟩ := l
      simp only [nearOkB] at HAT c0 c1
      obtain ⟨q1, hq1⟩ : ∃ q, q = inB lt 1 6 := ⟨_, rfl⟩
      obtain ⟨q3, hq3⟩ : ∃ q, q = inB lc 1 1000 := ⟨_, rfl⟩
      have H1 := hide (isIn_any lt 1 6)
      have H3 := hide (isIn_any lc 1 1000)
      rw [← hq1] at H1 HAT
      rw [← hq3] at H3 HAT
      clear hl hq1 hq3
      have hzr := hb.size
      have B2 : Below w.heap.size w (wr.alloc (.cells #[.int .i64 lt, .int .i64 lc] 98)) := hb.alloc hb.size _
      go_wp2_with fail
      refine (H1.out _).mono ?_
      rintro e w2 ⟨rfl, rfl⟩
      cases q1
      · have hf : nearsB o ls = false := by unfold nearsB allOk; rw [all_false hlt HAT.out]; rfl
        have HF := hide hf
        clear hf
        go_wp2
        go_ret
        exact ⟨ret_bool HF.out, B2⟩
      by_cases hlo : lt = o
      · have hd : (lt == o) = true := by simpa using hlo
        have hf : nearsB o ls = false := by
          have := HAT.out
          rw [hd] at this
          unfold nearsB allOk; rw [all_false hlt this]; rfl
        have HF := hide hf
        clear hf hlo HAT
        go_wp2
        go_ret
        exact ⟨ret_bool HF.out, B2⟩
      have hd : (lt == o) = false := by simpa using hlo
      rw [hd] at HAT
      clear hlo
      go_wp2_with fail
      refine (H3.out _).mono ?_
      rintro e w2 ⟨rfl, rfl⟩
      cases q3
      · have hf : nearsB o ls = false := by unfold nearsB allOk; rw [all_false hlt HAT.out]; rfl
        have HF := hide hf
        clear hf
        go_wp2
        go_ret
        exact ⟨ret_bool HF.out, B2⟩
      · go_wp2
        exact ⟨⟨k + 1, by omega, by go_num, next_true HNO.out HAT.out, B2⟩, by simp [intOf]; omega⟩
    · have hall : allOk (nearOkB o) ls = true := all_true fun i hi => HNO.out i (by omega)
      have hF : nearsB o ls = ascB cmpNr ls := by unfold nearsB; rw [hall, asc_cmp]; rfl
      have HF := hide hF
      clear hF hall
      have HVR := hide (HV.out.then hb)
      go_wp2_with fail
      refine (ascNear_any _ ls _ hls HVR.out).mono ?_
      rintro e w2 ⟨rfl, hbc⟩
      go_wp2
      go_ret
      exact ⟨ret_bool HF.out, hb.trans (hbc.mono hb.size)⟩
end Go.Proofs.YtcimbiinljcifaaGreat
namespace Go.Proofs.YtcimbiinljcifaaGreat
open Go.RowKit

def nilC : Array Value := #[.int .i64 0, .int .i64 0, .int .i64 0, .int .i64 0, .int .i64 0, .slice none 0 0, .int .i64 0, .bool false]

theorem as1_1 (v : Value) (w : World) : (Instr.typeAssert (.iface 174 v) 157 174 true).run Tryz.prog w = .ok (.tuple #[v, .bool true]) w := by kernel_rfl

theorem as2_1 (v : Value) (w : World) : (Instr.typeAssert (.iface 175 v) 157 174 true).run Tryz.prog w = .ok (.tuple #[.agg nilC, .bool false]) w := by kernel_rfl

theorem as2_2 (v : Value) (w : World) : (Instr.typeAssert (.iface 175 v) 157 175 true).run Tryz.prog w = .ok (.tuple #[v, .bool true]) w := by kernel_rfl

theorem as3_1 (v : Value) (w : World) : (Instr.typeAssert (.iface 176 v) 157 174 true).run Tryz.prog w = .ok (.tuple #[.agg nilC, .bool false]) w := by kernel_rfl

theorem as3_2 (v : Value) (w : World) : (Instr.typeAssert (.iface 176 v) 157 175 true).run Tryz.prog w = .ok (.tuple #[.agg nilC, .bool false]) w := by kernel_rfl

theorem as3_3 (v : Value) (w : World) : (Instr.typeAssert (.iface 176 v) 157 176 true).run Tryz.prog w = .ok (.tuple #[v, .bool true]) w := by kernel_rfl

set_option maxRecDepth 100000 in
set_option maxHeartbeats 400000 in
theorem bodyNode_any (v1 : Value) (x : RecD) (w : World) (hl : x.near.length ≤ 1048576) (hv : NearsAt w v1 x.near w.heap.size) :
    Calls Tryz.prog 121 #[.iface 174 (.agg (recC x v1))] w fun e w' => e = .returned (.bool (nearsB x.owner x.near && x.cost == 0 && !x.far)) ∧ Below w.heap.size w w' := by
  obtain ⟨p1, c1, rfl⟩ := hv.shape
  have HN := hide (fun W (h : Below w.heap.size w W) => inear_any x.owner (.slice p1 x.near.length c1) x.near W hl (hv.then h))
  obtain ⟨qn, hqn⟩ : ∃ q, q = nearsB x.owner x.near := ⟨_, rfl⟩
  rw [← hqn] at HN ⊢
  clear hqn hv
  obtain ⟨area, kind, owner, key, seq, ns, cost, far⟩ := x
  unfold recC
  simp only [] at HN hl ⊢
  have a1 := as1_1
  have B0 : Below w.heap.size w (w.alloc (.cells #[.int .i64 area, .int .i64 kind, .int .i64 owner, .int .i64 key, .int .i64 seq, .slice p1 ns.length c1, .int .i64 cost, .bool far] 174)) := (Below.refl _ _).alloc (Nat.le_refl _) _
  have NEW := hide (heap_alloc_new w (.cells #[.int .i64 area, .int .i64 kind, .int .i64 owner, .int .i64 key, .int .i64 seq, .slice p1 ns.length c1, .int .i64 cost, .bool far] 174))
  go_enter Tryz.func121, Tryz.ntmps121
  go_wp2_with fail
  refine (HN.out _ B0).mono ?_
  rintro e w1 ⟨rfl, b1⟩
  have hx1 : w1.heap[w.heap.size]? = some (.cells #[.int .i64 area, .int .i64 kind, .int .i64 owner, .int .i64 key, .int .i64 seq, .slice p1 ns.length c1, .int .i64 cost, .bool far] 174) := by rw [b1.block _ (by simp)]; exact NEW.out
  have f6 := cells_at hx1 6
  have f7 := cells_at hx1 7
  simp at f6 f7
  have B1 := B0.trans (b1.mono B0.size)
  clear hx1 b1 NEW HN
  cases qn
  · go_wp2
    go_ret
    exact ⟨by simp, B1⟩
  by_cases hc : cost = 0
  case neg =>
    have hd : (cost == 0) = false := by simpa using hc
    go_wp2
    go_ret
    exact ⟨by simp [hd], B1⟩
  subst hc
  cases far
  all_goals
    go_wp2
    go_ret
    exact ⟨by simp, B1⟩

set_option maxRecDepth 100000 in
set_option maxHeartbeats 400000 in
theorem bodyBeyond_any (v1 : Value) (x : RecD) (w : World) (hl : x.near.length ≤ 1048576) (hv : NearsAt w v1 x.near w.heap.size) :
    Calls Tryz.prog 121 #[.iface 175 (.agg (recC x v1))] w fun e w' => e = .returned (.bool (x.near.length == 0 && inB x.cost 0 60000 && !x.far)) ∧ Below w.heap.size w w' := by
  obtain ⟨p1, c1, rfl⟩ := hv.shape
  clear hv
  have H5 := hide (isIn_any x.cost 0 60000)
  obtain ⟨q5, hq5⟩ : ∃ q, q = inB x.cost 0 60000 := ⟨_, rfl⟩
  rw [← hq5] at H5 ⊢
  clear hq5
  obtain ⟨area, kind, owner, key, seq, ns, cost, far⟩ := x
  unfold recC
  simp only [] at H5 hl ⊢
  have a1 := as2_1
  have a2 := as2_2
  have B0 : Below w.heap.size w (w.alloc (.cells #[.int .i64 area, .int .i64 kind, .int .i64 owner, .int .i64 key, .int .i64 seq, .slice p1 ns.length c1, .int .i64 cost, .bool far] 175)) := (Below.refl _ _).alloc (Nat.le_refl _) _
  by_cases hn0 : ns.length = 0
  case neg =>
    have hd : ((ns.length : Int) == 0) = false := by simp; intro h; rw [h] at hn0; exact hn0 rfl
    have hd2 : (ns.length == 0) = false := by simpa using hn0
    rw [hd2]
    clear hn0 hd2
    go_enter Tryz.func121, Tryz.ntmps121
    go_wp2
    go_ret
    exact ⟨by simp, B0⟩
  have hd : ((ns.length : Int) == 0) = true := by simp; exact List.length_eq_zero_iff.1 hn0
  have hd2 : (ns.length == 0) = true := by simpa using hn0
  rw [hd2]
  clear hn0 hd2
  go_enter Tryz.func121, Tryz.ntmps121
  go_wp2_with fail
  refine (H5.out _).mono ?_
  rintro e w1 ⟨rfl, rfl⟩
  cases q5
  · go_wp2
    go_ret
    exact ⟨by simp, B0⟩
  cases far
  all_goals
    go_wp2
    go_ret
    exact ⟨by simp, B0⟩

set_option maxRecDepth 100000 in
set_option maxHeartbeats 400000 in
theorem bodyThing_any (v1 : Value) (x : RecD) (w : World) (hl : x.near.length ≤ 1048576) (hv : NearsAt w v1 x.near w.heap.size) :
    Calls Tryz.prog 121 #[.iface 176 (.agg (recC x v1))] w fun e w' => e = .returned (.bool (x.near.length == 0 && (inB x.cost 1 1000 || x.cost == 60000))) ∧ Below w.heap.size w w' := by
  obtain ⟨p1, c1, rfl⟩ := hv.shape
  clear hv
  have H5 := hide (isIn_any x.cost 1 1000)
  obtain ⟨q5, hq5⟩ : ∃ q, q = inB x.cost 1 1000 := ⟨_, rfl⟩
  rw [← hq5] at H5 ⊢
  clear hq5
  obtain ⟨area, kind, owner, key, seq, ns, cost, far⟩ := x
  unfold recC
  simp only [] at H5 hl ⊢
  have a1 := as3_1
  have a2 := as3_2
  have a3 := as3_3
  have B0 : Below w.heap.size w (w.alloc (.cells #[.int .i64 area, .int .i64 kind, .int .i64 owner, .int .i64 key, .int .i64 seq, .slice p1 ns.length c1, .int .i64 cost, .bool far] 176)) := (Below.refl _ _).alloc (Nat.le_refl _) _
  by_cases hn0 : ns.length = 0
  case neg =>
    have hd : ((ns.length : Int) == 0) = false := by simp; intro h; rw [h] at hn0; exact hn0 rfl
    have hd2 : (ns.length == 0) = false := by simpa using hn0
    rw [hd2]
    clear hn0 hd2
    go_enter Tryz.func121, Tryz.ntmps121
    go_wp2
    go_ret
    exact ⟨by simp, B0⟩
  have hd : ((ns.length : Int) == 0) = true := by simp; exact List.length_eq_zero_iff.1 hn0
  have hd2 : (ns.length == 0) = true := by simpa using hn0
  rw [hd2]
  clear hn0 hd2
  go_enter Tryz.func121, Tryz.ntmps121
  go_wp2_with fail
  refine (H5.out _).mono ?_
  rintro e w1 ⟨rfl, rfl⟩
  cases q5
  all_goals
    go_wp2
    go_ret
    exact ⟨by simp, B0⟩

end Go.Proofs.YtcimbiinljcifaaGreat
namespace Go.Proofs.YtcimbiinljcifaaGreat
open Go.RowKit

set_option maxRecDepth 100000 in
set_option maxHeartbeats 4000000 in
theorem irecOk_any (v1 : Value) (x : RecD) (w : World) (hl : x.near.length ≤ 1048576) (hv : NearsAt w v1 x.near w.heap.size) :
    Calls Tryz.prog 81 #[.agg (recC x v1)] w fun e w' => e = .returned (.bool (recOkB x)) ∧ Below w.heap.size w w' := by
  obtain ⟨p1, c1, rfl⟩ := hv.shape
  have HK := hide (kind_any (.slice p1 x.near.length c1) x)
  obtain ⟨R, hR⟩ : ∃ R, R = recOkB x := ⟨_, rfl⟩
  rw [← hR]
  unfold recOkB at hR
  have H1 := hide (isIn_any x.owner 1 6)
  have H2 := hide (isIn_any x.seq 1 100000)
  obtain ⟨q1, hq1⟩ : ∃ q, q = inB x.owner 1 6 := ⟨_, rfl⟩
  obtain ⟨q2, hq2⟩ : ∃ q, q = inB x.seq 1 100000 := ⟨_, rfl⟩
  rw [← hq1] at H1 hR
  rw [← hq2] at H2 hR
  clear hq1 hq2
  have B0 : Below w.heap.size w (w.alloc (.cells (recC x (.slice p1 x.near.length c1)) 40)) := (Below.refl _ _).alloc (Nat.le_refl _) _
  have hnew := heap_alloc_new w (.cells (recC x (.slice p1 x.near.length c1)) 40)
  by_cases hk1 : x.kind = 1
  · rw [if_pos hk1] at hR
    have hkv : kindV x (.slice p1 x.near.length c1) = .tuple #[.iface 174 (.agg (recC x (.slice p1 x.near.length c1))), .bool true] := by unfold kindV; rw [if_pos hk1]
    rw [hkv] at HK
    have HR := hide hR
    have HV := hide hv
    have NEW := hide hnew
    have HKEY := hide (nodeKey_any (.slice p1 x.near.length c1) x)
    have HBODY := hide (fun W (h : Below w.heap.size w W) => bodyNode_any (.slice p1 x.near.length c1) x W hl (hv.then h))
    obtain ⟨q3, hq3⟩ : ∃ q, q = (inB x.area 0 2 && x.key == 0) := ⟨_, rfl⟩
    obtain ⟨q4, hq4⟩ : ∃ q, q = (nearsB x.owner x.near && x.cost == 0 && !x.far) := ⟨_, rfl⟩
    rw [← hq3] at HKEY
    rw [← hq4] at HBODY
    have HR2 := hide (show R = (q1 && q2 && q3 && q4) by rw [HR.out, hq3, hq4]; simp only [Bool.and_assoc])
    clear hR hkv hv hnew hq3 hq4 HR hk1
    unfold recC at *
    go_enter Tryz.func81, Tryz.ntmps81
    go_wp2_with fail
    refine (HK.out _).mono ?_
    rintro e w1 ⟨rfl, b1⟩
    have hx1 : w1.heap[w.heap.size]? = some (.cells #[.int .i64 x.area, .int .i64 x.kind, .int .i64 x.owner, .int .i64 x.key, .int .i64 x.seq, .slice p1 x.near.length c1, .int .i64 x.cost, .bool x.far] 40) := by rw [b1.block _ (by simp)]; exact NEW.out
    have f2 := cells_at hx1 2
    have f4 := cells_at hx1 4
    simp at f2 f4
    have B1 := B0.trans (b1.mono B0.size)
    clear hx1 b1
    go_wp2_with fail
    refine (H1.out _).mono ?_
    rintro e w2 ⟨rfl, rfl⟩
    cases q1
    · go_wp2
      go_ret
      exact ⟨ret_bool (by rw [HR2.out]; rfl), B1⟩
    go_wp2_with fail
    refine (H2.out _).mono ?_
    rintro e w2 ⟨rfl, rfl⟩
    cases q2
    · go_wp2
      go_ret
      exact ⟨ret_bool (by rw [HR2.out]; rfl), B1⟩
    go_wp2_with fail
    refine (HKEY.out _).mono ?_
    rintro e w2 ⟨rfl, b2⟩
    have B2 := B1.trans (b2.mono B1.size)
    clear b2
    cases q3
    · go_wp2
      go_ret
      exact ⟨ret_bool (by rw [HR2.out]; rfl), B2⟩
    go_wp2_with fail
    refine (HBODY.out _ B2).mono ?_
    rintro e w3 ⟨rfl, b3⟩
    have B3 := B2.trans (b3.mono B2.size)
    clear b3
    go_wp2
    go_ret
    exact ⟨ret_bool (by rw [HR2.out]; rfl), B3⟩
  rw [if_neg hk1] at hR
  by_cases hk2 : x.kind = 2
  · rw [if_pos hk2] at hR
    have hkv : kindV x (.slice p1 x.near.length c1) = .tuple #[.iface 175 (.agg (recC x (.slice p1 x.near.length c1))), .bool true] := by unfold kindV; rw [if_neg hk1, if_pos hk2]
    rw [hkv] at HK
    have HR := hide hR
    have HV := hide hv
    have NEW := hide hnew
    have HKEY := hide (beyondKey_any (.slice p1 x.near.length c1) x)
    have HBODY := hide (fun W (h : Below w.heap.size w W) => bodyBeyond_any (.slice p1 x.near.length c1) x W hl (hv.then h))
    obtain ⟨q3, hq3⟩ : ∃ q, q = (inB x.area 0 2 && inB x.key 1 6) := ⟨_, rfl⟩
    obtain ⟨q4, hq4⟩ : ∃ q, q = (x.near.length == 0 && inB x.cost 0 60000 && !x.far) := ⟨_, rfl⟩
    rw [← hq3] at HKEY
    rw [← hq4] at HBODY
    have HR2 := hide (show R = (q1 && q2 && q3 && q4) by rw [HR.out, hq3, hq4]; simp only [Bool.and_assoc])
    clear hR hkv hv hnew hq3 hq4 HR hk1 hk2
    unfold recC at *
    go_enter Tryz.func81, Tryz.ntmps81
    go_wp2_with fail
    refine (HK.out _).mono ?_
    rintro e w1 ⟨rfl, b1⟩
    have hx1 : w1.heap[w.heap.size]? = some (.cells #[.int .i64 x.area, .int .i64 x.kind, .int .i64 x.owner, .int .i64 x.key, .int .i64 x.seq, .slice p1 x.near.length c1, .int .i64 x.cost, .bool x.far] 40) := by rw [b1.block _ (by simp)]; exact NEW.out
    have f2 := cells_at hx1 2
    have f4 := cells_at hx1 4
    simp at f2 f4
    have B1 := B0.trans (b1.mono B0.size)
    clear hx1 b1
    go_wp2_with fail
    refine (H1.out _).mono ?_
    rintro e w2 ⟨rfl, rfl⟩
    cases q1
    · go_wp2
      go_ret
      exact ⟨ret_bool (by rw [HR2.out]; rfl), B1⟩
    go_wp2_with fail
    refine (H2.out _).mono ?_
    rintro e w2 ⟨rfl, rfl⟩
    cases q2
    · go_wp2
      go_ret
      exact ⟨ret_bool (by rw [HR2.out]; rfl), B1⟩
    go_wp2_with fail
    refine (HKEY.out _).mono ?_
    rintro e w2 ⟨rfl, b2⟩
    have B2 := B1.trans (b2.mono B1.size)
    clear b2
    cases q3
    · go_wp2
      go_ret
      exact ⟨ret_bool (by rw [HR2.out]; rfl), B2⟩
    go_wp2_with fail
    refine (HBODY.out _ B2).mono ?_
    rintro e w3 ⟨rfl, b3⟩
    have B3 := B2.trans (b3.mono B2.size)
    clear b3
    go_wp2
    go_ret
    exact ⟨ret_bool (by rw [HR2.out]; rfl), B3⟩
  rw [if_neg hk2] at hR
  by_cases hk3 : x.kind = 3
  · rw [if_pos hk3] at hR
    have hkv : kindV x (.slice p1 x.near.length c1) = .tuple #[.iface 176 (.agg (recC x (.slice p1 x.near.length c1))), .bool true] := by unfold kindV; rw [if_neg hk1, if_neg hk2, if_pos hk3]
    rw [hkv] at HK
    have HR := hide hR
    have HV := hide hv
    have NEW := hide hnew
    have HKEY := hide (thingKey_any (.slice p1 x.near.length c1) x)
    have HBODY := hide (fun W (h : Below w.heap.size w W) => bodyThing_any (.slice p1 x.near.length c1) x W hl (hv.then h))
    obtain ⟨q3, hq3⟩ : ∃ q, q = (x.area == 9 && inB x.key 1 9) := ⟨_, rfl⟩
    obtain ⟨q4, hq4⟩ : ∃ q, q = (x.near.length == 0 && (inB x.cost 1 1000 || x.cost == 60000)) := ⟨_, rfl⟩
    rw [← hq3] at HKEY
    rw [← hq4] at HBODY
    have HR2 := hide (show R = (q1 && q2 && q3 && q4) by rw [HR.out, hq3, hq4]; simp only [Bool.and_assoc])
    clear hR hkv hv hnew hq3 hq4 HR hk1 hk2 hk3
    unfold recC at *
    go_enter Tryz.func81, Tryz.ntmps81
    go_wp2_with fail
    refine (HK.out _).mono ?_
    rintro e w1 ⟨rfl, b1⟩
    have hx1 : w1.heap[w.heap.size]? = some (.cells #[.int .i64 x.area, .int .i64 x.kind, .int .i64 x.owner, .int .i64 x.key, .int .i64 x.seq, .slice p1 x.near.length c1, .int .i64 x.cost, .bool x.far] 40) := by rw [b1.block _ (by simp)]; exact NEW.out
    have f2 := cells_at hx1 2
    have f4 := cells_at hx1 4
    simp at f2 f4
    have B1 := B0.trans (b1.mono B0.size)
    clear hx1 b1
    go_wp2_with fail
    refine (H1.out _).mono ?_
    rintro e w2 ⟨rfl, rfl⟩
    cases q1
    · go_wp2
      go_ret
      exact ⟨ret_bool (by rw [HR2.out]; rfl), B1⟩
    go_wp2_with fail
    refine (H2.out _).mono ?_
    rintro e w2 ⟨rfl, rfl⟩
    cases q2
    · go_wp2
      go_ret
      exact ⟨ret_bool (by rw [HR2.out]; rfl), B1⟩
    go_wp2_with fail
    refine (HKEY.out _).mono ?_
    rintro e w2 ⟨rfl, b2⟩
    have B2 := B1.trans (b2.mono B1.size)
    clear b2
    cases q3
    · go_wp2
      go_ret
      exact ⟨ret_bool (by rw [HR2.out]; rfl), B2⟩
    go_wp2_with fail
    refine (HBODY.out _ B2).mono ?_
    rintro e w3 ⟨rfl, b3⟩
    have B3 := B2.trans (b3.mono B2.size)
    clear b3
    go_wp2
    go_ret
    exact ⟨ret_bool (by rw [HR2.out]; rfl), B3⟩
  rw [if_neg hk3] at hR
  have hkv : kindV x (.slice p1 x.near.length c1) = .tuple #[.nilIface, .bool false] := by unfold kindV; rw [if_neg hk1, if_neg hk2, if_neg hk3]
  rw [hkv] at HK
  have hR2 : R = false := by rw [hR]; simp
  have HR2 := hide hR2
  clear hR hkv hv hnew hR2 H1 H2 hk1 hk2 hk3
  unfold recC at *
  go_enter Tryz.func81, Tryz.ntmps81
  go_wp2_with fail
  refine (HK.out _).mono ?_
  rintro e w1 ⟨rfl, b1⟩
  have B1 := B0.trans (b1.mono B0.size)
  clear b1
  go_wp2
  go_ret
  exact ⟨ret_bool HR2.out, B1⟩
end Go.Proofs.YtcimbiinljcifaaGreat
