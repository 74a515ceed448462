/-
  impl.ofItsKind, the three keyOk methods: their contracts.
  impl.orderOfNear, impl.ascends of nears, impl.nearOk: their contracts.
  impl.bodyOk: its contract.
  impl.RecordOk: its contract.
  impl's order of records, lists in order, impl.StoreOk: their contracts.
  slices.Equal of nears, impl.SameBody: their contracts.
  spec.l09Head, impl.headerOf: a record without what it tells.
  spec.Scope, impl.Scope: their contracts.
  Rows of ints that a call made.
-/
import Derived.Test.YtfccainebmbbdaaDoorRq1
import Derived.Test.YtfccainebmbbdaaDoorRq5
import Derived.Test.YtfccainebmbbdaaDoorRq2
import Derived.Test.YtfccainebmbbdaaDoorRq3
import Derived.Test.YtfccainebmbbdaaDoorRq4
namespace Go.Proofs.YtfccainebmbbdaaDoor
open Go.RowKit

/-- what ofItsKind answers -/
def kindV (x : RecD) (v1 : Value) : Value :=
  if x.kind = 1 then .tuple #[.iface 110 (.agg (recC x v1)), .bool true]
  else if x.kind = 2 then .tuple #[.iface 111 (.agg (recC x v1)), .bool true]
  else if x.kind = 3 then .tuple #[.iface 112 (.agg (recC x v1)), .bool true]
  else .tuple #[.nilIface, .bool false]

set_option maxRecDepth 100000 in
set_option maxHeartbeats 4000000 in
theorem kind_any (v1 : Value) (x : RecD) (w : World) :
    Calls Tryd.prog 84 #[.agg (recC x v1)] w fun e w' => e = .returned (kindV x v1) ∧ Below w.heap.size w w' := by
  have hV : kindV x v1 = kindV x v1 := rfl
  obtain ⟨area, kind, owner, key, seq, ns, cost, far⟩ := x
  by_cases hk1 : kind = 1
  · subst hk1
    have e : kindV ⟨area, 1, owner, key, seq, ns, cost, far⟩ v1 = .tuple #[.iface 110 (.agg (recC ⟨area, 1, owner, key, seq, ns, cost, far⟩ v1)), .bool true] := rfl
    rw [e]
    unfold recC
    simp only []
    clear e hV
    go_enter Tryd.func84, Tryd.ntmps84
    go_wp2
    go_ret2
    exact ⟨rfl, (Below.refl _ _).alloc (Nat.le_refl _) _⟩
  have k1 : (kind == 1) = false := by simpa using hk1
  by_cases hk2 : kind = 2
  · subst hk2
    have e : kindV ⟨area, 2, owner, key, seq, ns, cost, far⟩ v1 = .tuple #[.iface 111 (.agg (recC ⟨area, 2, owner, key, seq, ns, cost, far⟩ v1)), .bool true] := rfl
    rw [e]
    unfold recC
    simp only []
    clear e hV k1 hk1
    go_enter Tryd.func84, Tryd.ntmps84
    go_wp2
    go_ret2
    exact ⟨rfl, (Below.refl _ _).alloc (Nat.le_refl _) _⟩
  have k2 : (kind == 2) = false := by simpa using hk2
  by_cases hk3 : kind = 3
  · subst hk3
    have e : kindV ⟨area, 3, owner, key, seq, ns, cost, far⟩ v1 = .tuple #[.iface 112 (.agg (recC ⟨area, 3, owner, key, seq, ns, cost, far⟩ v1)), .bool true] := rfl
    rw [e]
    unfold recC
    simp only []
    clear e hV k1 hk1 k2 hk2
    go_enter Tryd.func84, Tryd.ntmps84
    go_wp2
    go_ret2
    exact ⟨rfl, (Below.refl _ _).alloc (Nat.le_refl _) _⟩
  have k3 : (kind == 3) = false := by simpa using hk3
  have e : kindV ⟨area, kind, owner, key, seq, ns, cost, far⟩ v1 = .tuple #[.nilIface, .bool false] := by unfold kindV; rw [if_neg hk1, if_neg hk2, if_neg hk3]
  rw [e]
  unfold recC
  simp only []
  clear e hV hk1 hk2 hk3
  go_enter Tryd.func84, Tryd.ntmps84
  go_wp2
  go_ret2
  exact ⟨rfl, (Below.refl _ _).alloc (Nat.le_refl _) _⟩

set_option maxRecDepth 100000 in
set_option maxHeartbeats 4000000 in
theorem nodeKey_any (v1 : Value) (x : RecD) (w : World) :
    Calls Tryd.prog 109 #[.agg (recC x v1)] w fun e w' => e = .returned (.bool (inB x.area 0 2 && x.key == 0)) ∧ Below w.heap.size w w' := by
  obtain ⟨area, kind, owner, key, seq, ns, cost, far⟩ := x
  unfold recC
  simp only []
  have H1 := hide (isIn_any area 0 2)
  obtain ⟨q1, hq1⟩ : ∃ q, q = inB area 0 2 := ⟨_, rfl⟩
  rw [← hq1] at H1 ⊢
  clear hq1
  go_enter Tryd.func109, Tryd.ntmps109
  go_wp2_with fail
  refine (H1.out _).mono ?_
  rintro e w1 ⟨rfl, rfl⟩
  cases q1
  · go_wp2
    go_ret
    exact ⟨by simp, (Below.refl _ _).alloc (Nat.le_refl _) _⟩
  · go_wp2
    go_ret
    exact ⟨by simp, (Below.refl _ _).alloc (Nat.le_refl _) _⟩

set_option maxRecDepth 100000 in
set_option maxHeartbeats 4000000 in
theorem beyondKey_any (v1 : Value) (x : RecD) (w : World) :
    Calls Tryd.prog 110 #[.agg (recC x v1)] w fun e w' => e = .returned (.bool (inB x.area 0 2 && inB x.key 1 6)) ∧ Below w.heap.size w w' := by
  obtain ⟨area, kind, owner, key, seq, ns, cost, far⟩ := x
  unfold recC
  simp only []
  have H1 := hide (isIn_any area 0 2)
  have H2 := hide (isIn_any key 1 6)
  obtain ⟨q1, hq1⟩ : ∃ q, q = inB area 0 2 := ⟨_, rfl⟩
  obtain ⟨q2, hq2⟩ : ∃ q, q = inB key 1 6 := ⟨_, rfl⟩
  rw [← hq1] at H1 ⊢
  rw [← hq2] at H2 ⊢
  clear hq1 hq2
  go_enter Tryd.func110, Tryd.ntmps110
  go_wp2_with fail
  refine (H1.out _).mono ?_
  rintro e w1 ⟨rfl, rfl⟩
  cases q1
  · go_wp2
    go_ret
    exact ⟨by simp, (Below.refl _ _).alloc (Nat.le_refl _) _⟩
  · go_wp2_with fail
    refine (H2.out _).mono ?_
    rintro e w1 ⟨rfl, rfl⟩
    go_wp2
    go_ret
    exact ⟨by simp, (Below.refl _ _).alloc (Nat.le_refl _) _⟩

set_option maxRecDepth 100000 in
set_option maxHeartbeats 4000000 in
theorem thingKey_any (v1 : Value) (x : RecD) (w : World) :
    Calls Tryd.prog 111 #[.agg (recC x v1)] w fun e w' => e = .returned (.bool (x.area == 9 && inB x.key 1 9)) ∧ Below w.heap.size w w' := by
  obtain ⟨area, kind, owner, key, seq, ns, cost, far⟩ := x
  unfold recC
  simp only []
  have H2 := hide (isIn_any key 1 9)
  obtain ⟨q2, hq2⟩ : ∃ q, q = inB key 1 9 := ⟨_, rfl⟩
  rw [← hq2] at H2 ⊢
  clear hq2
  by_cases ha : area = 9
  · subst ha
    go_enter Tryd.func111, Tryd.ntmps111
    go_wp2_with fail
    refine (H2.out _).mono ?_
    rintro e w1 ⟨rfl, rfl⟩
    go_wp2
    go_ret
    exact ⟨by simp, (Below.refl _ _).alloc (Nat.le_refl _) _⟩
  · have hd : (area == 9) = false := by simpa using ha
    go_enter Tryd.func111, Tryd.ntmps111
    go_wp2
    go_ret
    exact ⟨by simp [hd], (Below.refl _ _).alloc (Nat.le_refl _) _⟩
end Go.Proofs.YtfccainebmbbdaaDoor
namespace Go.Proofs.YtfccainebmbbdaaDoor
open Go.RowKit

def cmpNr (p l : Nr) : Int := cmpN p.to l.to

theorem asc_cmp (ls : List Nr) : ascB cmpNr ls = ascB ordN ls := by
  unfold ascB
  congr 1
  funext k
  cases k with
  | zero => rfl
  | succ k =>
    simp only [ascAt]
    split
    · rename_i p l _ _
      have h : (cmpNr p l < 0) ↔ (ordN p l < 0) := by
        unfold cmpNr ordN
        rw [cmpN_neg]
        omega
      exact decide_eq_decide.2 h
    · rfl

set_option maxRecDepth 100000 in
set_option maxHeartbeats 1000000 in
theorem orderNear_any (l m : Nr) (w : World) : Calls Tryd.prog 92 #[nrV l, nrV m] w fun e w' => e = .returned (.int .i64 (cmpNr l m)) ∧ Below w.heap.size w w' := by
  obtain ⟨a, b⟩ := l
  obtain ⟨a', b'⟩ := m
  unfold nrV cmpNr
  simp only []
  have H := hide (compare_any a a')
  go_enter Tryd.func92, Tryd.ntmps92
  go_wp2_with fail
  refine (H.out _).mono ?_
  rintro e w1 ⟨rfl, rfl⟩
  go_wp2
  go_ret
  exact ⟨rfl, below_two _ _⟩

set_option maxRecDepth 100000 in
set_option maxHeartbeats 4000000 in
theorem ascNear_any (v : Value) (ls : List Nr) (w : World) (hls : ls.length ≤ 1048576) (hv : NearsAt w v ls w.heap.size) :
    Calls Tryd.prog 91 #[v, .func (.func 92) #[] #[]] w fun e w' => e = .returned (.bool (ascB cmpNr ls)) ∧ Below w.heap.size w w' := by
  obtain ⟨a, cap, rfl⟩ := hv.shape
  have HV := hide hv
  clear hv
  go_enter Tryd.func91, Tryd.ntmps91
  go_wp2
  go_loopw [5] (fun i wr => ∃ k : Nat, 1 ≤ k ∧ (k ≤ ls.length ∨ k = 1) ∧ i = .int .i64 k ∧ (∀ j, j < k → ascAt cmpNr ls j = true) ∧ Below w.heap.size w wr) (fun i _ => ls.length + 1 - (intOf i).toNat)
  case atStart => exact ⟨1, by omega, by omega, rfl, fun j hj => by obtain rfl : j = 0 := by omega
                                                                    rfl, Below.refl _ _⟩
  case round =>
    obtain ⟨k, hk1, hk, rfl, hno, hb⟩ := hrel
    have HNO := hide hno
    clear hno
    by_cases hlt : k < ls.length
    · obtain ⟨l, hl⟩ : ∃ l, ls[k]? = some l := ⟨ls[k], List.getElem?_eq_getElem hlt⟩
      obtain ⟨j, hj⟩ : ∃ j, k = j + 1 := ⟨k - 1, by omega⟩
      obtain ⟨p, hp⟩ : ∃ p, ls[j]? = some p := ⟨ls[j], List.getElem?_eq_getElem (by omega)⟩
      obtain ⟨b, off, cap', hve, hbb, c0, c1⟩ := HV.out.cells k l hl
      cases hve
      obtain ⟨b', off', cap2, hve2, hbb2, d0, d1⟩ := HV.out.cells j p hp
      cases hve2
      rw [← hb.cell (p := ⟨b, off + k * 2, none⟩) hbb] at c0
      rw [← hb.cell (p := ⟨b, off + k * 2 + 1, none⟩) hbb] at c1
      rw [← hb.cell (p := ⟨b, off + j * 2, none⟩) hbb] at d0
      rw [← hb.cell (p := ⟨b, off + j * 2 + 1, none⟩) hbb] at d1
      have hat : ascAt cmpNr ls k = decide (cmpNr p l < 0) := by rw [hj]; exact ascAt_eq hp (by rw [← hj]; exact hl)
      have hzr := hb.size
      have hbr : b < wr.heap.size := by omega
      have hki : (0 : Int) ≤ (k : Int) := by omega
      have hkj : (k : Int) < (ls.length : Int) := by omega
      have hj1 : (k : Int) - 1 = (j : Int) := by omega
      have hj2 : (0 : Int) ≤ (j : Int) := by omega
      have hj3 : (j : Int) < (ls.length : Int) := by omega
      have hj5 : IntKind.i64.wrap (j : Int) = (j : Int) := wrap_fit _ (by omega) (by omega)
      have HORD := hide (orderNear_any p l)
      have HAT := hide hat
      have HJ := hide hj
      clear hl hp hat hj
      obtain ⟨x, hx⟩ : ∃ x, x = cmpNr p l := ⟨_, rfl⟩
      rw [← hx] at HORD HAT
      clear hx
      unfold nrV at HORD
      by_cases hx0 : x < 0
      · have hx1 : ¬ (0 : Int) ≤ x := by omega
        rw [decide_eq_true hx0] at HAT
        go_wp2
        go_region_held3 (fun W => W.cell? ⟨b, off + k * 2, none⟩ = some (.int .i64 l.to) ∧ W.cell? ⟨b, off + k * 2 + 1, none⟩ = some (.int .i64 l.c) ∧ W.cell? ⟨b, off + j * 2, none⟩ = some (.int .i64 p.to) ∧ W.cell? ⟨b, off + j * 2 + 1, none⟩ = some (.int .i64 p.c)) (first | go_keep | (refine ⟨?_, ?_, ?_, ?_⟩ <;> (rw [hbc.cell (by assumption)]; assumption))) (first | (go_at_call 92; refine (HORD.out _).mono ?_; rintro e w2 ⟨rfl, hbc⟩))
        go_wp2
        exact ⟨⟨k + 1, by omega, by omega, by go_num, next_true HNO.out HAT.out, hb.drew.trans (hbc.mono hb.size)⟩, by simp [intOf]; omega⟩
      · have hx1 : (0 : Int) ≤ x := by omega
        rw [decide_eq_false hx0] at HAT
        have hf : ascB cmpNr ls = false := all_false hlt HAT.out
        have HF := hide hf
        clear hf
        go_wp2
        go_region_held3 (fun W => W.cell? ⟨b, off + k * 2, none⟩ = some (.int .i64 l.to) ∧ W.cell? ⟨b, off + k * 2 + 1, none⟩ = some (.int .i64 l.c) ∧ W.cell? ⟨b, off + j * 2, none⟩ = some (.int .i64 p.to) ∧ W.cell? ⟨b, off + j * 2 + 1, none⟩ = some (.int .i64 p.c)) (first | go_keep | (refine ⟨?_, ?_, ?_, ?_⟩ <;> (rw [hbc.cell (by assumption)]; assumption))) (first | (go_at_call 92; refine (HORD.out _).mono ?_; rintro e w2 ⟨rfl, hbc⟩))
        go_wp2
        go_ret
        exact ⟨ret_bool HF.out, hb.drew.trans (hbc.mono hb.size)⟩
    · have hall : ascB cmpNr ls = true := all_true fun i hi => HNO.out i (by omega)
      have HA := hide hall
      clear hall
      go_wp2
      go_ret
      exact ⟨ret_bool HA.out, hb⟩

set_option maxRecDepth 100000 in
set_option maxHeartbeats 4000000 in
theorem inear_any (o : Int) (v : Value) (ls : List Nr) (w : World) (hls : ls.length ≤ 1048576) (hv : NearsAt w v ls w.heap.size) :
    Calls Tryd.prog 89 #[.int .i64 o, v] w fun e w' => e = .returned (.bool (nearsB o ls)) ∧ Below w.heap.size w w' := by
  obtain ⟨a, cap, rfl⟩ := hv.shape
  have HV := hide hv
  clear hv
  go_enter Tryd.func89, Tryd.ntmps89
  go_wp2
  go_loopw [9] (fun i wr => ∃ k : Nat, k ≤ ls.length ∧ i = .int .i64 k ∧ (∀ j, j < k → okAt (nearOkB o) ls j = true) ∧ Below w.heap.size w wr) (fun i _ => ls.length - (intOf i).toNat)
  case atStart => exact ⟨0, by omega, rfl, by omega, Below.refl _ _⟩
  case round =>
    obtain ⟨k, hk, rfl, hno, hb⟩ := hrel
    have HNO := hide hno
    clear hno
    by_cases hlt : k < ls.length
    · obtain ⟨l, hl⟩ : ∃ l, ls[k]? = some l := ⟨ls[k], List.getElem?_eq_getElem hlt⟩
      obtain ⟨b, off, cap', hve, hbb, c0, c1⟩ := HV.out.cells k l hl
      cases hve
      rw [← hb.cell (p := ⟨b, off + k * 2, none⟩) hbb] at c0
      rw [← hb.cell (p := ⟨b, off + k * 2 + 1, none⟩) hbb] at c1
      have hki : (0 : Int) ≤ (k : Int) := by omega
      have hkj : (k : Int) < (ls.length : Int) := by omega
      have HAT := hide (okAt_eq (ok := nearOkB o) hl)
      obtain ⟨lt, lc⟩ := l
      simp only [nearOkB] at HAT c0 c1
      obtain ⟨q1, hq1⟩ : ∃ q, q = inB lt 1 6 := ⟨_, rfl⟩
      obtain ⟨q3, hq3⟩ : ∃ q, q = inB lc 1 1000 := ⟨_, rfl⟩
      have H1 := hide (isIn_any lt 1 6)
      have H3 := hide (isIn_any lc 1 1000)
      rw [← hq1] at H1 HAT
      rw [← hq3] at H3 HAT
      clear hl hq1 hq3
      have hzr := hb.size
      have B2 : Below w.heap.size w (wr.alloc (.cells #[.int .i64 lt, .int .i64 lc] 55)) := hb.alloc hb.size _
      go_wp2_with fail
      refine (H1.out _).mono ?_
      rintro e w2 ⟨rfl, rfl⟩
      cases q1
      · have hf : nearsB o ls = false := by unfold nearsB allOk; rw [all_false hlt HAT.out]; rfl
        have HF := hide hf
        clear hf
        go_wp2
        go_ret
        exact ⟨ret_bool HF.out, B2⟩
      by_cases hlo : lt = o
      · have hd : (lt == o) = true := by simpa using hlo
        have hf : nearsB o ls = false := by
          have := HAT.out
          rw [hd] at this
          unfold nearsB allOk; rw [all_false hlt this]; rfl
        have HF := hide hf
        clear hf hlo HAT
        go_wp2
        go_ret
        exact ⟨ret_bool HF.out, B2⟩
      have hd : (lt == o) = false := by simpa using hlo
      rw [hd] at HAT
      clear hlo
      go_wp2_with fail
      refine (H3.out _).mono ?_
      rintro e w2 ⟨rfl, rfl⟩
      cases q3
      · have hf : nearsB o ls = false := by unfold nearsB allOk; rw [all_false hlt HAT.out]; rfl
        have HF := hide hf
        clear hf
        go_wp2
        go_ret
        exact ⟨ret_bool HF.out, B2⟩
      · go_wp2
        exact ⟨⟨k + 1, by omega, by go_num, next_true HNO.out HAT.out, B2⟩, by simp [intOf]; omega⟩
    · have hall : allOk (nearOkB o) ls = true := all_true fun i hi => HNO.out i (by omega)
      have hF : nearsB o ls = ascB cmpNr ls := by unfold nearsB; rw [hall, asc_cmp]; rfl
      have HF := hide hF
      clear hF hall
      have HVR := hide (HV.out.then hb)
      go_wp2_with fail
      refine (ascNear_any _ ls _ hls HVR.out).mono ?_
      rintro e w2 ⟨rfl, hbc⟩
      go_wp2
      go_ret
      exact ⟨ret_bool HF.out, hb.trans (hbc.mono hb.size)⟩
end Go.Proofs.YtfccainebmbbdaaDoor
namespace Go.Proofs.YtfccainebmbbdaaDoor
open Go.RowKit

def nilC : Array Value := #[.int .i64 0, .int .i64 0, .int .i64 0, .int .i64 0, .int .i64 0, .slice none 0 0, .int .i64 0, .bool false]

theorem as1_1 (v : Value) (w : World) : (Instr.typeAssert (.iface 110 v) 101 110 true).run Tryd.prog w = .ok (.tuple #[v, .bool true]) w := by kernel_rfl

theorem as2_1 (v : Value) (w : World) : (Instr.typeAssert (.iface 111 v) 101 110 true).run Tryd.prog w = .ok (.tuple #[.agg nilC, .bool false]) w := by kernel_rfl

theorem as2_2 (v : Value) (w : World) : (Instr.typeAssert (.iface 111 v) 101 111 true).run Tryd.prog w = .ok (.tuple #[v, .bool true]) w := by kernel_rfl

theorem as3_1 (v : Value) (w : World) : (Instr.typeAssert (.iface 112 v) 101 110 true).run Tryd.prog w = .ok (.tuple #[.agg nilC, .bool false]) w := by kernel_rfl

theorem as3_2 (v : Value) (w : World) : (Instr.typeAssert (.iface 112 v) 101 111 true).run Tryd.prog w = .ok (.tuple #[.agg nilC, .bool false]) w := by kernel_rfl

theorem as3_3 (v : Value) (w : World) : (Instr.typeAssert (.iface 112 v) 101 112 true).run Tryd.prog w = .ok (.tuple #[v, .bool true]) w := by kernel_rfl

set_option maxRecDepth 100000 in
set_option maxHeartbeats 400000 in
theorem bodyNode_any (v1 : Value) (x : RecD) (w : World) (hl : x.near.length ≤ 1048576) (hv : NearsAt w v1 x.near w.heap.size) :
    Calls Tryd.prog 85 #[.iface 110 (.agg (recC x v1))] w fun e w' => e = .returned (.bool (nearsB x.owner x.near && x.cost == 0 && !x.far)) ∧ Below w.heap.size w w' := by
  obtain ⟨p1, c1, rfl⟩ := hv.shape
  have HN := hide (fun W (h : Below w.heap.size w W) => inear_any x.owner (.slice p1 x.near.length c1) x.near W hl (hv.then h))
  obtain ⟨qn, hqn⟩ : ∃ q, q = nearsB x.owner x.near := ⟨_, rfl⟩
  rw [← hqn] at HN ⊢
  clear hqn hv
  obtain ⟨area, kind, owner, key, seq, ns, cost, far⟩ := x
  unfold recC
  simp only [] at HN hl ⊢
  have a1 := as1_1
  have B0 : Below w.heap.size w (w.alloc (.cells #[.int .i64 area, .int .i64 kind, .int .i64 owner, .int .i64 key, .int .i64 seq, .slice p1 ns.length c1, .int .i64 cost, .bool far] 110)) := (Below.refl _ _).alloc (Nat.le_refl _) _
  have NEW := hide (heap_alloc_new w (.cells #[.int .i64 area, .int .i64 kind, .int .i64 owner, .int .i64 key, .int .i64 seq, .slice p1 ns.length c1, .int .i64 cost, .bool far] 110))
  go_enter Tryd.func85, Tryd.ntmps85
  go_wp2_with fail
  refine (HN.out _ B0).mono ?_
  rintro e w1 ⟨rfl, b1⟩
  have hx1 : w1.heap[w.heap.size]? = some (.cells #[.int .i64 area, .int .i64 kind, .int .i64 owner, .int .i64 key, .int .i64 seq, .slice p1 ns.length c1, .int .i64 cost, .bool far] 110) := by rw [b1.block _ (by simp)]; exact NEW.out
  have f6 := cells_at hx1 6
  have f7 := cells_at hx1 7
  simp at f6 f7
  have B1 := B0.trans (b1.mono B0.size)
  clear hx1 b1 NEW HN
  cases qn
  · go_wp2
    go_ret
    exact ⟨by simp, B1⟩
  by_cases hc : cost = 0
  case neg =>
    have hd : (cost == 0) = false := by simpa using hc
    go_wp2
    go_ret
    exact ⟨by simp [hd], B1⟩
  subst hc
  cases far
  all_goals
    go_wp2
    go_ret
    exact ⟨by simp, B1⟩


set_option maxRecDepth 100000 in
set_option maxHeartbeats 400000 in
theorem bodyBeyond_any (v1 : Value) (x : RecD) (w : World) (hl : x.near.length ≤ 1048576) (hv : NearsAt w v1 x.near w.heap.size) :
    Calls Tryd.prog 85 #[.iface 111 (.agg (recC x v1))] w fun e w' => e = .returned (.bool (x.near.length == 0 && inB x.cost 0 60000 && !x.far)) ∧ Below w.heap.size w w' := by
  obtain ⟨p1, c1, rfl⟩ := hv.shape
  clear hv
  have H5 := hide (isIn_any x.cost 0 60000)
  obtain ⟨q5, hq5⟩ : ∃ q, q = inB x.cost 0 60000 := ⟨_, rfl⟩
  rw [← hq5] at H5 ⊢
  clear hq5
  obtain ⟨area, kind, owner, key, seq, ns, cost, far⟩ := x
  unfold recC
  simp only [] at H5 hl ⊢
  have a1 := as2_1
  have a2 := as2_2
  have B0 : Below w.heap.size w (w.alloc (.cells #[.int .i64 area, .int .i64 kind, .int .i64 owner, .int .i64 key, .int .i64 seq, .slice p1 ns.length c1, .int .i64 cost, .bool far] 111)) := (Below.refl _ _).alloc (Nat.le_refl _) _
  by_cases hn0 : ns.length = 0
  case neg =>
    have hd : ((ns.length : Int) == 0) = false := by simp; intro h; rw [h] at hn0; exact hn0 rfl
    have hd2 : (ns.length == 0) = false := by simpa using hn0
    rw [hd2]
    clear hn0 hd2
    go_enter Tryd.func85, Tryd.ntmps85
    go_wp2
    go_ret
    exact ⟨by simp, B0⟩
  have hd : ((ns.length : Int) == 0) = true := by simp; exact List.length_eq_zero_iff.1 hn0
  have hd2 : (ns.length == 0) = true := by simpa using hn0
  rw [hd2]
  clear hn0 hd2
  go_enter Tryd.func85, Tryd.ntmps85
  go_wp2_with fail
  refine (H5.out _).mono ?_
  rintro e w1 ⟨rfl, rfl⟩
  cases q5
  · go_wp2
    go_ret
    exact ⟨by simp, B0⟩
  cases far
  all_goals
    go_wp2
    go_ret
    exact ⟨by simp, B0⟩


set_option maxRecDepth 100000 in
set_option maxHeartbeats 400000 in
theorem bodyThing_any (v1 : Value) (x : RecD) (w : World) (hl : x.near.length ≤ 1048576) (hv : NearsAt w v1 x.near w.heap.size) :
    Calls Tryd.prog 85 #[.iface 112 (.agg (recC x v1))] w fun e w' => e = .returned (.bool (x.near.length == 0 && (inB x.cost 1 1000 || x.cost == 60000))) ∧ Below w.heap.size w w' := by
  obtain ⟨p1, c1, rfl⟩ := hv.shape
  clear hv
  have H5 := hide (isIn_any x.cost 1 1000)
  obtain ⟨q5, hq5⟩ : ∃ q, q = inB x.cost 1 1000 := ⟨_, rfl⟩
  rw [← hq5] at H5 ⊢
  clear hq5
  obtain ⟨area, kind, owner, key, seq, ns, cost, far⟩ := x
  unfold recC
  simp only [] at H5 hl ⊢
  have a1 := as3_1
  have a2 := as3_2
  have a3 := as3_3
  have B0 : Below w.heap.size w (w.alloc (.cells #[.int .i64 area, .int .i64 kind, .int .i64 owner, .int .i64 key, .int .i64 seq, .slice p1 ns.length c1, .int .i64 cost, .bool far] 112)) := (Below.refl _ _).alloc (Nat.le_refl _) _
  by_cases hn0 : ns.length = 0
  case neg =>
    have hd : ((ns.length : Int) == 0) = false := by simp; intro h; rw [h] at hn0; exact hn0 rfl
    have hd2 : (ns.length == 0) = false := by simpa using hn0
    rw [hd2]
    clear hn0 hd2
    go_enter Tryd.func85, Tryd.ntmps85
    go_wp2
    go_ret
    exact ⟨by simp, B0⟩
  have hd : ((ns.length : Int) == 0) = true := by simp; exact List.length_eq_zero_iff.1 hn0
  have hd2 : (ns.length == 0) = true := by simpa using hn0
  rw [hd2]
  clear hn0 hd2
  go_enter Tryd.func85, Tryd.ntmps85
  go_wp2_with fail
  refine (H5.out _).mono ?_
  rintro e w1 ⟨rfl, rfl⟩
  cases q5
  all_goals
    go_wp2
    go_ret
    exact ⟨by simp, B0⟩


end Go.Proofs.YtfccainebmbbdaaDoor
namespace Go.Proofs.YtfccainebmbbdaaDoor
open Go.RowKit

set_option maxRecDepth 100000 in
set_option maxHeartbeats 4000000 in
theorem irecOk_any (v1 : Value) (x : RecD) (w : World) (hl : x.near.length ≤ 1048576) (hv : NearsAt w v1 x.near w.heap.size) :
    Calls Tryd.prog 79 #[.agg (recC x v1)] w fun e w' => e = .returned (.bool (recOkB x)) ∧ Below w.heap.size w w' := by
  obtain ⟨p1, c1, rfl⟩ := hv.shape
  have HK := hide (kind_any (.slice p1 x.near.length c1) x)
  obtain ⟨R, hR⟩ : ∃ R, R = recOkB x := ⟨_, rfl⟩
  rw [← hR]
  unfold recOkB at hR
  have H1 := hide (isIn_any x.owner 1 6)
  have H2 := hide (isIn_any x.seq 1 100000)
  obtain ⟨q1, hq1⟩ : ∃ q, q = inB x.owner 1 6 := ⟨_, rfl⟩
  obtain ⟨q2, hq2⟩ : ∃ q, q = inB x.seq 1 100000 := ⟨_, rfl⟩
  rw [← hq1] at H1 hR
  rw [← hq2] at H2 hR
  clear hq1 hq2
  have B0 : Below w.heap.size w (w.alloc (.cells (recC x (.slice p1 x.near.length c1)) 39)) := (Below.refl _ _).alloc (Nat.le_refl _) _
  have hnew := heap_alloc_new w (.cells (recC x (.slice p1 x.near.length c1)) 39)
  by_cases hk1 : x.kind = 1
  · rw [if_pos hk1] at hR
    have hkv : kindV x (.slice p1 x.near.length c1) = .tuple #[.iface 110 (.agg (recC x (.slice p1 x.near.length c1))), .bool true] := by unfold kindV; rw [if_pos hk1]
    rw [hkv] at HK
    have HR := hide hR
    have HV := hide hv
    have NEW := hide hnew
    have HKEY := hide (nodeKey_any (.slice p1 x.near.length c1) x)
    have HBODY := hide (fun W (h : Below w.heap.size w W) => bodyNode_any (.slice p1 x.near.length c1) x W hl (hv.then h))
    obtain ⟨q3, hq3⟩ : ∃ q, q = (inB x.area 0 2 && x.key == 0) := ⟨_, rfl⟩
    obtain ⟨q4, hq4⟩ : ∃ q, q = (nearsB x.owner x.near && x.cost == 0 && !x.far) := ⟨_, rfl⟩
    rw [← hq3] at HKEY
    rw [← hq4] at HBODY
    have HR2 := hide (show R = (q1 && q2 && q3 && q4) by rw [HR.out, hq3, hq4]; simp only [Bool.and_assoc])
    clear hR hkv hv hnew hq3 hq4 HR hk1
    unfold recC at *
    go_enter Tryd.func79, Tryd.ntmps79
    go_wp2_with fail
    refine (HK.out _).mono ?_
    rintro e w1 ⟨rfl, b1⟩
    have hx1 : w1.heap[w.heap.size]? = some (.cells #[.int .i64 x.area, .int .i64 x.kind, .int .i64 x.owner, .int .i64 x.key, .int .i64 x.seq, .slice p1 x.near.length c1, .int .i64 x.cost, .bool x.far] 39) := by rw [b1.block _ (by simp)]; exact NEW.out
    have f2 := cells_at hx1 2
    have f4 := cells_at hx1 4
    simp at f2 f4
    have B1 := B0.trans (b1.mono B0.size)
    clear hx1 b1
    go_wp2_with fail
    refine (H1.out _).mono ?_
    rintro e w2 ⟨rfl, rfl⟩
    cases q1
    · go_wp2
      go_ret
      exact ⟨ret_bool (by rw [HR2.out]; rfl), B1⟩
    go_wp2_with fail
    refine (H2.out _).mono ?_
    rintro e w2 ⟨rfl, rfl⟩
    cases q2
    · go_wp2
      go_ret
      exact ⟨ret_bool (by rw [HR2.out]; rfl), B1⟩
    go_wp2_with fail
    refine (HKEY.out _).mono ?_
    rintro e w2 ⟨rfl, b2⟩
    have B2 := B1.trans (b2.mono B1.size)
    clear b2
    cases q3
    · go_wp2
      go_ret
      exact ⟨ret_bool (by rw [HR2.out]; rfl), B2⟩
    go_wp2_with fail
    refine (HBODY.out _ B2).mono ?_
    rintro e w3 ⟨rfl, b3⟩
    have B3 := B2.trans (b3.mono B2.size)
    clear b3
    go_wp2
    go_ret
    exact ⟨ret_bool (by rw [HR2.out]; rfl), B3⟩
  rw [if_neg hk1] at hR
  by_cases hk2 : x.kind = 2
  · rw [if_pos hk2] at hR
    have hkv : kindV x (.slice p1 x.near.length c1) = .tuple #[.iface 111 (.agg (recC x (.slice p1 x.near.length c1))), .bool true] := by unfold kindV; rw [if_neg hk1, if_pos hk2]
    rw [hkv] at HK
    have HR := hide hR
    have HV := hide hv
    have NEW := hide hnew
    have HKEY := hide (beyondKey_any (.slice p1 x.near.length c1) x)
    have HBODY := hide (fun W (h : Below w.heap.size w W) => bodyBeyond_any (.slice p1 x.near.length c1) x W hl (hv.then h))
    obtain ⟨q3, hq3⟩ : ∃ q, q = (inB x.area 0 2 && inB x.key 1 6) := ⟨_, rfl⟩
    obtain ⟨q4, hq4⟩ : ∃ q, q = (x.near.length == 0 && inB x.cost 0 60000 && !x.far) := ⟨_, rfl⟩
    rw [← hq3] at HKEY
    rw [← hq4] at HBODY
    have HR2 := hide (show R = (q1 && q2 && q3 && q4) by rw [HR.out, hq3, hq4]; simp only [Bool.and_assoc])
    clear hR hkv hv hnew hq3 hq4 HR hk1 hk2
    unfold recC at *
    go_enter Tryd.func79, Tryd.ntmps79
    go_wp2_with fail
    refine (HK.out _).mono ?_
    rintro e w1 ⟨rfl, b1⟩
    have hx1 : w1.heap[w.heap.size]? = some (.cells #[.int .i64 x.area, .int .i64 x.kind, .int .i64 x.owner, .int .i64 x.key, .int .i64 x.seq, .slice p1 x.near.length c1, .int .i64 x.cost, .bool x.far] 39) := by rw [b1.block _ (by simp)]; exact NEW.out
    have f2 := cells_at hx1 2
    have f4 := cells_at hx1 4
    simp at f2 f4
    have B1 := B0.trans (b1.mono B0.size)
    clear hx1 b1
    go_wp2_with fail
    refine (H1.out _).mono ?_
    rintro e w2 ⟨rfl, rfl⟩
    cases q1
    · go_wp2
      go_ret
      exact ⟨ret_bool (by rw [HR2.out]; rfl), B1⟩
    go_wp2_with fail
    refine (H2.out _).mono ?_
    rintro e w2 ⟨rfl, rfl⟩
    cases q2
    · go_wp2
      go_ret
      exact ⟨ret_bool (by rw [HR2.out]; rfl), B1⟩
    go_wp2_with fail
    refine (HKEY.out _).mono ?_
    rintro e w2 ⟨rfl, b2⟩
    have B2 := B1.trans (b2.mono B1.size)
    clear b2
    cases q3
    · go_wp2
      go_ret
      exact ⟨ret_bool (by rw [HR2.out]; rfl), B2⟩
    go_wp2_with fail
    refine (HBODY.out _ B2).mono ?_
    rintro e w3 ⟨rfl, b3⟩
    have B3 := B2.trans (b3.mono B2.size)
    clear b3
    go_wp2
    go_ret
    exact ⟨ret_bool (by rw [HR2.out]; rfl), B3⟩
  rw [if_neg hk2] at hR
  by_cases hk3 : x.kind = 3
  · rw [if_pos hk3] at hR
    have hkv : kindV x (.slice p1 x.near.length c1) = .tuple #[.iface 112 (.agg (recC x (.slice p1 x.near.length c1))), .bool true] := by unfold kindV; rw [if_neg hk1, if_neg hk2, if_pos hk3]
    rw [hkv] at HK
    have HR := hide hR
    have HV := hide hv
    have NEW := hide hnew
    have HKEY := hide (thingKey_any (.slice p1 x.near.length c1) x)
    have HBODY := hide (fun W (h : Below w.heap.size w W) => bodyThing_any (.slice p1 x.near.length c1) x W hl (hv.then h))
    obtain ⟨q3, hq3⟩ : ∃ q, q = (x.area == 9 && inB x.key 1 9) := ⟨_, rfl⟩
    obtain ⟨q4, hq4⟩ : ∃ q, q = (x.near.length == 0 && (inB x.cost 1 1000 || x.cost == 60000)) := ⟨_, rfl⟩
    rw [← hq3] at HKEY
    rw [← hq4] at HBODY
    have HR2 := hide (show R = (q1 && q2 && q3 && q4) by rw [HR.out, hq3, hq4]; simp only [Bool.and_assoc])
    clear hR hkv hv hnew hq3 hq4 HR hk1 hk2 hk3
    unfold recC at *
    go_enter Tryd.func79, Tryd.ntmps79
    go_wp2_with fail
    refine (HK.out _).mono ?_
    rintro e w1 ⟨rfl, b1⟩
    have hx1 : w1.heap[w.heap.size]? = some (.cells #[.int .i64 x.area, .int .i64 x.kind, .int .i64 x.owner, .int .i64 x.key, .int .i64 x.seq, .slice p1 x.near.length c1, .int .i64 x.cost, .bool x.far] 39) := by rw [b1.block _ (by simp)]; exact NEW.out
    have f2 := cells_at hx1 2
    have f4 := cells_at hx1 4
    simp at f2 f4
    have B1 := B0.trans (b1.mono B0.size)
    clear hx1 b1
    go_wp2_with fail
    refine (H1.out _).mono ?_
    rintro e w2 ⟨rfl, rfl⟩
    cases q1
    · go_wp2
      go_ret
      exact ⟨ret_bool (by rw [HR2.out]; rfl), B1⟩
    go_wp2_with fail
    refine (H2.out _).mono ?_
    rintro e w2 ⟨rfl, rfl⟩
    cases q2
    · go_wp2
      go_ret
      exact ⟨ret_bool (by rw [HR2.out]; rfl), B1⟩
    go_wp2_with fail
    refine (HKEY.out _).mono ?_
    rintro e w2 ⟨rfl, b2⟩
    have B2 := B1.trans (b2.mono B1.size)
    clear b2
    cases q3
    · go_wp2
      go_ret
      exact ⟨ret_bool (by rw [HR2.out]; rfl), B2⟩
    go_wp2_with fail
    refine (HBODY.out _ B2).mono ?_
    rintro e w3 ⟨rfl, b3⟩
    have B3 := B2.trans (b3.mono B2.size)
    clear b3
    go_wp2
    go_ret
    exact ⟨ret_bool (by rw [HR2.out]; rfl), B3⟩
  rw [if_neg hk3] at hR
  have hkv : kindV x (.slice p1 x.near.length c1) = .tuple #[.nilIface, .bool false] := by unfold kindV; rw [if_neg hk1, if_neg hk2, if_neg hk3]
  rw [hkv] at HK
  have hR2 : R = false := by rw [hR]; simp
  have HR2 := hide hR2
  clear hR hkv hv hnew hR2 H1 H2 hk1 hk2 hk3
  unfold recC at *
  go_enter Tryd.func79, Tryd.ntmps79
  go_wp2_with fail
  refine (HK.out _).mono ?_
  rintro e w1 ⟨rfl, b1⟩
  have B1 := B0.trans (b1.mono B0.size)
  clear b1
  go_wp2
  go_ret
  exact ⟨ret_bool HR2.out, B1⟩
end Go.Proofs.YtfccainebmbbdaaDoor
namespace Go.Proofs.YtfccainebmbbdaaDoor
open Go.RowKit

def ordR (x y : RecD) : Int := cmpK (cmpN x.area y.area) (cmpN x.kind y.kind) (cmpN x.owner y.owner) (cmpN x.key y.key)

theorem ordR_neg (x y : RecD) : decide (ordR x y < 0) = beforeB x y := cmpK_neg x y

def storeB (xs : List RecD) : Bool := decide (xs.length ≤ 150) && allOk recOkB xs && ascB ordR xs

set_option maxRecDepth 100000 in
set_option maxHeartbeats 1000000 in
theorem orderKeyed_any (v1 v2 : Value) (x y : RecD) (w : World) : Calls Tryd.prog 87 #[.agg (recC x v1), .agg (recC y v2)] w fun e w' => e = .returned (.int .i64 (ordR x y)) ∧ Below w.heap.size w w' := by
  have HK := hide keyOf_raw
  unfold ordR
  have HO := hide (orderKeys_any x.area x.kind x.owner x.key y.area y.kind y.owner y.key)
  obtain ⟨r, hr⟩ : ∃ r, r = cmpK (cmpN x.area y.area) (cmpN x.kind y.kind) (cmpN x.owner y.owner) (cmpN x.key y.key) := ⟨_, rfl⟩
  rw [← hr] at HO ⊢
  clear hr
  unfold recC at *
  go_enter Tryd.func87, Tryd.ntmps87
  go_wp2
  obtain ⟨w1, hw1⟩ : ∃ w1, w1 = (w.alloc (.cells #[.int .i64 x.area, .int .i64 x.kind, .int .i64 x.owner, .int .i64 x.key, .int .i64 x.seq, v1, .int .i64 x.cost, .bool x.far] 39)).alloc (.cells #[.int .i64 y.area, .int .i64 y.kind, .int .i64 y.owner, .int .i64 y.key, .int .i64 y.seq, v2, .int .i64 y.cost, .bool y.far] 39) := ⟨_, rfl⟩
  have B1 : Below w.heap.size w w1 := by rw [hw1]; exact below_two _ _
  have p0 : w1.heap[w.heap.size]? = some (.cells #[.int .i64 x.area, .int .i64 x.kind, .int .i64 x.owner, .int .i64 x.key, .int .i64 x.seq, v1, .int .i64 x.cost, .bool x.far] 39) := by rw [hw1, Below.heap_alloc _ _ _ (by simp), heap_alloc_new]
  have q0 : w1.heap[w.heap.size + 1]? = some (.cells #[.int .i64 y.area, .int .i64 y.kind, .int .i64 y.owner, .int .i64 y.key, .int .i64 y.seq, v2, .int .i64 y.cost, .bool y.far] 39) := by
    rw [hw1]
    have := heap_alloc_new (w.alloc (.cells #[.int .i64 x.area, .int .i64 x.kind, .int .i64 x.owner, .int .i64 x.key, .int .i64 x.seq, v1, .int .i64 x.cost, .bool x.far] 39)) (.cells #[.int .i64 y.area, .int .i64 y.kind, .int .i64 y.owner, .int .i64 y.key, .int .i64 y.seq, v2, .int .i64 y.cost, .bool y.far] 39)
    simpa using this
  rw [← hw1]
  clear hw1
  have s0 := cells_at p0 0
  have s1 := cells_at p0 1
  have s2 := cells_at p0 2
  have s3 := cells_at p0 3
  have s4 := cells_at p0 4
  have s5 := cells_at p0 5
  have s6 := cells_at p0 6
  have s7 := cells_at p0 7
  simp at s0 s1 s2 s3 s4 s5 s6 s7
  have t0 := cells_at q0 0
  have t1 := cells_at q0 1
  have t2 := cells_at q0 2
  have t3 := cells_at q0 3
  have t4 := cells_at q0 4
  have t5 := cells_at q0 5
  have t6 := cells_at q0 6
  have t7 := cells_at q0 7
  simp at t0 t1 t2 t3 t4 t5 t6 t7
  have hz0 := lt_of_heap p0
  have hz1 := lt_of_heap q0
  clear p0 q0
  have hz2 := B1.size
  go_region_held3 (fun W => W.cell? ⟨w.heap.size, 0, none⟩ = some (.int .i64 x.area) ∧ W.cell? ⟨w.heap.size, 1, none⟩ = some (.int .i64 x.kind) ∧ W.cell? ⟨w.heap.size, 2, none⟩ = some (.int .i64 x.owner) ∧ W.cell? ⟨w.heap.size, 3, none⟩ = some (.int .i64 x.key) ∧ W.cell? ⟨w.heap.size, 4, none⟩ = some (.int .i64 x.seq) ∧ W.cell? ⟨w.heap.size, 5, none⟩ = some (v1) ∧ W.cell? ⟨w.heap.size, 6, none⟩ = some (.int .i64 x.cost) ∧ W.cell? ⟨w.heap.size, 7, none⟩ = some (.bool x.far) ∧ W.cell? ⟨w.heap.size + 1, 0, none⟩ = some (.int .i64 y.area) ∧ W.cell? ⟨w.heap.size + 1, 1, none⟩ = some (.int .i64 y.kind) ∧ W.cell? ⟨w.heap.size + 1, 2, none⟩ = some (.int .i64 y.owner) ∧ W.cell? ⟨w.heap.size + 1, 3, none⟩ = some (.int .i64 y.key) ∧ W.cell? ⟨w.heap.size + 1, 4, none⟩ = some (.int .i64 y.seq) ∧ W.cell? ⟨w.heap.size + 1, 5, none⟩ = some (v2) ∧ W.cell? ⟨w.heap.size + 1, 6, none⟩ = some (.int .i64 y.cost) ∧ W.cell? ⟨w.heap.size + 1, 7, none⟩ = some (.bool y.far)) (first | go_keep | (refine ⟨?_, ?_, ?_, ?_, ?_, ?_, ?_, ?_, ?_, ?_, ?_, ?_, ?_, ?_, ?_, ?_⟩ <;> (rw [b4.cell (Nat.lt_of_lt_of_le (Nat.lt_of_lt_of_le (by assumption) b2.size) b3.size), b3.cell (Nat.lt_of_lt_of_le (by assumption) b2.size), b2.cell (by assumption)]; assumption)) | (refine ⟨?_, ?_, ?_, ?_, ?_, ?_, ?_, ?_, ?_, ?_, ?_, ?_, ?_, ?_, ?_, ?_⟩ <;> (rw [b3.cell (Nat.lt_of_lt_of_le (by assumption) b2.size), b2.cell (by assumption)]; assumption)) | (refine ⟨?_, ?_, ?_, ?_, ?_, ?_, ?_, ?_, ?_, ?_, ?_, ?_, ?_, ?_, ?_, ?_⟩ <;> (rw [b2.cell (by assumption)]; assumption))) (first | (go_at_call 90; refine (HO.out _).mono ?_; rintro e w4 ⟨rfl, b4⟩) | (have hb2 := b2; refine (HK.out _ _ _ _ _ _ _ _ _).mono ?_; rintro e w3 ⟨rfl, b3⟩) | (refine (HK.out _ _ _ _ _ _ _ _ _).mono ?_; rintro e w2 ⟨rfl, b2⟩))
  have B2 : Below w.heap.size w w2 := B1.drew.trans (b2.mono B1.size)
  have B3 : Below w.heap.size w w3 := B2.trans (b3.mono B2.size)
  have B4 : Below w.heap.size w w4 := B3.trans (b4.mono B3.size)
  go_wp2
  go_ret
  exact ⟨rfl, B4⟩

set_option maxRecDepth 100000 in
set_option maxHeartbeats 4000000 in
theorem ascRec_any (v : Value) (ps : List RP) (w : World) (hls : ps.length ≤ 1048576) (hv : RecsAt w v ps w.heap.size) :
    Calls Tryd.prog 86 #[v, .func (.func 87) #[] #[]] w fun e w' => e = .returned (.bool (ascB ordR (fsts ps))) ∧ Below w.heap.size w w' := by
  obtain ⟨a, cap, rfl⟩ := hv.shape
  have HV := hide hv
  clear hv
  have hfl : (fsts ps).length = ps.length := by simp [fsts]
  have HFL := hide hfl
  clear hfl
  go_enter Tryd.func86, Tryd.ntmps86
  go_wp2
  go_loopw [5] (fun i wr => ∃ k : Nat, 1 ≤ k ∧ (k ≤ ps.length ∨ k = 1) ∧ i = .int .i64 k ∧ (∀ j, j < k → ascAt ordR (fsts ps) j = true) ∧ Below w.heap.size w wr) (fun i _ => ps.length + 1 - (intOf i).toNat)
  case atStart => exact ⟨1, by omega, by omega, rfl, fun j hj => by obtain rfl : j = 0 := by omega
                                                                    rfl, Below.refl _ _⟩
  case round =>
    obtain ⟨k, hk1, hk, rfl, hno, hb⟩ := hrel
    have HNO := hide hno
    clear hno
    by_cases hlt : k < ps.length
    · obtain ⟨l, hl⟩ : ∃ l, ps[k]? = some l := ⟨ps[k], List.getElem?_eq_getElem hlt⟩
      obtain ⟨j, hj⟩ : ∃ j, k = j + 1 := ⟨k - 1, by omega⟩
      obtain ⟨p, hp⟩ : ∃ p, ps[j]? = some p := ⟨ps[j], List.getElem?_eq_getElem (by omega)⟩
      obtain ⟨b, off, cap', hve, hbb, c0, c1, c2, c3, c4, c5, c6, c7, _⟩ := HV.out.cells k l hl
      cases hve
      obtain ⟨b', off', cap2, hve2, hbb2, d0, d1, d2, d3, d4, d5, d6, d7, _⟩ := HV.out.cells j p hp
      cases hve2
      rw [← hb.cell (p := ⟨b, off + k * 8, none⟩) hbb] at c0
      rw [← hb.cell (p := ⟨b, off + k * 8 + 1, none⟩) hbb] at c1
      rw [← hb.cell (p := ⟨b, off + k * 8 + 2, none⟩) hbb] at c2
      rw [← hb.cell (p := ⟨b, off + k * 8 + 3, none⟩) hbb] at c3
      rw [← hb.cell (p := ⟨b, off + k * 8 + 4, none⟩) hbb] at c4
      rw [← hb.cell (p := ⟨b, off + k * 8 + 5, none⟩) hbb] at c5
      rw [← hb.cell (p := ⟨b, off + k * 8 + 6, none⟩) hbb] at c6
      rw [← hb.cell (p := ⟨b, off + k * 8 + 7, none⟩) hbb] at c7
      rw [← hb.cell (p := ⟨b, off + j * 8, none⟩) hbb] at d0
      rw [← hb.cell (p := ⟨b, off + j * 8 + 1, none⟩) hbb] at d1
      rw [← hb.cell (p := ⟨b, off + j * 8 + 2, none⟩) hbb] at d2
      rw [← hb.cell (p := ⟨b, off + j * 8 + 3, none⟩) hbb] at d3
      rw [← hb.cell (p := ⟨b, off + j * 8 + 4, none⟩) hbb] at d4
      rw [← hb.cell (p := ⟨b, off + j * 8 + 5, none⟩) hbb] at d5
      rw [← hb.cell (p := ⟨b, off + j * 8 + 6, none⟩) hbb] at d6
      rw [← hb.cell (p := ⟨b, off + j * 8 + 7, none⟩) hbb] at d7
      have hat : ascAt ordR (fsts ps) k = decide (ordR p.1 l.1 < 0) := by rw [hj]; exact ascAt_eq (fsts_at hp) (by rw [← hj]; exact fsts_at hl)
      have hzr := hb.size
      have hbr : b < wr.heap.size := by omega
      have hki : (0 : Int) ≤ (k : Int) := by omega
      have hkj : (k : Int) < (ps.length : Int) := by omega
      have hj1 : (k : Int) - 1 = (j : Int) := by omega
      have hj2 : (0 : Int) ≤ (j : Int) := by omega
      have hj3 : (j : Int) < (ps.length : Int) := by omega
      have hj5 : IntKind.i64.wrap (j : Int) = (j : Int) := wrap_fit _ (by omega) (by omega)
      have HORD := hide (orderKeyed_any p.2 l.2 p.1 l.1)
      have HAT := hide hat
      clear hl hp hat hj
      obtain ⟨x, hx⟩ : ∃ x, x = ordR p.1 l.1 := ⟨_, rfl⟩
      rw [← hx] at HORD HAT
      clear hx
      unfold recC at HORD
      by_cases hx0 : x < 0
      · have hx1 : ¬ (0 : Int) ≤ x := by omega
        rw [decide_eq_true hx0] at HAT
        go_wp2
        go_region_held3 (fun W => W.cell? ⟨b, off + k * 8, none⟩ = some (.int .i64 l.1.area) ∧ W.cell? ⟨b, off + k * 8 + 1, none⟩ = some (.int .i64 l.1.kind) ∧ W.cell? ⟨b, off + k * 8 + 2, none⟩ = some (.int .i64 l.1.owner) ∧ W.cell? ⟨b, off + k * 8 + 3, none⟩ = some (.int .i64 l.1.key) ∧ W.cell? ⟨b, off + k * 8 + 4, none⟩ = some (.int .i64 l.1.seq) ∧ W.cell? ⟨b, off + k * 8 + 5, none⟩ = some (l.2) ∧ W.cell? ⟨b, off + k * 8 + 6, none⟩ = some (.int .i64 l.1.cost) ∧ W.cell? ⟨b, off + k * 8 + 7, none⟩ = some (.bool l.1.far) ∧ W.cell? ⟨b, off + j * 8, none⟩ = some (.int .i64 p.1.area) ∧ W.cell? ⟨b, off + j * 8 + 1, none⟩ = some (.int .i64 p.1.kind) ∧ W.cell? ⟨b, off + j * 8 + 2, none⟩ = some (.int .i64 p.1.owner) ∧ W.cell? ⟨b, off + j * 8 + 3, none⟩ = some (.int .i64 p.1.key) ∧ W.cell? ⟨b, off + j * 8 + 4, none⟩ = some (.int .i64 p.1.seq) ∧ W.cell? ⟨b, off + j * 8 + 5, none⟩ = some (p.2) ∧ W.cell? ⟨b, off + j * 8 + 6, none⟩ = some (.int .i64 p.1.cost) ∧ W.cell? ⟨b, off + j * 8 + 7, none⟩ = some (.bool p.1.far)) (first | go_keep | (refine ⟨?_, ?_, ?_, ?_, ?_, ?_, ?_, ?_, ?_, ?_, ?_, ?_, ?_, ?_, ?_, ?_⟩ <;> (rw [hbc.cell (by assumption)]; assumption))) (first | (go_at_call 87; refine (HORD.out _).mono ?_; rintro e w2 ⟨rfl, hbc⟩))
        go_wp2
        exact ⟨⟨k + 1, by omega, by omega, by go_num, next_true HNO.out HAT.out, hb.drew.trans (hbc.mono hb.size)⟩, by simp [intOf]; omega⟩
      · have hx1 : (0 : Int) ≤ x := by omega
        rw [decide_eq_false hx0] at HAT
        have hf : ascB ordR (fsts ps) = false := all_false (by rw [HFL.out]; exact hlt) HAT.out
        have HF := hide hf
        clear hf
        go_wp2
        go_region_held3 (fun W => W.cell? ⟨b, off + k * 8, none⟩ = some (.int .i64 l.1.area) ∧ W.cell? ⟨b, off + k * 8 + 1, none⟩ = some (.int .i64 l.1.kind) ∧ W.cell? ⟨b, off + k * 8 + 2, none⟩ = some (.int .i64 l.1.owner) ∧ W.cell? ⟨b, off + k * 8 + 3, none⟩ = some (.int .i64 l.1.key) ∧ W.cell? ⟨b, off + k * 8 + 4, none⟩ = some (.int .i64 l.1.seq) ∧ W.cell? ⟨b, off + k * 8 + 5, none⟩ = some (l.2) ∧ W.cell? ⟨b, off + k * 8 + 6, none⟩ = some (.int .i64 l.1.cost) ∧ W.cell? ⟨b, off + k * 8 + 7, none⟩ = some (.bool l.1.far) ∧ W.cell? ⟨b, off + j * 8, none⟩ = some (.int .i64 p.1.area) ∧ W.cell? ⟨b, off + j * 8 + 1, none⟩ = some (.int .i64 p.1.kind) ∧ W.cell? ⟨b, off + j * 8 + 2, none⟩ = some (.int .i64 p.1.owner) ∧ W.cell? ⟨b, off + j * 8 + 3, none⟩ = some (.int .i64 p.1.key) ∧ W.cell? ⟨b, off + j * 8 + 4, none⟩ = some (.int .i64 p.1.seq) ∧ W.cell? ⟨b, off + j * 8 + 5, none⟩ = some (p.2) ∧ W.cell? ⟨b, off + j * 8 + 6, none⟩ = some (.int .i64 p.1.cost) ∧ W.cell? ⟨b, off + j * 8 + 7, none⟩ = some (.bool p.1.far)) (first | go_keep | (refine ⟨?_, ?_, ?_, ?_, ?_, ?_, ?_, ?_, ?_, ?_, ?_, ?_, ?_, ?_, ?_, ?_⟩ <;> (rw [hbc.cell (by assumption)]; assumption))) (first | (go_at_call 87; refine (HORD.out _).mono ?_; rintro e w2 ⟨rfl, hbc⟩))
        go_wp2
        go_ret
        exact ⟨ret_bool HF.out, hb.drew.trans (hbc.mono hb.size)⟩
    · have hall : ascB ordR (fsts ps) = true := all_true fun i hi => HNO.out i (by have := HFL.out; omega)
      have HA := hide hall
      clear hall
      go_wp2
      go_ret
      exact ⟨ret_bool HA.out, hb⟩

set_option maxRecDepth 100000 in
set_option maxHeartbeats 1000000 in
theorem inOrder_any (v : Value) (ps : List RP) (w : World) (hls : ps.length ≤ 1048576) (hv : RecsAt w v ps w.heap.size) :
    Calls Tryd.prog 81 #[v] w fun e w' => e = .returned (.bool (ascB ordR (fsts ps))) ∧ Below w.heap.size w w' := by
  have H := hide (ascRec_any v ps w hls hv)
  obtain ⟨a, cap, rfl⟩ := hv.shape
  clear hv
  go_enter Tryd.func81, Tryd.ntmps81
  go_wp2_with fail
  refine H.out.mono ?_
  rintro e w1 ⟨rfl, b1⟩
  go_wp2
  go_ret
  exact ⟨rfl, b1⟩

theorem store_long {xs : List RecD} (h : ¬ xs.length ≤ 150) : storeB xs = false := by unfold storeB; rw [decide_eq_false h]; rfl

theorem store_bad {xs : List RecD} {k : Nat} (hk : k < xs.length) (h : okAt recOkB xs k = false) : storeB xs = false := by unfold storeB allOk; rw [all_false hk h]; simp

set_option maxRecDepth 100000 in
set_option maxHeartbeats 2000000 in
theorem istoreOk_any (v : Value) (ps : List RP) (w : World) (hn : tot ps ≤ 1048576) (hv : RecsAt w v ps w.heap.size) :
    Calls Tryd.prog 71 #[v] w fun e w' => e = .returned (.bool (storeB (fsts ps))) ∧ Below w.heap.size w w' := by
  have hnl := tot_len ps
  obtain ⟨a, cap, rfl⟩ := hv.shape
  have HV := hide hv
  clear hv
  have hfl : (fsts ps).length = ps.length := by simp [fsts]
  by_cases hlong : (150 : Int) < (ps.length : Int)
  · have HF := hide (store_long (xs := fsts ps) (by omega))
    clear hfl
    go_enter Tryd.func71, Tryd.ntmps71
    go_wp2
    go_ret
    exact ⟨ret_bool HF.out, Below.refl _ _⟩
  have HFL := hide hfl
  clear hfl
  go_enter Tryd.func71, Tryd.ntmps71
  go_wp2
  go_loopw [10] (fun i wr => ∃ k : Nat, k ≤ ps.length ∧ i = .int .i64 k ∧ (∀ j, j < k → okAt recOkB (fsts ps) j = true) ∧ Below w.heap.size w wr) (fun i _ => ps.length - (intOf i).toNat)
  case atStart => exact ⟨0, by omega, rfl, by omega, Below.refl _ _⟩
  case round =>
    obtain ⟨k, hk, rfl, hall, hnx⟩ := hrel
    have HALL := hide hall
    clear hall
    have hsz := hnx.size
    by_cases hlt : k < ps.length
    · obtain ⟨p, hp⟩ : ∃ p, ps[k]? = some p := ⟨ps[k], List.getElem?_eq_getElem hlt⟩
      obtain ⟨b, off, cap', hve, hbb, c0, c1, c2, c3, c4, c5, c6, c7, hnr⟩ := HV.out.cells k p hp
      cases hve
      rw [← hnx.cell (p := ⟨b, off + k * 8, none⟩) hbb] at c0
      rw [← hnx.cell (p := ⟨b, off + k * 8 + 1, none⟩) hbb] at c1
      rw [← hnx.cell (p := ⟨b, off + k * 8 + 2, none⟩) hbb] at c2
      rw [← hnx.cell (p := ⟨b, off + k * 8 + 3, none⟩) hbb] at c3
      rw [← hnx.cell (p := ⟨b, off + k * 8 + 4, none⟩) hbb] at c4
      rw [← hnx.cell (p := ⟨b, off + k * 8 + 5, none⟩) hbb] at c5
      rw [← hnx.cell (p := ⟨b, off + k * 8 + 6, none⟩) hbb] at c6
      rw [← hnx.cell (p := ⟨b, off + k * 8 + 7, none⟩) hbb] at c7
      have hnr2 := (RowAt.later hnr hnx (Nat.le_refl _)).more hnx.size
      obtain ⟨pa, pc, hpn⟩ := NearsAt.shape hnr
      have HOK := fun o => irecOk_any p.2 p.1 (wr.alloc o) (by have := tot_mem (List.mem_of_getElem? hp); omega) (RowAt.then hnr2 ((Below.refl _ _).alloc (Nat.le_refl _) o))
      unfold recC at HOK
      rw [hpn] at c5 HOK
      have HAT := okAt_eq (ok := recOkB) (fsts_at hp)
      obtain ⟨q, hq⟩ : ∃ q, q = recOkB p.1 := ⟨_, rfl⟩
      rw [← hq] at HOK HAT
      have HOK2 := hide HOK
      have HAT2 := hide HAT
      clear hp hnr hnr2 hpn HOK HAT hq
      have hki : (0 : Int) ≤ (k : Int) := by omega
      have hkj : (k : Int) < (ps.length : Int) := by omega
      go_wp2_with fail
      refine (HOK2.out _).mono ?_
      rintro e w2 ⟨rfl, b2⟩
      have B2 : Below w.heap.size w w2 := (hnx.alloc hsz _).trans (b2.mono (by simp; omega))
      cases q
      · have HF := hide (store_bad (by rw [HFL.out]; exact hlt) HAT2.out)
        go_wp2
        go_ret
        exact ⟨ret_bool HF.out, B2⟩
      · go_wp2
        go_roundw
        case rel => exact ⟨k + 1, by omega, by go_num, next_true HALL.out HAT2.out, B2⟩
        case measure => simp [intOf]; omega
    · have e1 : allOk recOkB (fsts ps) = true := all_true fun i hi => HALL.out i (by have := HFL.out; omega)
      have e2 : storeB (fsts ps) = ascB ordR (fsts ps) := by
        unfold storeB
        rw [e1, decide_eq_true (by have := HFL.out; omega)]
        rfl
      have HE := hide e2
      have HIO := hide (inOrder_any (.slice a ps.length cap) ps wr (by omega) ((HV.out.later hnx (Nat.le_refl _)).more hsz))
      clear e1 e2
      go_wp2_with fail
      refine HIO.out.mono ?_
      rintro e w2 ⟨rfl, b2⟩
      go_wp2
      go_ret
      exact ⟨ret_bool HE.out, hnx.trans (b2.mono hsz)⟩
end Go.Proofs.YtfccainebmbbdaaDoor
namespace Go.Proofs.YtfccainebmbbdaaDoor
open Go.RowKit

set_option linter.unusedVariables false

set_option maxRecDepth 100000 in
set_option maxHeartbeats 4000000 in
theorem equalNear_any (v1 v2 : Value) (ns ms : List Nr) (w : World) (h1 : NearsAt w v1 ns w.heap.size) (h2 : NearsAt w v2 ms w.heap.size) (hl : ns.length ≤ 1048576) (hm : ms.length ≤ 9223372036854775807) :
    Calls Tryd.prog 83 #[v1, v2] w fun e w' => e = .returned (.bool (decide (ns = ms))) ∧ Below w.heap.size w w' := by
  obtain ⟨p1, c1, rfl⟩ := h1.shape
  obtain ⟨p2, c2, rfl⟩ := h2.shape
  have K1 := hide h1
  have K2 := hide h2
  clear h1 h2
  by_cases hln : ns.length = ms.length
  case neg =>
    have hd : ((ns.length : Int) != (ms.length : Int)) = true := by simp; omega
    have he : decide (ns = ms) = false := decide_eq_false (fun h => hln (by rw [h]))
    rw [he]
    clear he
    go_enter Tryd.func83, Tryd.ntmps83
    go_wp2
    go_ret
    exact ⟨rfl, Below.refl _ _⟩
  have HLN := hide hln
  have hln2 : ((ns.length : Int) != (ms.length : Int)) = false := by simp; omega
  clear hln hm
  go_enter Tryd.func83, Tryd.ntmps83
  go_wp2
  clear hln2
  go_loopw [13] (fun i wr => ∃ k : Nat, k ≤ ns.length ∧ i = .int .i64 k ∧ (∀ j, j < k → ns[j]? = ms[j]?) ∧ Below w.heap.size w wr) (fun i _ => ns.length - (intOf i).toNat)
  case atStart => exact ⟨0, by omega, rfl, by omega, Below.refl _ _⟩
  case round =>
    obtain ⟨k, hk, rfl, hall, hb⟩ := hrel
    have HALL := hide hall
    clear hall
    by_cases hlt : k < ns.length
    · obtain ⟨x, hx⟩ : ∃ l, ns[k]? = some l := ⟨ns[k], List.getElem?_eq_getElem hlt⟩
      obtain ⟨y, hy⟩ : ∃ l, ms[k]? = some l := ⟨ms[k]'(by have := HLN.out; omega), List.getElem?_eq_getElem _⟩
      obtain ⟨d1, o1, cp1, hv1, hd1, f0, f1⟩ := K1.out.cells k x hx
      obtain ⟨d2, o2, cp2, hv2, hd2, g0, g1⟩ := K2.out.cells k y hy
      cases hv1
      cases hv2
      rw [← hb.cell (p := ⟨d1, o1 + k * 2, none⟩) hd1] at f0
      rw [← hb.cell (p := ⟨d1, o1 + k * 2 + 1, none⟩) hd1] at f1
      rw [← hb.cell (p := ⟨d2, o2 + k * 2, none⟩) hd2] at g0
      rw [← hb.cell (p := ⟨d2, o2 + k * 2 + 1, none⟩) hd2] at g1
      have hki : (0 : Int) ≤ (k : Int) := by omega
      have hkj : (k : Int) < (ns.length : Int) := by omega
      have hkm : (k : Int) < (ms.length : Int) := by have := HLN.out; omega
      have e0 := fun W => near_neq W x.to x.c y.to y.c
      have HXX := hide hx
      have HYY := hide hy
      clear hx hy
      by_cases hxy : (⟨x.to, x.c⟩ : Nr) = ⟨y.to, y.c⟩
      · rw [decide_eq_true hxy] at e0
        have HXY := hide hxy
        clear hxy
        go_wp2
        go_quiet (fail)
        go_wp2
        go_roundw
        case rel => exact ⟨k + 1, by omega, by go_num, (fun j hj => by
          by_cases e : j = k
          · subst e; rw [HXX.out, HYY.out]; exact congrArg some HXY.out
          · exact HALL.out j (by omega)), ⟨hb.os, hb.tape, hb.output, hb.size, hb.block⟩⟩
        case measure => simp [intOf]; omega
      · rw [decide_eq_false hxy] at e0
        have he : decide (ns = ms) = false := decide_eq_false (fun h => hxy (by
          subst h
          have := HXX.out.symm.trans HYY.out
          exact Option.some.inj this))
        have HE := hide he
        clear hxy he
        go_wp2
        go_quiet (fail)
        go_wp2
        go_ret
        exact ⟨ret_bool HE.out, ⟨hb.os, hb.tape, hb.output, hb.size, hb.block⟩⟩
    · have he : decide (ns = ms) = true := decide_eq_true (eq_all HLN.out (by have : k = ns.length := by omega
                                                                              rw [← this]; exact HALL.out))
      have HE := hide he
      clear he
      go_wp2
      go_ret
      exact ⟨ret_bool HE.out, hb⟩

set_option maxRecDepth 100000 in
set_option maxHeartbeats 4000000 in
theorem isameBody_any (v1 v2 : Value) (x y : RecD) (w : World) (h1 : RecAt w v1 x w.heap.size) (h2 : RecAt w v2 y w.heap.size) (hl : x.near.length ≤ 1048576) (hm : y.near.length ≤ 9223372036854775807) :
    Calls Tryd.prog 72 #[v1, v2] w fun e w' => e = .returned (.bool (sameBodyB x y)) ∧ Below w.heap.size w w' := by
  obtain ⟨u1, rfl, k1⟩ := h1
  obtain ⟨u2, rfl, k2⟩ := h2
  obtain ⟨p1, c1, rfl⟩ := k1.shape
  obtain ⟨p2, c2, rfl⟩ := k2.shape
  have HSK := hide (isameKey_any (.slice p1 x.near.length c1) (.slice p2 y.near.length c2) x y)
  have HEQ := hide (fun W (h : Below w.heap.size w W) => equalNear_any (.slice p1 x.near.length c1) (.slice p2 y.near.length c2) x.near y.near W (k1.then h) (k2.then h) hl hm)
  obtain ⟨q, hq⟩ : ∃ q, q = sameKeyB x y := ⟨_, rfl⟩
  rw [← hq] at HSK
  obtain ⟨r, hr⟩ : ∃ r, r = decide (x.near = y.near) := ⟨_, rfl⟩
  rw [← hr] at HEQ
  have hB : sameBodyB x y = (q && x.cost == y.cost && x.far == y.far && r) := by rw [hq, hr]; rfl
  rw [hB]
  clear hB hq hr hl hm k1 k2
  obtain ⟨a0, a1, a2, a3, a4, ns, a6, a7⟩ := x
  obtain ⟨b0, b1, b2, b3, b4, ms, b6, b7⟩ := y
  unfold recC at HSK ⊢
  simp only [] at HSK HEQ ⊢
  go_enter Tryd.func72, Tryd.ntmps72
  go_wp2_with fail
  refine (HSK.out _).mono ?_
  rintro e w1 ⟨rfl, bb1⟩
  have bw1 : Below w.heap.size w w1 := (below_two _ _).trans (bb1.mono (by simp; omega))
  have hw0 : w1.heap[w.heap.size]? = some (.cells #[.int .i64 a0, .int .i64 a1, .int .i64 a2, .int .i64 a3, .int .i64 a4, .slice p1 ns.length c1, .int .i64 a6, .bool a7] 39) := by
    rw [bb1.block _ (by simp; omega), Below.heap_alloc _ _ _ (by simp), heap_alloc_new]
  have hw1 : w1.heap[w.heap.size + 1]? = some (.cells #[.int .i64 b0, .int .i64 b1, .int .i64 b2, .int .i64 b3, .int .i64 b4, .slice p2 ms.length c2, .int .i64 b6, .bool b7] 39) := by
    rw [bb1.block _ (by simp)]
    have := heap_alloc_new (w.alloc (.cells #[.int .i64 a0, .int .i64 a1, .int .i64 a2, .int .i64 a3, .int .i64 a4, .slice p1 ns.length c1, .int .i64 a6, .bool a7] 39)) (.cells #[.int .i64 b0, .int .i64 b1, .int .i64 b2, .int .i64 b3, .int .i64 b4, .slice p2 ms.length c2, .int .i64 b6, .bool b7] 39)
    simpa using this
  have s5 := cells_at hw0 5
  have t5 := cells_at hw1 5
  simp at s5 t5
  clear bb1
  cases q
  · go_wp2
    go_ret
    exact ⟨by simp, bw1⟩
  go_wp2_with fail
  refine (HEQ.out _ bw1).mono ?_
  rintro e w2 ⟨rfl, bb2⟩
  have bw2 : Below w.heap.size w w2 := bw1.trans (bb2.mono bw1.size)
  have hx0 : w2.heap[w.heap.size]? = _ := (bb2.block _ (lt_of_heap hw0)).trans hw0
  have hx1 : w2.heap[w.heap.size + 1]? = _ := (bb2.block _ (lt_of_heap hw1)).trans hw1
  have s6 := cells_at hx0 6
  have s7 := cells_at hx0 7
  have t6 := cells_at hx1 6
  have t7 := cells_at hx1 7
  simp at s6 s7 t6 t7
  clear bb2 hw0 hw1 hx0 hx1 s5 t5
  cases r
  · go_wp2
    go_ret
    exact ⟨by simp, bw2⟩
  by_cases h6 : a6 = b6
  case neg =>
    have hd : (a6 == b6) = false := by simpa using h6
    go_wp2
    go_ret
    exact ⟨ret_bool (by rw [hd]; simp), bw2⟩
  subst h6
  cases a7 <;> cases b7
  all_goals
    go_wp2
    go_ret
    exact ⟨by simp, bw2⟩
end Go.Proofs.YtfccainebmbbdaaDoor
namespace Go.Proofs.YtfccainebmbbdaaDoor
open Go.RowKit

set_option linter.unusedSimpArgs false

def headD (x : RecD) : RecD := ⟨x.area, x.kind, x.owner, x.key, x.seq, [], if x.kind = 3 then 1 else 0, false⟩

theorem headD_three {x : RecD} (h : x.kind = 3) : headD x = ⟨x.area, x.kind, x.owner, x.key, x.seq, [], 1, false⟩ := by unfold headD; rw [if_pos h]

theorem headD_else {x : RecD} (h : ¬ x.kind = 3) : headD x = ⟨x.area, x.kind, x.owner, x.key, x.seq, [], 0, false⟩ := by unfold headD; rw [if_neg h]

set_option maxRecDepth 100000 in
set_option maxHeartbeats 1000000 in
theorem ihead_any (x : RecD) (a : Option Addr) (n c : Nat) (w : World) :
    Calls Tryd.prog 73 #[.agg (recC x (.slice a n c))] w fun e w' => e = .returned (.agg (recC (headD x) (.slice none 0 0))) ∧ Below w.heap.size w w' := by
  by_cases h : x.kind = 3
  · rw [headD_three h]
    have hd : (x.kind == 3) = true := by simpa using h
    clear h
    unfold recC
    go_enter Tryd.func73, Tryd.ntmps73
    go_wp2
    go_returns
    exact ⟨rfl, below_two _ _⟩
  · rw [headD_else h]
    have hd : (x.kind == 3) = false := by simpa using h
    clear h
    unfold recC
    go_enter Tryd.func73, Tryd.ntmps73
    go_wp2
    go_returns
    exact ⟨rfl, below_two _ _⟩

set_option maxRecDepth 100000 in
set_option maxHeartbeats 1000000 in
theorem shead_any (x : RecD) (a : Option Addr) (n c : Nat) (w : World) :
    Calls Tryd.prog 51 #[.agg (recC x (.slice a n c))] w fun e w' => ∃ v', e = .returned (.agg (recC (headD x) v')) ∧ w'.ownsRow w.heap.size 55 2 v' 0 (flat nrE []) ∧ Below w.heap.size w w' := by
  by_cases h : x.kind = 3
  · rw [headD_three h]
    have hd : (x.kind == 3) = true := by simpa using h
    clear h
    unfold recC
    go_enter Tryd.func51, Tryd.ntmps51
    go_wp2
    go_returns
    exact ⟨_, rfl, own_lit05 _ _ _ (by simp) (by simp; omega), below_three _ _ _⟩
  · rw [headD_else h]
    have hd : (x.kind == 3) = false := by simpa using h
    clear h
    unfold recC
    go_enter Tryd.func51, Tryd.ntmps51
    go_wp2
    go_returns
    exact ⟨_, rfl, own_lit05 _ _ _ (by simp) (by simp; omega), below_three _ _ _⟩
end Go.Proofs.YtfccainebmbbdaaDoor
namespace Go.Proofs.YtfccainebmbbdaaDoor
open Go.RowKit

def inScope (a : Int) (x : RecD) : Bool := x.area == a || x.area == 9

end Go.Proofs.YtfccainebmbbdaaDoor
namespace Go.Proofs.YtfccainebmbbdaaDoor
open Go.RowKit

def intsOf (l : List Int) : List Value := l.map fun z => Value.int .i64 z

theorem intsOf_length (l : List Int) : (intsOf l).length = l.length := by simp [intsOf]

theorem intsOf_append (a b : List Int) : intsOf (a ++ b) = intsOf a ++ intsOf b := by simp [intsOf]

theorem Tryd.info3 : (Tryd.prog.info? 3).map (fun i => (i.zero, i.size, i.bytes)) = some (some (.int .i64 0), 1, 8) := by kernel_rfl

/-- 'append(out, z)' of an int, out a row that the call itself made. -/
theorem wpList_append_int {P : Program} (w : World) {ops : Array Oper} {rest : List Oper} {o : Oper} {a : Act} {Q : Exit → Act → World → Prop} (hgd : o.guard = none) (s x : Operand) (t : TypeId)
    (ho : o.op = .call { callee := .builtin .append, args := #[s, x], argTypes := #[t, t] }) (base : Nat) (e : TypeId) (ht : P.underlying t = some (.slice e))
    (hinfo : (P.info? e).map (fun i => (i.zero, i.size, i.bytes)) = some (some (.int .i64 0), 1, 8))
    (v : Value) (l : List Int) (z : Int) (hs : a.eval s = v) (hown : w.ownsRow base e 1 v l.length (intsOf l))
    (ad : Addr) (c : Nat) (hx : a.eval x = .slice (some ad) 1 c) (hnews : w.cell? (ad.add 0) = some (.int .i64 z))
    (hlen : l.length + 1 ≤ 1000000000) (hbase : base ≤ w.heap.size)
    (h : ∀ v' w' l', Hid (l' = l ++ [z]) → w'.ownsRow base e 1 v' l'.length (intsOf l') → w.grownBy w' v.ownBlock → wpList P ops Q rest (a.put o.dst v') w') : wpList P ops Q (o :: rest) a w := by
  obtain ⟨i0, hi, hz0, hz1, hz2⟩ := info_parts hinfo
  refine wpList_append_own w hgd s x t ho base e i0 (.int .i64 0) 1 8 ht hi hz0 hz1 hz2 rfl (by decide) v l.length (intsOf l) hs hown ad 1 c (intsOf [z]) hx (by simp [intsOf]) ?_ ?_ (by unfold maxLen; omega) (by omega) hbase ?_
  · intro j u hj
    have hj' : j = 0 := by have := (List.getElem?_eq_some_iff.1 hj).1; simp [intsOf] at this; omega
    subst hj'
    rw [hnews]
    simpa [intsOf] using hj
  · intro u hu
    simp only [intsOf, List.mem_map] at hu
    obtain ⟨b, _, rfl⟩ := hu
    rfl
  · intro v' w' h1 h2 _
    rw [← intsOf_append] at h1
    exact h v' w' (l ++ [z]) rfl (by simpa using h1) h2
end Go.Proofs.YtfccainebmbbdaaDoor
