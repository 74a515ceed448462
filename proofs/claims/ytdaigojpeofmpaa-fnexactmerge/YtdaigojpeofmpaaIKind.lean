/-
  impl.ofItsKind, the three keyOk methods: their contracts.
-/
import Derived.Test.YtdaigojpeofmpaaRecK
import Derived.Test.YtdaigojpeofmpaaIsIn
namespace Go.Proofs.Ytdaigojpeofmpaa
open Go.RowKit

/-- what ofItsKind answers -/
def kindV (x : RecD) (v1 : Value) : Value :=
  if x.kind = 1 then .tuple #[.iface 152 (.agg (recC x v1)), .bool true]
  else if x.kind = 2 then .tuple #[.iface 153 (.agg (recC x v1)), .bool true]
  else if x.kind = 3 then .tuple #[.iface 154 (.agg (recC x v1)), .bool true]
  else .tuple #[.nilIface, .bool false]

set_option maxRecDepth 100000 in
set_option maxHeartbeats 4000000 in
theorem kind_any (v1 : Value) (x : RecD) (w : World) :
    Calls Try.prog 84 #[.agg (recC x v1)] w fun e w' => e = .returned (kindV x v1) ∧ Below w.heap.size w w' := by
  have hV : kindV x v1 = kindV x v1 := rfl
  obtain ⟨area, kind, owner, key, seq, ns, cost, far⟩ := x
  by_cases hk1 : kind = 1
  · subst hk1
    have e : kindV ⟨area, 1, owner, key, seq, ns, cost, far⟩ v1 = .tuple #[.iface 152 (.agg (recC ⟨area, 1, owner, key, seq, ns, cost, far⟩ v1)), .bool true] := rfl
    rw [e]
    unfold recC
    simp only []
    clear e hV
    go_enter Try.func84, Try.ntmps84
    go_wp2
    go_ret2
    exact ⟨rfl, (Below.refl _ _).alloc (Nat.le_refl _) _⟩
  have k1 : (kind == 1) = false := by simpa using hk1
  by_cases hk2 : kind = 2
  · subst hk2
    have e : kindV ⟨area, 2, owner, key, seq, ns, cost, far⟩ v1 = .tuple #[.iface 153 (.agg (recC ⟨area, 2, owner, key, seq, ns, cost, far⟩ v1)), .bool true] := rfl
    rw [e]
    unfold recC
    simp only []
    clear e hV k1 hk1
    go_enter Try.func84, Try.ntmps84
    go_wp2
    go_ret2
    exact ⟨rfl, (Below.refl _ _).alloc (Nat.le_refl _) _⟩
  have k2 : (kind == 2) = false := by simpa using hk2
  by_cases hk3 : kind = 3
  · subst hk3
    have e : kindV ⟨area, 3, owner, key, seq, ns, cost, far⟩ v1 = .tuple #[.iface 154 (.agg (recC ⟨area, 3, owner, key, seq, ns, cost, far⟩ v1)), .bool true] := rfl
    rw [e]
    unfold recC
    simp only []
    clear e hV k1 hk1 k2 hk2
    go_enter Try.func84, Try.ntmps84
    go_wp2
    go_ret2
    exact ⟨rfl, (Below.refl _ _).alloc (Nat.le_refl _) _⟩
  have k3 : (kind == 3) = false := by simpa using hk3
  have e : kindV ⟨area, kind, owner, key, seq, ns, cost, far⟩ v1 = .tuple #[.nilIface, .bool false] := by unfold kindV; rw [if_neg hk1, if_neg hk2, if_neg hk3]
  rw [e]
  unfold recC
  simp only []
  clear e hV hk1 hk2 hk3
  go_enter Try.func84, Try.ntmps84
  go_wp2
  go_ret2
  exact ⟨rfl, (Below.refl _ _).alloc (Nat.le_refl _) _⟩

set_option maxRecDepth 100000 in
set_option maxHeartbeats 4000000 in
theorem nodeKey_any (v1 : Value) (x : RecD) (w : World) :
    Calls Try.prog 134 #[.agg (recC x v1)] w fun e w' => e = .returned (.bool (inB x.area 0 2 && x.key == 0)) ∧ Below w.heap.size w w' := by
  obtain ⟨area, kind, owner, key, seq, ns, cost, far⟩ := x
  unfold recC
  simp only []
  have H1 := hide (isIn_any area 0 2)
  obtain ⟨q1, hq1⟩ : ∃ q, q = inB area 0 2 := ⟨_, rfl⟩
  rw [← hq1] at H1 ⊢
  clear hq1
  go_enter Try.func134, Try.ntmps134
  go_wp2_with fail
  refine (H1.out _).mono ?_
  rintro e w1 ⟨rfl, rfl⟩
  cases q1
  · go_wp2
    go_ret
    exact ⟨by simp, (Below.refl _ _).alloc (Nat.le_refl _) _⟩
  · go_wp2
    go_ret
    exact ⟨by simp, (Below.refl _ _).alloc (Nat.le_refl _) _⟩

set_option maxRecDepth 100000 in
set_option maxHeartbeats 4000000 in
theorem beyondKey_any (v1 : Value) (x : RecD) (w : World) :
    Calls Try.prog 135 #[.agg (recC x v1)] w fun e w' => e = .returned (.bool (inB x.area 0 2 && inB x.key 1 6)) ∧ Below w.heap.size w w' := by
  obtain ⟨area, kind, owner, key, seq, ns, cost, far⟩ := x
  unfold recC
  simp only []
  have H1 := hide (isIn_any area 0 2)
  have H2 := hide (isIn_any key 1 6)
  obtain ⟨q1, hq1⟩ : ∃ q, q = inB area 0 2 := ⟨_, rfl⟩
  obtain ⟨q2, hq2⟩ : ∃ q, q = inB key 1 6 := ⟨_, rfl⟩
  rw [← hq1] at H1 ⊢
  rw [← hq2] at H2 ⊢
  clear hq1 hq2
  go_enter Try.func135, Try.ntmps135
  go_wp2_with fail
  refine (H1.out _).mono ?_
  rintro e w1 ⟨rfl, rfl⟩
  cases q1
  · go_wp2
    go_ret
    exact ⟨by simp, (Below.refl _ _).alloc (Nat.le_refl _) _⟩
  · go_wp2_with fail
    refine (H2.out _).mono ?_
    rintro e w1 ⟨rfl, rfl⟩
    go_wp2
    go_ret
    exact ⟨by simp, (Below.refl _ _).alloc (Nat.le_refl _) _⟩

set_option maxRecDepth 100000 in
set_option maxHeartbeats 4000000 in
theorem thingKey_any (v1 : Value) (x : RecD) (w : World) :
    Calls Try.prog 136 #[.agg (recC x v1)] w fun e w' => e = .returned (.bool (x.area == 9 && inB x.key 1 9)) ∧ Below w.heap.size w w' := by
  obtain ⟨area, kind, owner, key, seq, ns, cost, far⟩ := x
  unfold recC
  simp only []
  have H2 := hide (isIn_any key 1 9)
  obtain ⟨q2, hq2⟩ : ∃ q, q = inB key 1 9 := ⟨_, rfl⟩
  rw [← hq2] at H2 ⊢
  clear hq2
  by_cases ha : area = 9
  · subst ha
    go_enter Try.func136, Try.ntmps136
    go_wp2_with fail
    refine (H2.out _).mono ?_
    rintro e w1 ⟨rfl, rfl⟩
    go_wp2
    go_ret
    exact ⟨by simp, (Below.refl _ _).alloc (Nat.le_refl _) _⟩
  · have hd : (area == 9) = false := by simpa using ha
    go_enter Try.func136, Try.ntmps136
    go_wp2
    go_ret
    exact ⟨by simp [hd], (Below.refl _ _).alloc (Nat.le_refl _) _⟩
end Go.Proofs.Ytdaigojpeofmpaa
