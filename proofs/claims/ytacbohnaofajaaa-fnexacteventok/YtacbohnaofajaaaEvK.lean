/-
  Events: laws.szEvent, toEvent; impl.EventOk, spec.EventOk: their contracts.
-/
import Derived.Test.YtacbohnaofajaaaILink
namespace Go.Proofs.Ytacbohnaofajaaa
open Go.RowKit

theorem loop_len (s : ByteArray) : ∀ (n i : Nat) (acc : List UInt8), s.size - i = n → (ByteArray.toList.loop s i acc).length = acc.length + (s.size - i) := by
  intro n
  induction n with
  | zero => intro i acc h; unfold ByteArray.toList.loop; rw [if_neg (by omega)]; simp; omega
  | succ n ih => intro i acc h; unfold ByteArray.toList.loop; rw [if_pos (by omega), ih (i+1) _ (by omega)]; simp; omega
theorem bytes_none {s : ByteArray} (h : ¬ s = ByteArray.empty) : s.toList.isEmpty = false := by
  have hl : s.toList.length = s.size := by unfold ByteArray.toList; rw [loop_len s _ 0 [] rfl]; simp
  cases hx : s.toList.isEmpty with
  | false => rfl
  | true =>
    have h0 : s.toList = [] := List.isEmpty_iff.1 hx
    rw [h0] at hl
    exact absurd (ByteArray.ext (Array.eq_empty_of_size_eq_zero (by simpa using hl.symm))) h

structure EvD where
  k : Int
  n : Int
  a : Int
  s : ByteArray

def evV (x : EvD) : Value := .agg #[.int .i64 x.k, .int .i64 x.n, .int .i64 x.a, .string x.s]

def eventOkB (N : Int) (x : EvD) : Bool := inB x.k 1 9 && decide (0 ≤ x.a) && inB x.n 1 N && decide (x.s.size ≤ 200) && (x.k == 9 || decide (x.s = ByteArray.empty))

set_option maxRecDepth 100000 in
set_option maxHeartbeats 1000000 in
theorem toEvent_any (x : EvD) (w : World) : Calls Try.prog 8 #[evV x] w fun e w' => e = .returned (evV x) ∧ Below w.heap.size w w' := by
  obtain ⟨k, o, a, s⟩ := x
  unfold evV
  simp only []
  go_enter Try.func8, Try.ntmps8
  go_wp2
  go_returns
  exact ⟨rfl, below_three _ _ _⟩

def szE (n m : Int) : Int := if n - m < 0 then -1 else n - m

set_option maxRecDepth 100000 in
set_option maxHeartbeats 1000000 in
theorem szEvent_any (x : EvD) (n : Int) (w : World) (hn : 0 ≤ n) (hn2 : n ≤ 1048576) (hs : (x.s.size : Int) ≤ 9223372036854775807) : Calls Try.prog 5 #[evV x, .int .i64 n] w fun e w' => e = .returned (.int .i64 (szE n x.s.size)) ∧ Below w.heap.size w w' := by
  obtain ⟨k, o, a, s⟩ := x
  unfold evV szE
  simp only [] at hs ⊢
  have hw : IntKind.i64.wrap (n - (s.size : Int)) = n - (s.size : Int) := by unfold IntKind.wrap; simp [IntKind.bits, IntKind.signed]; omega
  by_cases h : n - (s.size : Int) < 0
  · rw [if_pos h]
    go_enter Try.func5, Try.ntmps5
    go_wp2
    go_ret
    exact ⟨rfl, (Below.refl _ _).alloc (Nat.le_refl _) _⟩
  · rw [if_neg h]
    go_enter Try.func5, Try.ntmps5
    go_wp2
    go_ret
    exact ⟨rfl, (Below.refl _ _).alloc (Nat.le_refl _) _⟩

set_option maxRecDepth 100000 in
set_option maxHeartbeats 2000000 in
theorem seventOk_any (n v1 v2 : Value) (N : Int) (hn : n = .int .i64 N) (x : EvD) (w : World) : Calls Try.prog 6 #[.agg #[n, v1, v2], evV x] w fun e w' => e = .returned (.bool (eventOkB N x)) ∧ Below w.heap.size w w' := by
  subst hn
  obtain ⟨k, o, a, s⟩ := x
  unfold evV eventOkB
  simp only []
  generalize hq1 : inB k 1 9 = q1
  generalize hq2 : inB o 1 N = q2
  have h1 := in_any k 1 9
  have h2 := in_any o 1 N
  rw [hq1] at h1
  rw [hq2] at h2
  have H1 := hide h1
  have H2 := hide h2
  clear h1 h2 hq1 hq2
  cases q1
  · go_enter Try.func6, Try.ntmps6
    go_wp2_with fail
    refine (H1.out _).mono ?_
    rintro e w1 ⟨rfl, rfl⟩
    go_wp2
    go_ret
    exact ⟨by simp, ((Below.refl _ _).alloc (Nat.le_refl _) _).alloc (by simp) _⟩
  by_cases ha : 0 ≤ a
  rotate_left
  · go_enter Try.func6, Try.ntmps6
    go_wp2_with fail
    refine (H1.out _).mono ?_
    rintro e w1 ⟨rfl, rfl⟩
    go_wp2
    go_ret
    exact ⟨ret_bool (by rw [decide_eq_false (show ¬ 0 ≤ a by omega)]; simp), ((Below.refl _ _).alloc (Nat.le_refl _) _).alloc (by simp) _⟩
  cases q2
  · go_enter Try.func6, Try.ntmps6
    go_wp2_with fail
    refine (H1.out _).mono ?_
    rintro e w1 ⟨rfl, rfl⟩
    go_wp2_with fail
    refine (H2.out _).mono ?_
    rintro e w1 ⟨rfl, rfl⟩
    go_wp2
    go_ret
    exact ⟨by simp, ((Below.refl _ _).alloc (Nat.le_refl _) _).alloc (by simp) _⟩
  by_cases hs : s.size ≤ 200
  rotate_left
  · go_enter Try.func6, Try.ntmps6
    go_wp2_with fail
    refine (H1.out _).mono ?_
    rintro e w1 ⟨rfl, rfl⟩
    go_wp2_with fail
    refine (H2.out _).mono ?_
    rintro e w1 ⟨rfl, rfl⟩
    go_wp2
    go_ret
    exact ⟨ret_bool (by first | rfl | (rw [decide_eq_false hs]; simp)), ((Below.refl _ _).alloc (Nat.le_refl _) _).alloc (by simp) _⟩
  by_cases hk : k = 9
  · subst hk
    go_enter Try.func6, Try.ntmps6
    go_wp2_with fail
    refine (H1.out _).mono ?_
    rintro e w1 ⟨rfl, rfl⟩
    go_wp2_with fail
    refine (H2.out _).mono ?_
    rintro e w1 ⟨rfl, rfl⟩
    go_wp2
    go_ret
    exact ⟨ret_bool (by first | rfl | (rw [decide_eq_true ha, decide_eq_true hs]; simp)), ((Below.refl _ _).alloc (Nat.le_refl _) _).alloc (by simp) _⟩
  have hk2 : (k == 9) = false := by simp [hk]
  by_cases he : s = ByteArray.empty
  · subst he
    go_enter Try.func6, Try.ntmps6
    go_wp2_with fail
    refine (H1.out _).mono ?_
    rintro e w1 ⟨rfl, rfl⟩
    go_wp2_with fail
    refine (H2.out _).mono ?_
    rintro e w1 ⟨rfl, rfl⟩
    go_wp2
    go_ret
    exact ⟨ret_bool (by first | rfl | (rw [decide_eq_true ha, decide_eq_true hs]; simp)), ((Below.refl _ _).alloc (Nat.le_refl _) _).alloc (by simp) _⟩
  · go_enter Try.func6, Try.ntmps6
    go_wp2_with fail
    refine (H1.out _).mono ?_
    rintro e w1 ⟨rfl, rfl⟩
    go_wp2_with fail
    refine (H2.out _).mono ?_
    rintro e w1 ⟨rfl, rfl⟩
    go_wp2
    go_ret
    exact ⟨ret_bool (by rw [bytes_none he, decide_eq_false he, hk2]; simp), ((Below.refl _ _).alloc (Nat.le_refl _) _).alloc (by simp) _⟩

set_option maxRecDepth 100000 in
set_option maxHeartbeats 2000000 in
theorem ieventOk_any (n v1 v2 : Value) (N : Int) (hn : n = .int .i64 N) (x : EvD) (w : World) : Calls Try.prog 9 #[.agg #[n, v1, v2], evV x] w fun e w' => e = .returned (.bool (eventOkB N x)) ∧ Below w.heap.size w w' := by
  subst hn
  obtain ⟨k, o, a, s⟩ := x
  unfold evV eventOkB
  simp only []
  generalize hq1 : inB k 1 9 = q1
  generalize hq2 : inB o 1 N = q2
  have h1 := isIn_any k 1 9
  have h2 := isIn_any o 1 N
  rw [hq1] at h1
  rw [hq2] at h2
  have H1 := hide h1
  have H2 := hide h2
  clear h1 h2 hq1 hq2
  cases q1
  · go_enter Try.func9, Try.ntmps9
    go_wp2_with fail
    refine (H1.out _).mono ?_
    rintro e w1 ⟨rfl, rfl⟩
    go_wp2
    go_ret
    exact ⟨by simp, ((Below.refl _ _).alloc (Nat.le_refl _) _).alloc (by simp) _⟩
  by_cases ha : 0 ≤ a
  rotate_left
  · go_enter Try.func9, Try.ntmps9
    go_wp2_with fail
    refine (H1.out _).mono ?_
    rintro e w1 ⟨rfl, rfl⟩
    go_wp2
    go_ret
    exact ⟨ret_bool (by rw [decide_eq_false (show ¬ 0 ≤ a by omega)]; simp), ((Below.refl _ _).alloc (Nat.le_refl _) _).alloc (by simp) _⟩
  cases q2
  · go_enter Try.func9, Try.ntmps9
    go_wp2_with fail
    refine (H1.out _).mono ?_
    rintro e w1 ⟨rfl, rfl⟩
    go_wp2_with fail
    refine (H2.out _).mono ?_
    rintro e w1 ⟨rfl, rfl⟩
    go_wp2
    go_ret
    exact ⟨by simp, ((Below.refl _ _).alloc (Nat.le_refl _) _).alloc (by simp) _⟩
  by_cases hs : s.size ≤ 200
  rotate_left
  · go_enter Try.func9, Try.ntmps9
    go_wp2_with fail
    refine (H1.out _).mono ?_
    rintro e w1 ⟨rfl, rfl⟩
    go_wp2_with fail
    refine (H2.out _).mono ?_
    rintro e w1 ⟨rfl, rfl⟩
    go_wp2
    go_ret
    exact ⟨ret_bool (by first | rfl | (rw [decide_eq_false hs]; simp)), ((Below.refl _ _).alloc (Nat.le_refl _) _).alloc (by simp) _⟩
  by_cases hk : k = 9
  · subst hk
    go_enter Try.func9, Try.ntmps9
    go_wp2_with fail
    refine (H1.out _).mono ?_
    rintro e w1 ⟨rfl, rfl⟩
    go_wp2_with fail
    refine (H2.out _).mono ?_
    rintro e w1 ⟨rfl, rfl⟩
    go_wp2
    go_ret
    exact ⟨ret_bool (by first | rfl | (rw [decide_eq_true ha, decide_eq_true hs]; simp)), ((Below.refl _ _).alloc (Nat.le_refl _) _).alloc (by simp) _⟩
  have hk2 : (k == 9) = false := by simp [hk]
  by_cases he : s = ByteArray.empty
  · subst he
    go_enter Try.func9, Try.ntmps9
    go_wp2_with fail
    refine (H1.out _).mono ?_
    rintro e w1 ⟨rfl, rfl⟩
    go_wp2_with fail
    refine (H2.out _).mono ?_
    rintro e w1 ⟨rfl, rfl⟩
    go_wp2
    go_ret
    exact ⟨ret_bool (by first | rfl | (rw [decide_eq_true ha, decide_eq_true hs]; simp)), ((Below.refl _ _).alloc (Nat.le_refl _) _).alloc (by simp) _⟩
  · go_enter Try.func9, Try.ntmps9
    go_wp2_with fail
    refine (H1.out _).mono ?_
    rintro e w1 ⟨rfl, rfl⟩
    go_wp2_with fail
    refine (H2.out _).mono ?_
    rintro e w1 ⟨rfl, rfl⟩
    go_wp2
    go_ret
    exact ⟨ret_bool (by rw [bytes_none he, decide_eq_false he, hk2]; simp), ((Below.refl _ _).alloc (Nat.le_refl _) _).alloc (by simp) _⟩

end Go.Proofs.Ytacbohnaofajaaa
