/-
  spec.l01In, spec.VarText, impl.VarText: their contracts; the law's walk.
-/
import Derived.Test.YtkpedpaffjoifaaVar
namespace Go.Proofs.Ytkpedpaffjoifaa
open Go.RowKit

def inB (x a b : Int) : Bool := decide (a ≤ x) && decide (x ≤ b)

set_option maxHeartbeats 400000 in
theorem in_any (x a b : Int) (w : World) : Calls Try.prog 24 #[.int .i64 x, .int .i64 a, .int .i64 b] w fun e w' => e = .returned (.bool (inB x a b)) ∧ w = w' := by
  by_cases h1 : a ≤ x <;> by_cases h2 : x ≤ b
  all_goals
    go_enter Try.func24, Try.ntmps24
    go_wp2
    go_ret
    exact ⟨by simp [inB, h1, h2], rfl⟩

def varV (n : Int) : Value := if 0 ≤ n ∧ n ≤ 1000000000 then .tuple #[.string (bs (varL n.toNat)), .bool true] else .tuple #[.string (bs []), .bool false]

set_option maxHeartbeats 400000 in
theorem svt_any (n : Int) (w : World) : Calls Try.prog 10 #[.int .i64 n] w fun e w' => e = .returned (varV n) ∧ Below w.heap.size w w' := by
  by_cases h : 0 ≤ n ∧ n ≤ 1000000000
  · have hin : inB n 0 1000000000 = true := by simp [inB, h]
    have hv : varV n = .tuple #[.string (bs (varL n.toNat)), .bool true] := by simp [varV, h]
    rw [hv]; clear hv
    go_enter Try.func10, Try.ntmps10
    go_wp2_with (first | (go_at_call 24; refine (in_any _ _ _ _).mono ?_; rintro e w' ⟨rfl, rfl⟩) | (go_at_call 25; refine (var_any _ _ h.1 h.2).mono ?_; rintro e w' ⟨rfl, hb⟩))
    go_ret2
    exact ⟨rfl, hb⟩
  · have hin : inB n 0 1000000000 = false := by simp [inB]; omega
    have hv : varV n = .tuple #[.string (bs []), .bool false] := by simp [varV, h]
    rw [hv]; clear hv
    go_enter Try.func10, Try.ntmps10
    go_wp2_with (first | (go_at_call 24; refine (in_any _ _ _ _).mono ?_; rintro e w' ⟨rfl, rfl⟩))
    go_ret2
    exact ⟨rfl, Below.refl _ _⟩

set_option maxHeartbeats 400000 in
theorem ivt_any (n : Int) (w : World) : Calls Try.prog 11 #[.int .i64 n] w fun e w' => e = .returned (varV n) ∧ Below w.heap.size w w' := by
  by_cases hn : n < 0
  · have hv : varV n = .tuple #[.string (bs []), .bool false] := by simp [varV]; omega
    rw [hv]; clear hv
    go_enter Try.func11, Try.ntmps11
    go_wp2
    go_ret2
    exact ⟨rfl, Below.refl _ _⟩
  by_cases hx : 1000000000 < n
  · have hv : varV n = .tuple #[.string (bs []), .bool false] := by simp [varV]; omega
    rw [hv]; clear hv
    go_enter Try.func11, Try.ntmps11
    go_wp2
    go_ret2
    exact ⟨rfl, Below.refl _ _⟩
  have hv : varV n = .tuple #[.string (bs (varL n.toNat)), .bool true] := by simp [varV]; omega
  rw [hv]; clear hv
  go_enter Try.func11, Try.ntmps11
  go_wp2
  go_loopw [4, 0] (fun v i wr => ∃ (m : Nat) (pre : List UInt8), pre.length + m ≤ 1000000000 ∧ i = .int .i64 m ∧ Hid (varL n.toNat = pre ++ varL m) ∧ wr.ownsRow w.heap.size 5 1 v pre.length (cellsOf pre) ∧ Below w.heap.size w wr)
    (fun _ i _ => (intOf i).toNat)
  case atStart =>
    exact ⟨n.toNat, [], by simp; omega, by simp; omega, rfl, World.ownsRow_nil _ _ _ _, Below.refl _ _⟩
  case round =>
    obtain ⟨m, pre, hm, rfl, hv, hown, hnx⟩ := hrel
    have hsz := hnx.size
    by_cases hlt : 127 < m
    · go_wp2_with (first
        | (at_builtin; refine wpList_append_bytes _ rfl _ _ 36 rfl w.heap.size 5 Try.underlying36 Try.info5 _ pre [hiB m] rfl (hown.alloc _) ⟨wr.heap.size, 0, none⟩ 1 rfl (news_one _ _ _ (byte_hi m)) (by simp; omega) (by simp; omega) ?_))
      intro v' w1 l' hl' hown' hgrow
      have hb := below_append _ hnx hown (Nat.le_refl _) hsz hgrow
      clear hgrow hnx hown
      go_wp2
      go_roundw
      case rel => exact ⟨m / 128, l', by rw [hl'.out]; simp; omega, by go_num, by rw [hv.out, varL_big hlt, hl'.out]; simp [Hid], hown', hb⟩
      case measure => simp [intOf]; omega
    · go_wp2_with (first
        | (at_builtin; refine wpList_append_bytes _ rfl _ _ 36 rfl w.heap.size 5 Try.underlying36 Try.info5 _ pre [loB m] rfl (hown.alloc _) ⟨wr.heap.size, 0, none⟩ 1 rfl (news_one _ _ _ (byte_lo m (by omega))) (by simp; omega) (by simp; omega) ?_))
      intro v' w1 l' hl' hown' hgrow
      have hb := below_append _ hnx hown (Nat.le_refl _) hsz hgrow
      clear hgrow hnx hown
      have hstr := run_str_own (P := Try.prog) 36 9 5 Try.underlying36 Try.underlying5 Try.underlying9 hown'
      go_wp2
      go_ret2
      exact ⟨by rw [hv.out, varL_small (by omega), ← hl'.out]; rfl, hb⟩

theorem varV_two (n : Int) : ∃ (s : ByteArray) (b : Bool), varV n = .tuple #[.string s, .bool b] := by
  unfold varV; split <;> exact ⟨_, _, rfl⟩

set_option maxHeartbeats 400000 in
theorem fnExactVarText_walk (a0 : Int) (_ : (Lit.int .i64 a0).wf = true) (w : World) : Calls Try.prog 3 #[.int .i64 a0] w fun e w' => e = .returned (.bool true) ∧ Below w.heap.size w w' := by
  obtain ⟨s, b, hv⟩ := varV_two a0
  go_enter Try.func3, Try.ntmps3
  go_wp2_with (first | (go_at_call 10; refine (svt_any _ _).mono ?_; rw [hv]; rintro e w1 ⟨rfl, hb1⟩) | (go_at_call 11; refine (ivt_any _ _).mono ?_; rw [hv]; rintro e w2 ⟨rfl, hb2⟩))
  go_ret
  exact ⟨rfl, hb1.trans (hb2.mono hb1.size)⟩
end Go.Proofs.Ytkpedpaffjoifaa
