/-
  impl.Record.key, impl.SameKey: their contracts.
-/
import Derived.Test.YtdaigojpeofmpaaSameS
import Derived.Deep.RegionHeld3
import Derived.ChangeKeysEq
namespace Go.Proofs.Ytdaigojpeofmpaa
open Go.RowKit

def keyC (x : RecD) : Array Value := #[.int .i64 x.area, .int .i64 x.kind, .int .i64 x.owner, .int .i64 x.key]

set_option maxRecDepth 100000 in
set_option maxHeartbeats 400000 in
theorem keyOf_any (v1 : Value) (x : RecD) (w : World) : Calls Try.prog 52 #[.agg (recC x v1)] w fun e w' => e = .returned (.agg (keyC x)) ∧ Below w.heap.size w w' := by
  obtain ⟨a0, a1, a2, a3, a4, ns, a6, a7⟩ := x
  unfold recC keyC
  simp only []
  go_enter Try.func52, Try.ntmps52
  go_wp2
  go_returns
  exact ⟨rfl, below_two _ _⟩

theorem keyOf_raw (a0 a1 a2 a3 a4 : Int) (v : Value) (a6 : Int) (a7 : Bool) (w : World) : Calls Try.prog 52 #[.agg #[.int .i64 a0, .int .i64 a1, .int .i64 a2, .int .i64 a3, .int .i64 a4, v, .int .i64 a6, .bool a7]] w fun e w' => e = .returned (.agg #[.int .i64 a0, .int .i64 a1, .int .i64 a2, .int .i64 a3]) ∧ Below w.heap.size w w' :=
  keyOf_any v ⟨a0, a1, a2, a3, a4, [], a6, a7⟩ w

theorem Try.info3k : (Try.prog.info? 3).map (fun i => (i.zero, i.size, i.bytes)) = some (some (.int .i64 0), 1, 8) := by kernel_rfl

theorem key_eql (w : World) (a b c d a' b' c' d' : Int) : (binOp .eql 88 (.agg #[.int .i64 a, .int .i64 b, .int .i64 c, .int .i64 d]) (.agg #[.int .i64 a', .int .i64 b', .int .i64 c', .int .i64 d'])).run Try.prog w = .ok (.bool (a == a' && b == b' && c == c' && d == d')) w := by
  obtain ⟨i0, hi, _⟩ := info_parts Try.info3k
  have hu : Try.prog.underlying 88 = some (.array 4 3) := by kernel_rfl
  have u3 : Try.prog.underlying 3 = some (.int .i64) := by kernel_rfl
  have hc : Try.prog.cellsOf 3 = 1 := by kernel_rfl
  have hp : Try.prog.plainKey 3 = true := by kernel_rfl
  have pt : ∀ (xs : Array Value) (off : Nat) (u : Value), xs[off]? = some u → (Go.part 3 xs off).run Try.prog w = .ok u w := fun xs off u h => run_part_plain w hp h
  have eqi : ∀ (n : Nat) (x y : Int), (Op.equalIn (n + 1) 3 (.int .i64 x) (.int .i64 y)).run Try.prog w = .ok (x == y) w := fun n x y => run_equalIn_int w n 3 .i64 .i64 x y u3
  go_simp
  have e1 : (Op.equalIn 10000 88 (.agg #[.int .i64 a, .int .i64 b, .int .i64 c, .int .i64 d]) (.agg #[.int .i64 a', .int .i64 b', .int .i64 c', .int .i64 d'])).run Try.prog w = .ok (a == a' && b == b' && c == c' && d == d') w := by
    rw [run_equalIn_array w 9999 _ _ hu hi, hc]
    show (Op.eqItems 9999 3 1 _ _ [0, 1, 2, 3]).run Try.prog w = _
    simp only [Op.eqItems, Sem.run_bind]
    rw [pt _ _ (.int .i64 a) rfl]
    simp only [Result.andThen_ok]
    rw [pt _ _ (.int .i64 a') rfl]
    simp only [Result.andThen_ok]
    rw [eqi 9998 a a']
    simp only [Result.andThen_ok]
    cases a == a'
    · rfl
    simp only [Bool.not_true, Bool.false_eq_true, if_false, Sem.run_bind, Bool.true_and]
    rw [pt _ _ (.int .i64 b) rfl]
    simp only [Result.andThen_ok]
    rw [pt _ _ (.int .i64 b') rfl]
    simp only [Result.andThen_ok]
    rw [eqi 9998 b b']
    simp only [Result.andThen_ok]
    cases b == b'
    · rfl
    simp only [Bool.not_true, Bool.false_eq_true, if_false, Sem.run_bind, Bool.true_and]
    rw [pt _ _ (.int .i64 c) rfl]
    simp only [Result.andThen_ok]
    rw [pt _ _ (.int .i64 c') rfl]
    simp only [Result.andThen_ok]
    rw [eqi 9998 c c']
    simp only [Result.andThen_ok]
    cases c == c'
    · rfl
    simp only [Bool.not_true, Bool.false_eq_true, if_false, Sem.run_bind, Bool.true_and]
    rw [pt _ _ (.int .i64 d) rfl]
    simp only [Result.andThen_ok]
    rw [pt _ _ (.int .i64 d') rfl]
    simp only [Result.andThen_ok]
    rw [eqi 9998 d d']
    simp only [Result.andThen_ok]
    cases d == d'
    · rfl
    · rfl
  rw [e1]
  rfl

end Go.Proofs.Ytdaigojpeofmpaa
