/-
  impl.Record.key, impl.SameKey: their contracts.
-/
import Derived.Test.YthgihhngddhejaaSameS
import Derived.Deep.RegionHeld3
import Derived.ChangeKeysEq
namespace Go.Proofs.Ythgihhngddhejaa
open Go.RowKit

def keyC (x : RecD) : Array Value := #[.int .i64 x.area, .int .i64 x.kind, .int .i64 x.owner, .int .i64 x.key]

set_option maxRecDepth 100000 in
set_option maxHeartbeats 400000 in
theorem keyOf_any (v1 : Value) (x : RecD) (w : World) : Calls Try.prog 26 #[.agg (recC x v1)] w fun e w' => e = .returned (.agg (keyC x)) ∧ Below w.heap.size w w' := by
  obtain ⟨a0, a1, a2, a3, a4, ns, a6, a7⟩ := x
  unfold recC keyC
  simp only []
  go_enter Try.func26, Try.ntmps26
  go_wp2
  go_returns
  exact ⟨rfl, below_two _ _⟩

theorem keyOf_raw (a0 a1 a2 a3 a4 : Int) (v : Value) (a6 : Int) (a7 : Bool) (w : World) : Calls Try.prog 26 #[.agg #[.int .i64 a0, .int .i64 a1, .int .i64 a2, .int .i64 a3, .int .i64 a4, v, .int .i64 a6, .bool a7]] w fun e w' => e = .returned (.agg #[.int .i64 a0, .int .i64 a1, .int .i64 a2, .int .i64 a3]) ∧ Below w.heap.size w w' :=
  keyOf_any v ⟨a0, a1, a2, a3, a4, [], a6, a7⟩ w

theorem Try.info3k : (Try.prog.info? 3).map (fun i => (i.zero, i.size, i.bytes)) = some (some (.int .i64 0), 1, 8) := by kernel_rfl

theorem key_eql (w : World) (a b c d a' b' c' d' : Int) : (binOp .eql 49 (.agg #[.int .i64 a, .int .i64 b, .int .i64 c, .int .i64 d]) (.agg #[.int .i64 a', .int .i64 b', .int .i64 c', .int .i64 d'])).run Try.prog w = .ok (.bool (a == a' && b == b' && c == c' && d == d')) w := by
  obtain ⟨i0, hi, _⟩ := info_parts Try.info3k
  have hu : Try.prog.underlying 49 = some (.array 4 3) := by kernel_rfl
  have u3 : Try.prog.underlying 3 = some (.int .i64) := by kernel_rfl
  have hc : Try.prog.cellsOf 3 = 1 := by kernel_rfl
  have hp : Try.prog.plainKey 3 = true := by kernel_rfl
  have pt : ∀ (xs : Array Value) (off : Nat) (u : Value), xs[off]? = some u → (Go.part 3 xs off).run Try.prog w = .ok u w := fun xs off u h => run_part_plain w hp h
  have eqi : ∀ (n : Nat) (x y : Int), (Op.equalIn (n + 1) 3 (.int .i64 x) (.int .i64 y)).run Try.prog w = .ok (x == y) w := fun n x y => run_equalIn_int w n 3 .i64 .i64 x y u3
  go_simp
  have e1 : (Op.equalIn 10000 49 (.agg #[.int .i64 a, .int .i64 b, .int .i64 c, .int .i64 d]) (.agg #[.int .i64 a', .int .i64 b', .int .i64 c', .int .i64 d'])).run Try.prog w = .ok (a == a' && b == b' && c == c' && d == d') w := by
    rw [run_equalIn_array w 9999 _ _ hu hi, hc]
    show (Op.eqItems 9999 3 1 _ _ [0, 1, 2, 3]).run Try.prog w = _
    simp only [Op.eqItems, Sem.run_bind]
    rw [pt _ _ (.int .i64 a) rfl]
    simp only [Result.andThen_ok]
    rw [pt _ _ (.int .i64 a') rfl]
    simp only [Result.andThen_ok]
    rw [eqi 9998 a a']
    simp only [Result.andThen_ok]
    cases a == a'
    · rfl
    simp only [Bool.not_true, Bool.false_eq_true, if_false, Sem.run_bind, Bool.true_and]
    rw [pt _ _ (.int .i64 b) rfl]
    simp only [Result.andThen_ok]
    rw [pt _ _ (.int .i64 b') rfl]
    simp only [Result.andThen_ok]
    rw [eqi 9998 b b']
    simp only [Result.andThen_ok]
    cases b == b'
    · rfl
    simp only [Bool.not_true, Bool.false_eq_true, if_false, Sem.run_bind, Bool.true_and]
    rw [pt _ _ (.int .i64 c) rfl]
    simp only [Result.andThen_ok]
    rw [pt _ _ (.int .i64 c') rfl]
    simp only [Result.andThen_ok]
    rw [eqi 9998 c c']
    simp only [Result.andThen_ok]
    cases c == c'
    · rfl
    simp only [Bool.not_true, Bool.false_eq_true, if_false, Sem.run_bind, Bool.true_and]
    rw [pt _ _ (.int .i64 d) rfl]
    simp only [Result.andThen_ok]
    rw [pt _ _ (.int .i64 d') rfl]
    simp only [Result.andThen_ok]
    rw [eqi 9998 d d']
    simp only [Result.andThen_ok]
    cases d == d'
    · rfl
    · rfl
  rw [e1]
  rfl

set_option maxRecDepth 100000 in
set_option maxHeartbeats 400000 in
theorem isameKey_any (v1 v2 : Value) (x y : RecD) (w : World) : Calls Try.prog 23 #[.agg (recC x v1), .agg (recC y v2)] w fun e w' => e = .returned (.bool (sameKeyB x y)) ∧ Below w.heap.size w w' := by
  have HK := hide keyOf_raw
  have e0 := fun W => key_eql W x.area x.kind x.owner x.key y.area y.kind y.owner y.key
  obtain ⟨q, hq⟩ : ∃ q, q = sameKeyB x y := ⟨_, rfl⟩
  rw [← hq]
  have hq2 : (x.area == y.area && x.kind == y.kind && x.owner == y.owner && x.key == y.key) = q := by rw [hq]; rfl
  rw [hq2] at e0
  clear hq hq2
  unfold recC at *
  go_enter Try.func23, Try.ntmps23
  go_wp2
  obtain ⟨w1, hw1⟩ : ∃ w1, w1 = (w.alloc (.cells #[.int .i64 x.area, .int .i64 x.kind, .int .i64 x.owner, .int .i64 x.key, .int .i64 x.seq, v1, .int .i64 x.cost, .bool x.far] 35)).alloc (.cells #[.int .i64 y.area, .int .i64 y.kind, .int .i64 y.owner, .int .i64 y.key, .int .i64 y.seq, v2, .int .i64 y.cost, .bool y.far] 35) := ⟨_, rfl⟩
  have B1 : Below w.heap.size w w1 := by rw [hw1]; exact below_two _ _
  have p0 : w1.heap[w.heap.size]? = some (.cells #[.int .i64 x.area, .int .i64 x.kind, .int .i64 x.owner, .int .i64 x.key, .int .i64 x.seq, v1, .int .i64 x.cost, .bool x.far] 35) := by rw [hw1, Below.heap_alloc _ _ _ (by simp), heap_alloc_new]
  have q0 : w1.heap[w.heap.size + 1]? = some (.cells #[.int .i64 y.area, .int .i64 y.kind, .int .i64 y.owner, .int .i64 y.key, .int .i64 y.seq, v2, .int .i64 y.cost, .bool y.far] 35) := by
    rw [hw1]
    have := heap_alloc_new (w.alloc (.cells #[.int .i64 x.area, .int .i64 x.kind, .int .i64 x.owner, .int .i64 x.key, .int .i64 x.seq, v1, .int .i64 x.cost, .bool x.far] 35)) (.cells #[.int .i64 y.area, .int .i64 y.kind, .int .i64 y.owner, .int .i64 y.key, .int .i64 y.seq, v2, .int .i64 y.cost, .bool y.far] 35)
    simpa using this
  rw [← hw1]
  clear hw1
  have s0 := cells_at p0 0
  have s1 := cells_at p0 1
  have s2 := cells_at p0 2
  have s3 := cells_at p0 3
  have s4 := cells_at p0 4
  have s5 := cells_at p0 5
  have s6 := cells_at p0 6
  have s7 := cells_at p0 7
  simp at s0 s1 s2 s3 s4 s5 s6 s7
  have t0 := cells_at q0 0
  have t1 := cells_at q0 1
  have t2 := cells_at q0 2
  have t3 := cells_at q0 3
  have t4 := cells_at q0 4
  have t5 := cells_at q0 5
  have t6 := cells_at q0 6
  have t7 := cells_at q0 7
  simp at t0 t1 t2 t3 t4 t5 t6 t7
  have hz0 := lt_of_heap p0
  have hz1 := lt_of_heap q0
  clear p0 q0
  have hz2 := B1.size
  go_region_held3 (fun W => W.cell? ⟨w.heap.size, 0, none⟩ = some (.int .i64 x.area) ∧ W.cell? ⟨w.heap.size, 1, none⟩ = some (.int .i64 x.kind) ∧ W.cell? ⟨w.heap.size, 2, none⟩ = some (.int .i64 x.owner) ∧ W.cell? ⟨w.heap.size, 3, none⟩ = some (.int .i64 x.key) ∧ W.cell? ⟨w.heap.size, 4, none⟩ = some (.int .i64 x.seq) ∧ W.cell? ⟨w.heap.size, 5, none⟩ = some (v1) ∧ W.cell? ⟨w.heap.size, 6, none⟩ = some (.int .i64 x.cost) ∧ W.cell? ⟨w.heap.size, 7, none⟩ = some (.bool x.far) ∧ W.cell? ⟨w.heap.size + 1, 0, none⟩ = some (.int .i64 y.area) ∧ W.cell? ⟨w.heap.size + 1, 1, none⟩ = some (.int .i64 y.kind) ∧ W.cell? ⟨w.heap.size + 1, 2, none⟩ = some (.int .i64 y.owner) ∧ W.cell? ⟨w.heap.size + 1, 3, none⟩ = some (.int .i64 y.key) ∧ W.cell? ⟨w.heap.size + 1, 4, none⟩ = some (.int .i64 y.seq) ∧ W.cell? ⟨w.heap.size + 1, 5, none⟩ = some (v2) ∧ W.cell? ⟨w.heap.size + 1, 6, none⟩ = some (.int .i64 y.cost) ∧ W.cell? ⟨w.heap.size + 1, 7, none⟩ = some (.bool y.far)) (first | go_keep | (refine ⟨?_, ?_, ?_, ?_, ?_, ?_, ?_, ?_, ?_, ?_, ?_, ?_, ?_, ?_, ?_, ?_⟩ <;> (rw [b3.cell (Nat.lt_of_lt_of_le (by assumption) b2.size), b2.cell (by assumption)]; assumption)) | (refine ⟨?_, ?_, ?_, ?_, ?_, ?_, ?_, ?_, ?_, ?_, ?_, ?_, ?_, ?_, ?_, ?_⟩ <;> (rw [b2.cell (by assumption)]; assumption))) (first | (go_at_call 26; have hb2 := b2; refine (HK.out _ _ _ _ _ _ _ _ _).mono ?_; rintro e w3 ⟨rfl, b3⟩) | (go_at_call 26; refine (HK.out _ _ _ _ _ _ _ _ _).mono ?_; rintro e w2 ⟨rfl, b2⟩))
  have B2 : Below w.heap.size w w2 := B1.drew.trans (b2.mono B1.size)
  have B3 : Below w.heap.size w w3 := B2.trans (b3.mono B2.size)
  go_wp2
  go_ret
  exact ⟨rfl, B3⟩
end Go.Proofs.Ythgihhngddhejaa
