/-
  impl.bodyOk: its contract.
-/
import Derived.Test.YtdaigojpeofmpaaIKind
import Derived.Test.YtdaigojpeofmpaaINear
import Derived.Test.YtdaigojpeofmpaaRecOk
namespace Go.Proofs.Ytdaigojpeofmpaa
open Go.RowKit

def nilC : Array Value := #[.int .i64 0, .int .i64 0, .int .i64 0, .int .i64 0, .int .i64 0, .slice none 0 0, .int .i64 0, .bool false]

theorem as1_1 (v : Value) (w : World) : (Instr.typeAssert (.iface 152 v) 126 152 true).run Try.prog w = .ok (.tuple #[v, .bool true]) w := by kernel_rfl

theorem as2_1 (v : Value) (w : World) : (Instr.typeAssert (.iface 153 v) 126 152 true).run Try.prog w = .ok (.tuple #[.agg nilC, .bool false]) w := by kernel_rfl

theorem as2_2 (v : Value) (w : World) : (Instr.typeAssert (.iface 153 v) 126 153 true).run Try.prog w = .ok (.tuple #[v, .bool true]) w := by kernel_rfl

theorem as3_1 (v : Value) (w : World) : (Instr.typeAssert (.iface 154 v) 126 152 true).run Try.prog w = .ok (.tuple #[.agg nilC, .bool false]) w := by kernel_rfl

theorem as3_2 (v : Value) (w : World) : (Instr.typeAssert (.iface 154 v) 126 153 true).run Try.prog w = .ok (.tuple #[.agg nilC, .bool false]) w := by kernel_rfl

theorem as3_3 (v : Value) (w : World) : (Instr.typeAssert (.iface 154 v) 126 154 true).run Try.prog w = .ok (.tuple #[v, .bool true]) w := by kernel_rfl

set_option maxRecDepth 100000 in
set_option maxHeartbeats 400000 in
theorem bodyNode_any (v1 : Value) (x : RecD) (w : World) (hl : x.near.length ≤ 1048576) (hv : NearsAt w v1 x.near w.heap.size) :
    Calls Try.prog 85 #[.iface 152 (.agg (recC x v1))] w fun e w' => e = .returned (.bool (nearsB x.owner x.near && x.cost == 0 && !x.far)) ∧ Below w.heap.size w w' := by
  obtain ⟨p1, c1, rfl⟩ := hv.shape
  have HN := hide (fun W (h : Below w.heap.size w W) => inear_any x.owner (.slice p1 x.near.length c1) x.near W hl (hv.then h))
  obtain ⟨qn, hqn⟩ : ∃ q, q = nearsB x.owner x.near := ⟨_, rfl⟩
  rw [← hqn] at HN ⊢
  clear hqn hv
  obtain ⟨area, kind, owner, key, seq, ns, cost, far⟩ := x
  unfold recC
  simp only [] at HN hl ⊢
  have a1 := as1_1
  have B0 : Below w.heap.size w (w.alloc (.cells #[.int .i64 area, .int .i64 kind, .int .i64 owner, .int .i64 key, .int .i64 seq, .slice p1 ns.length c1, .int .i64 cost, .bool far] 152)) := (Below.refl _ _).alloc (Nat.le_refl _) _
  have NEW := hide (heap_alloc_new w (.cells #[.int .i64 area, .int .i64 kind, .int .i64 owner, .int .i64 key, .int .i64 seq, .slice p1 ns.length c1, .int .i64 cost, .bool far] 152))
  go_enter Try.func85, Try.ntmps85
  go_wp2_with fail
  refine (HN.out _ B0).mono ?_
  rintro e w1 ⟨rfl, b1⟩
  have hx1 : w1.heap[w.heap.size]? = some (.cells #[.int .i64 area, .int .i64 kind, .int .i64 owner, .int .i64 key, .int .i64 seq, .slice p1 ns.length c1, .int .i64 cost, .bool far] 152) := by rw [b1.block _ (by simp)]; exact NEW.out
  have f6 := cells_at hx1 6
  have f7 := cells_at hx1 7
  simp at f6 f7
  have B1 := B0.trans (b1.mono B0.size)
  clear hx1 b1 NEW HN
  cases qn
  · go_wp2
    go_ret
    exact ⟨by simp, B1⟩
  by_cases hc : cost = 0
  case neg =>
    have hd : (cost == 0) = false := by simpa using hc
    go_wp2
    go_ret
    exact ⟨by simp [hd], B1⟩
  subst hc
  cases far
  all_goals
    go_wp2
    go_ret
    exact ⟨by simp, B1⟩


set_option maxRecDepth 100000 in
set_option maxHeartbeats 400000 in
theorem bodyBeyond_any (v1 : Value) (x : RecD) (w : World) (hl : x.near.length ≤ 1048576) (hv : NearsAt w v1 x.near w.heap.size) :
    Calls Try.prog 85 #[.iface 153 (.agg (recC x v1))] w fun e w' => e = .returned (.bool (x.near.length == 0 && inB x.cost 0 60000 && !x.far)) ∧ Below w.heap.size w w' := by
  obtain ⟨p1, c1, rfl⟩ := hv.shape
  clear hv
  have H5 := hide (isIn_any x.cost 0 60000)
  obtain ⟨q5, hq5⟩ : ∃ q, q = inB x.cost 0 60000 := ⟨_, rfl⟩
  rw [← hq5] at H5 ⊢
  clear hq5
  obtain ⟨area, kind, owner, key, seq, ns, cost, far⟩ := x
  unfold recC
  simp only [] at H5 hl ⊢
  have a1 := as2_1
  have a2 := as2_2
  have B0 : Below w.heap.size w (w.alloc (.cells #[.int .i64 area, .int .i64 kind, .int .i64 owner, .int .i64 key, .int .i64 seq, .slice p1 ns.length c1, .int .i64 cost, .bool far] 153)) := (Below.refl _ _).alloc (Nat.le_refl _) _
  by_cases hn0 : ns.length = 0
  case neg =>
    have hd : ((ns.length : Int) == 0) = false := by simp; intro h; rw [h] at hn0; exact hn0 rfl
    have hd2 : (ns.length == 0) = false := by simpa using hn0
    rw [hd2]
    clear hn0 hd2
    go_enter Try.func85, Try.ntmps85
    go_wp2
    go_ret
    exact ⟨by simp, B0⟩
  have hd : ((ns.length : Int) == 0) = true := by simp; exact List.length_eq_zero_iff.1 hn0
  have hd2 : (ns.length == 0) = true := by simpa using hn0
  rw [hd2]
  clear hn0 hd2
  go_enter Try.func85, Try.ntmps85
  go_wp2_with fail
  refine (H5.out _).mono ?_
  rintro e w1 ⟨rfl, rfl⟩
  cases q5
  · go_wp2
    go_ret
    exact ⟨by simp, B0⟩
  cases far
  all_goals
    go_wp2
    go_ret
    exact ⟨by simp, B0⟩


set_option maxRecDepth 100000 in
set_option maxHeartbeats 400000 in
theorem bodyThing_any (v1 : Value) (x : RecD) (w : World) (hl : x.near.length ≤ 1048576) (hv : NearsAt w v1 x.near w.heap.size) :
    Calls Try.prog 85 #[.iface 154 (.agg (recC x v1))] w fun e w' => e = .returned (.bool (x.near.length == 0 && (inB x.cost 1 1000 || x.cost == 60000))) ∧ Below w.heap.size w w' := by
  obtain ⟨p1, c1, rfl⟩ := hv.shape
  clear hv
  have H5 := hide (isIn_any x.cost 1 1000)
  obtain ⟨q5, hq5⟩ : ∃ q, q = inB x.cost 1 1000 := ⟨_, rfl⟩
  rw [← hq5] at H5 ⊢
  clear hq5
  obtain ⟨area, kind, owner, key, seq, ns, cost, far⟩ := x
  unfold recC
  simp only [] at H5 hl ⊢
  have a1 := as3_1
  have a2 := as3_2
  have a3 := as3_3
  have B0 : Below w.heap.size w (w.alloc (.cells #[.int .i64 area, .int .i64 kind, .int .i64 owner, .int .i64 key, .int .i64 seq, .slice p1 ns.length c1, .int .i64 cost, .bool far] 154)) := (Below.refl _ _).alloc (Nat.le_refl _) _
  by_cases hn0 : ns.length = 0
  case neg =>
    have hd : ((ns.length : Int) == 0) = false := by simp; intro h; rw [h] at hn0; exact hn0 rfl
    have hd2 : (ns.length == 0) = false := by simpa using hn0
    rw [hd2]
    clear hn0 hd2
    go_enter Try.func85, Try.ntmps85
    go_wp2
    go_ret
    exact ⟨by simp, B0⟩
  have hd : ((ns.length : Int) == 0) = true := by simp; exact List.length_eq_zero_iff.1 hn0
  have hd2 : (ns.length == 0) = true := by simpa using hn0
  rw [hd2]
  clear hn0 hd2
  go_enter Try.func85, Try.ntmps85
  go_wp2_with fail
  refine (H5.out _).mono ?_
  rintro e w1 ⟨rfl, rfl⟩
  cases q5
  all_goals
    go_wp2
    go_ret
    exact ⟨by simp, B0⟩


end Go.Proofs.Ytdaigojpeofmpaa
