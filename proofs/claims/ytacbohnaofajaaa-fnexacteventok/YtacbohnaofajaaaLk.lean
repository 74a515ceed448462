/-
  Links and things as values; laws.toLink, toThing, eqLink, eqThing.
-/
import Derived.Test.YtacbohnaofajaaaStructKit
import Derived.Test.YtacbohnaofajaaaBase
import Derived.Deep.QuietTactic
import Derived.BigQuiet
import Derived.Handy
namespace Go.Proofs.Ytacbohnaofajaaa
open Go.RowKit

structure Lk where
  a : Int
  b : Int
  c : Int
  r : Int
  deriving DecidableEq

structure Th where
  o : Int
  k : Int
  c : Int
  f : Bool
  deriving DecidableEq

def lkV (l : Lk) : Value := .agg #[.int .i64 l.a, .int .i64 l.b, .int .i64 l.c, .int .i64 l.r]

def thV (t : Th) : Value := .agg #[.int .i64 t.o, .int .i64 t.k, .int .i64 t.c, .bool t.f]

set_option maxRecDepth 100000 in
set_option maxHeartbeats 1000000 in
theorem toLink_any (l : Lk) (w : World) : Calls Try.prog 19 #[lkV l] w fun e w' => e = .returned (lkV l) ∧ Below w.heap.size w w' := by
  obtain ⟨a, b, c, r⟩ := l
  unfold lkV
  go_enter Try.func19, Try.ntmps19
  go_wp2
  go_returns
  exact ⟨rfl, below_three _ _ _⟩

set_option maxRecDepth 100000 in
set_option maxHeartbeats 1000000 in
theorem toThing_any (l : Th) (w : World) : Calls Try.prog 20 #[thV l] w fun e w' => e = .returned (thV l) ∧ Below w.heap.size w w' := by
  obtain ⟨a, b, c, r⟩ := l
  unfold thV
  go_enter Try.func20, Try.ntmps20
  go_wp2
  go_returns
  exact ⟨rfl, below_three _ _ _⟩

set_option maxRecDepth 100000 in
set_option maxHeartbeats 1000000 in
theorem eqLink_any (l m : Lk) (w : World) : Calls Try.prog 21 #[lkV l, lkV m] w fun e w' => e = .returned (.bool (decide (l = m))) ∧ Below w.heap.size w w' := by
  obtain ⟨a, b, c, r⟩ := l
  obtain ⟨a', b', c', r'⟩ := m
  unfold lkV
  go_enter Try.func21, Try.ntmps21
  go_wp2
  all_goals go_returns
  all_goals refine ⟨?_, below_two _ _⟩
  all_goals first
    | exact ret_bool_no (fun h => by cases h; simp_all)
    | exact ret_bool_yes (by simp_all)

set_option maxRecDepth 100000 in
set_option maxHeartbeats 1000000 in
theorem eqThing_any (l m : Th) (w : World) : Calls Try.prog 22 #[thV l, thV m] w fun e w' => e = .returned (.bool (decide (l = m))) ∧ Below w.heap.size w w' := by
  obtain ⟨a, b, c, r⟩ := l
  obtain ⟨a', b', c', r'⟩ := m
  unfold thV
  go_enter Try.func22, Try.ntmps22
  go_wp2
  all_goals go_returns
  all_goals refine ⟨?_, below_two _ _⟩
  all_goals first
    | exact ret_bool_no (fun h => by cases h; simp_all)
    | exact ret_bool_yes (by simp_all)
end Go.Proofs.Ytacbohnaofajaaa
