/-
  Links and things as values; laws.toLink, toThing, eqLink, eqThing.
-/
import Derived.Test.YtlkbodppkljoiaaBase
import Derived.Deep.QuietTactic
import Derived.BigQuiet
import Derived.Handy
namespace Go.Proofs.Ytlkbodppkljoiaa
open Go.RowKit

structure Lk where
  a : Int
  b : Int
  c : Int
  r : Int
  deriving DecidableEq

structure Th where
  o : Int
  k : Int
  c : Int
  f : Bool
  deriving DecidableEq

def lkV (l : Lk) : Value := .agg #[.int .i64 l.a, .int .i64 l.b, .int .i64 l.c, .int .i64 l.r]

def thV (t : Th) : Value := .agg #[.int .i64 t.o, .int .i64 t.k, .int .i64 t.c, .bool t.f]

theorem ret_bool_no {p : Prop} [Decidable p] (h : ¬ p) : Ending.returned (.bool false) = .returned (.bool (decide p)) := by rw [decide_eq_false h]

theorem ret_bool_yes {p : Prop} [Decidable p] (h : p) : Ending.returned (.bool true) = .returned (.bool (decide p)) := by rw [decide_eq_true h]

theorem below_two {w : World} (o1 o2 : Obj) : Below w.heap.size w ((w.alloc o1).alloc o2) := ((Below.refl _ _).alloc (Nat.le_refl _) _).alloc (by simp) _

theorem below_three {w : World} (o1 o2 o3 : Obj) : Below w.heap.size w (((w.alloc o1).alloc o2).alloc o3) := (below_two o1 o2).alloc (by simp; omega) _

set_option maxRecDepth 100000 in
set_option maxHeartbeats 1000000 in
theorem toLink_any (l : Lk) (w : World) : Calls Try.prog 17 #[lkV l] w fun e w' => e = .returned (lkV l) ∧ Below w.heap.size w w' := by
  obtain ⟨a, b, c, r⟩ := l
  unfold lkV
  go_enter Try.func17, Try.ntmps17
  go_wp2
  go_returns
  exact ⟨rfl, below_three _ _ _⟩

set_option maxRecDepth 100000 in
set_option maxHeartbeats 1000000 in
theorem toThing_any (l : Th) (w : World) : Calls Try.prog 52 #[thV l] w fun e w' => e = .returned (thV l) ∧ Below w.heap.size w w' := by
  obtain ⟨a, b, c, r⟩ := l
  unfold thV
  go_enter Try.func52, Try.ntmps52
  go_wp2
  go_returns
  exact ⟨rfl, below_three _ _ _⟩

set_option maxRecDepth 100000 in
set_option maxHeartbeats 1000000 in
theorem eqLink_any (l m : Lk) (w : World) : Calls Try.prog 53 #[lkV l, lkV m] w fun e w' => e = .returned (.bool (decide (l = m))) ∧ Below w.heap.size w w' := by
  obtain ⟨a, b, c, r⟩ := l
  obtain ⟨a', b', c', r'⟩ := m
  unfold lkV
  go_enter Try.func53, Try.ntmps53
  go_wp2
  all_goals go_returns
  all_goals refine ⟨?_, below_two _ _⟩
  all_goals first
    | exact ret_bool_no (fun h => by cases h; simp_all)
    | exact ret_bool_yes (by simp_all)

set_option maxRecDepth 100000 in
set_option maxHeartbeats 1000000 in
theorem eqThing_any (l m : Th) (w : World) : Calls Try.prog 54 #[thV l, thV m] w fun e w' => e = .returned (.bool (decide (l = m))) ∧ Below w.heap.size w w' := by
  obtain ⟨a, b, c, r⟩ := l
  obtain ⟨a', b', c', r'⟩ := m
  unfold thV
  go_enter Try.func54, Try.ntmps54
  go_wp2
  all_goals go_returns
  all_goals refine ⟨?_, below_two _ _⟩
  all_goals first
    | exact ret_bool_no (fun h => by cases h; simp_all)
    | exact ret_bool_yes (by simp_all)
end Go.Proofs.Ytlkbodppkljoiaa
