/-
  Ways as values; laws.szWay, toWay, eqWay.
-/
import Derived.Test.YtpiookjdeopmgaaDoorIntK
import Derived.Handy
namespace Go.Proofs.YtpiookjdeopmgaaDoor
open Go.RowKit

structure WayD where
  to : Int
  cost : Int
  hops : List Int
  deriving DecidableEq

def wayC (x : WayD) (v : Value) : Array Value := #[.int .i64 x.to, .int .i64 x.cost, v]

/-- the value v is the way x, whose row lies below B -/
def WayAt (W : World) (v : Value) (x : WayD) (B : Nat) : Prop := ∃ v1, v = .agg (wayC x v1) ∧ HopsAt W v1 x.hops B

theorem WayAt.then {W W' : World} {v : Value} {x : WayD} (h : WayAt W v x W.heap.size) (hb : Below W.heap.size W W') : WayAt W' v x W'.heap.size := by
  obtain ⟨v1, hv, h1⟩ := h
  exact ⟨v1, hv, h1.then hb⟩

theorem wayAt_of {W : World} {lo : Nat} {x : WayD} {u : Value} (h : W.ownsRow lo 3 1 u x.hops.length (flat intE x.hops)) : WayAt W (.agg (wayC x u)) x W.heap.size := ⟨u, rfl, hops_of h⟩

def szW (q : Int) (n : Nat) : Int := if q - (n : Int) < 0 then -1 else q - (n : Int)

theorem szW_neg {q : Int} {n : Nat} : szW q n < 0 ∨ (0 ≤ szW q n ∧ szW q n = q - (n : Int)) := by
  unfold szW
  split <;> omega

end Go.Proofs.YtpiookjdeopmgaaDoor
