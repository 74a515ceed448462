/-
  Regions that draw their order, by hand: one operation at a time, in the text's order.
-/
import Derived.Test.YtpiookjdeopmgaaDoorBase
import Derived.Deep.RegionHeld3
namespace Go.Proofs.YtpiookjdeopmgaaDoor
open Go.RowKit

def mayTake (ops : Array Oper) (listed : Array Bool) (i : Nat) : Bool := Region.noSelect ops && Region.free .any ops listed i && (Region.ready .any ops listed).contains i

theorem mayTake_parts {ops : Array Oper} {listed : Array Bool} {i : Nat} (h : mayTake ops listed i = true) : Region.noSelect ops = true ∧ Region.free .any ops listed i = true ∧ (Region.ready .any ops listed).contains i = true := by
  unfold mayTake at h
  simp only [Bool.and_eq_true] at h
  exact ⟨h.1.1, h.1.2, h.2⟩

section
variable {P : Program} {ops : Array Oper} {Q : Exit → Act → World → Prop} {S : World → Prop} {fuel : Nat} {listed : Array Bool} {a : Act} {w : World}

/-- the beginning: the region's operations behind a letter -/
theorem wp_region_start {id : Nat} (hm : P.follows .mixedOrders = true) (n : Nat) (hn : ops.size = n) (hS : S w.drew) (h : ∀ ops', Hid (ops' = ops) → S w.drew → wpAnyH P .any ops' Q S n (Array.replicate n false) a w.drew) : (Code.region id ops true).wp P Q a w := by
  refine wp_region_held_drew hm hS (fun hs => ?_)
  rw [hn]
  exact h ops rfl hs

/-- an operation that isn't wanted -/
theorem take_skip (i : Nat) (d : Tmp) (hi : (ops[i]?).map Oper.dst = some (some d)) (ht : mayTake ops listed i = true) (hw : (ops[i]?).map (fun o => Region.wanted o (yielded ops a.tmps)) = some false)
    (hQ : ∀ c a w, Q (.panic c) (a.put (some d) undef) w → Q (.panic c) a w) (hS : S w) (h : wpAnyH P .any ops Q S fuel (listed.setIfInBounds i true) (a.put (some d) undef) w) : wpAnyH P .any ops Q S (fuel + 1) listed a w := by
  obtain ⟨h1, h2, h3⟩ := mayTake_parts ht
  cases ho : ops[i]? with
  | none => rw [ho] at hi; cases hi
  | some oi =>
    rw [ho] at hi hw
    simp only [Option.map_some, Option.some.injEq] at hi hw
    refine wpAnyH_take ho h1 h2 h3 (v := undef) ?_ (Or.inr ⟨hw, rfl⟩) hS ?_
    · rw [hi]; exact hQ
    · rw [hi]; exact h

/-- an operation that yields v in every world that meets S -/
theorem take_do (i : Nat) {oi : Oper} {v : Value} (hi : ops[i]? = some oi) (ht : mayTake ops listed i = true) (hw : Region.wanted oi (yielded ops a.tmps) = true) (hy : ∀ w, S w → (execOp a.eval oi).run P w = .ok (.value v) w)
    (hQ : ∀ c a w, Q (.panic c) (a.put oi.dst v) w → Q (.panic c) a w) (hS : S w) (h : wpAnyH P .any ops Q S fuel (listed.setIfInBounds i true) (a.put oi.dst v) w) : wpAnyH P .any ops Q S (fuel + 1) listed a w := by
  obtain ⟨h1, h2, h3⟩ := mayTake_parts ht
  exact wpAnyH_take hi h1 h2 h3 hQ (Or.inl ⟨hw, hy⟩) hS h

/-- a call that alone may come up -/
theorem take_call (i : Nat) {oi : Oper} (hi : ops[i]? = some oi) (hr : Region.ready .any ops listed = [i]) (hw : Region.wanted oi (yielded ops a.tmps) = true)
    (h : ∀ K' : Act → World → Prop, Shut (∀ a w, S w → (S w → wpAnyH P .any ops Q S fuel (listed.setIfInBounds i true) a w) → K' a w) → Oper.wp P oi a w K' Q) : wpAnyH P .any ops Q S (fuel + 1) listed a w := by
  refine wpAnyH_ready (rs := [i]) hr (by simp) ?_
  refine AllReadyH.cons hi (fun K hK => ?_) AllReadyH.nil
  rw [if_pos hw]
  exact h K hK
end
end Go.Proofs.YtpiookjdeopmgaaDoor
