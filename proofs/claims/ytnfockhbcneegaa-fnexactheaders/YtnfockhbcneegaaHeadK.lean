/-
  spec.l09Head, impl.headerOf: a record without what it tells.
-/
import Derived.Test.YtnfockhbcneegaaCopyK
namespace Go.Proofs.Ytnfockhbcneegaa
open Go.RowKit

set_option linter.unusedSimpArgs false

def headD (x : RecD) : RecD := ⟨x.area, x.kind, x.owner, x.key, x.seq, [], if x.kind = 3 then 1 else 0, false⟩

theorem headD_three {x : RecD} (h : x.kind = 3) : headD x = ⟨x.area, x.kind, x.owner, x.key, x.seq, [], 1, false⟩ := by unfold headD; rw [if_pos h]

theorem headD_else {x : RecD} (h : ¬ x.kind = 3) : headD x = ⟨x.area, x.kind, x.owner, x.key, x.seq, [], 0, false⟩ := by unfold headD; rw [if_neg h]

set_option maxRecDepth 100000 in
set_option maxHeartbeats 1000000 in
theorem ihead_any (x : RecD) (a : Option Addr) (n c : Nat) (w : World) :
    Calls Try.prog 25 #[.agg (recC x (.slice a n c))] w fun e w' => e = .returned (.agg (recC (headD x) (.slice none 0 0))) ∧ Below w.heap.size w w' := by
  by_cases h : x.kind = 3
  · rw [headD_three h]
    have hd : (x.kind == 3) = true := by simpa using h
    clear h
    unfold recC
    go_enter Try.func25, Try.ntmps25
    go_wp2
    go_returns
    exact ⟨rfl, below_two _ _⟩
  · rw [headD_else h]
    have hd : (x.kind == 3) = false := by simpa using h
    clear h
    unfold recC
    go_enter Try.func25, Try.ntmps25
    go_wp2
    go_returns
    exact ⟨rfl, below_two _ _⟩

set_option maxRecDepth 100000 in
set_option maxHeartbeats 1000000 in
theorem shead_any (x : RecD) (a : Option Addr) (n c : Nat) (w : World) :
    Calls Try.prog 34 #[.agg (recC x (.slice a n c))] w fun e w' => ∃ v', e = .returned (.agg (recC (headD x) v')) ∧ w'.ownsRow w.heap.size 75 2 v' 0 (flat nrE []) ∧ Below w.heap.size w w' := by
  by_cases h : x.kind = 3
  · rw [headD_three h]
    have hd : (x.kind == 3) = true := by simpa using h
    clear h
    unfold recC
    go_enter Try.func34, Try.ntmps34
    go_wp2
    go_returns
    exact ⟨_, rfl, own_lit05 _ _ _ (by simp) (by simp; omega), below_three _ _ _⟩
  · rw [headD_else h]
    have hd : (x.kind == 3) = false := by simpa using h
    clear h
    unfold recC
    go_enter Try.func34, Try.ntmps34
    go_wp2
    go_returns
    exact ⟨_, rfl, own_lit05 _ _ _ (by simp) (by simp; omega), below_three _ _ _⟩
end Go.Proofs.Ytnfockhbcneegaa
