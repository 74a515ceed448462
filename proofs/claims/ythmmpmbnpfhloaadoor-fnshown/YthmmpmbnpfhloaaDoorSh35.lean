/-
  spec.l13Beyond: its contract.
  slices.SortFunc of a row of offers of the call's own.
  The numbers of routes are ints.
-/
import Derived.Test.YthmmpmbnpfhloaaDoorSh33
import Derived.Test.YthmmpmbnpfhloaaDoorShelfG
import Derived.Test.YthmmpmbnpfhloaaDoorSh34
import Derived.Shelf.SlSortCmp.NoneTotal
namespace Go.Proofs.YthmmpmbnpfhloaaDoor
open Go.RowKit

set_option linter.unusedSimpArgs false

open Classical in
/-- what Beyond tells -/
noncomputable def tolD (xs : List RecD) (al : List Int) (src area : Int) : List RecD := if h : ∃ ds, IsTold xs al src area ds then Classical.choose h else []

theorem IsTold.eq {xs : List RecD} {al : List Int} {src area : Int} {ds : List RecD} (h : IsTold xs al src area ds) : ds = tolD xs al src area := by
  unfold tolD
  rw [dif_pos ⟨ds, h⟩]
  exact h.unique (Classical.choose_spec (⟨ds, h⟩ : ∃ ds, IsTold xs al src area ds))

/-- all that is told by a node, area by area -/
noncomputable def allTold (xs : List RecD) (al : List Int) (src : Int) (bl : List Int) : List RecD := bl.flatMap (fun a => tolD xs al src a)

theorem allTold_step {xs : List RecD} {al bl : List Int} {src a : Int} {k : Nat} (h : bl[k]? = some a) : allTold xs al src (bl.take (k + 1)) = allTold xs al src (bl.take k) ++ tolD xs al src a := by
  obtain ⟨hk, e⟩ := List.getElem?_eq_some_iff.1 h
  unfold allTold
  rw [List.take_succ_eq_append_getElem hk, e, List.flatMap_append]
  simp

def notHis (node : Int) (r : RecD) : Bool := r.kind != 2 || r.owner != node

/-- what a node tells of beyond in the place of what it told -/
noncomputable def beyD (xs : List RecD) (al : List Int) (node : Int) : List RecD := withD (xs.filter (notHis node)) (allTold xs al node al)

theorem RecsOwn.join {W Wa W2 : World} {lo : Nat} {v v' u : Value} {qs bs : List RP} (h : RecsOwn W lo W.heap.size v qs) (hb : Below W.heap.size W Wa) (hlo : lo ≤ W.heap.size) (hu : RecsOwn Wa W.heap.size Wa.heap.size u bs)
    (row : W2.ownsRow lo 81 8 v' (qs ++ bs).length (flat encP (qs ++ bs))) (hg : Wa.grownBy W2 v.ownBlock) : RecsOwn W2 lo W2.heap.size v' (qs ++ bs) where
  row := row
  top := fun k hk => (row.lt k hk).2
  apart := by
    rw [List.pairwise_append]
    refine ⟨h.apart, hu.apart, fun p hp q hq k hk he => ?_⟩
    have h1 := (h.nears p hp).2 k hk
    have h2 := ((hu.nears q hq).1.lt k he).1
    omega
  nears := by
    have rowa := owns_below h.row hb (Nat.le_refl _)
    have key : ∀ q, NearOwn Wa lo Wa.heap.size q → NearOwn W2 lo W2.heap.size q := fun q hq =>
      ⟨owns_keepB hq.1 (fun j hj => hg.block j (hq.2 j hj) (near_row_ne hq rowa j hj)), fun k hk => Nat.lt_of_lt_of_le (hq.2 k hk) hg.size⟩
    intro q hq
    rcases List.mem_append.1 hq with h1 | h1
    · exact key q (((h.nears q h1).keep (W' := Wa) (fun j _ h2 _ => hb.block j h2)).wide (Nat.le_refl _) hb.size)
    · exact key q ((hu.nears q h1).wide hlo (Nat.le_refl _))
end Go.Proofs.YthmmpmbnpfhloaaDoor
namespace Go.Proofs.YthmmpmbnpfhloaaDoor
open Go.RowKit

set_option linter.unusedSimpArgs false

end Go.Proofs.YthmmpmbnpfhloaaDoor
namespace Go.Proofs.YthmmpmbnpfhloaaDoor
open Go.RowKit

theorem i64_small {n : Int} (h0 : -1000000000000000 ≤ n) (h1 : n ≤ 1000000000000000) : i64B n := ⟨by omega, by omega⟩

theorem hop6_wf {l : List Int} (h : Hop6 l) : ∀ x ∈ l, i64B x := fun x hx => by
  have := h x hx
  exact i64_small (by omega) (by omega)

theorem routes_wf {xs : List RecD} {al : List Int} {border : Bool} {src : Int} {l : List RtD} (h : IsRoutes xs al border src l) (hs : storeB xs = true) : ∀ r ∈ l, RtWf r ∧ r.hops.length ≤ 6 := by
  obtain ⟨ds, es, ts, h1, h2, h3, rfl⟩ := h
  have g1 := h1.good (fun to d h => withinS_good h)
  have g2 := h2.good (fun to d h => beyondS_good h)
  have g3 := h3.goodT (fun to d h => thingS_good hs g1 g2 h)
  have hw : ∀ (d : WayD) (k : Int), GoodW d → RtWf (⟨false, d.to, k, d.cost, 0, d.hops⟩ : RtD) ∧ d.hops.length ≤ 6 := fun d k g => by
    have n1 := g.node
    have n2 := g.cost
    exact ⟨⟨i64_small (by show _ ≤ d.to; omega) (by show d.to ≤ _; omega), i64_small (by show _ ≤ d.cost; omega) (by show d.cost ≤ _; omega), i64_small (by show _ ≤ (0 : Int); omega) (by show (0 : Int) ≤ _; omega), hop6_wf g.hop6⟩, g.len⟩
  intro r hr
  rcases List.mem_append.1 hr with h | h
  · rcases List.mem_append.1 h with h | h
    · obtain ⟨d, hd, _, rfl⟩ := nodesR_mem h; exact hw d 1 (g1 d hd)
    · obtain ⟨d, hd, _, rfl⟩ := nodesR_mem h; exact hw d 2 (g2 d hd)
  · obtain ⟨d, hd, rfl⟩ := List.mem_map.1 h
    have g := g3 d hd
    have n1 := g.node
    have n2 := g.rank
    unfold rtOf
    split
    · refine ⟨⟨i64_small (by show _ ≤ d.to; omega) (by show d.to ≤ _; omega), i64_small ?_ ?_, i64_small (by show _ ≤ (0 : Int); omega) (by show (0 : Int) ≤ _; omega), hop6_wf g.hop6⟩, g.len⟩
      · show _ ≤ d.cost - 3000000000000
        rcases n2 with h | ⟨c, k, _, _, _, _, h⟩ <;> omega
      · show d.cost - 3000000000000 ≤ _
        rcases n2 with h | ⟨c, k, _, _, _, _, h⟩ <;> omega
    · refine ⟨⟨i64_small (by show _ ≤ d.to; omega) (by show d.to ≤ _; omega), i64_small ?_ ?_, i64_small ?_ ?_, hop6_wf g.hop6⟩, g.len⟩
      · show _ ≤ (d.cost - 4000000000000) % 1000000
        omega
      · show (d.cost - 4000000000000) % 1000000 ≤ _
        omega
      · show _ ≤ (d.cost - 4000000000000) / 1000000
        rcases n2 with h | ⟨c, k, _, _, _, _, h⟩ <;> omega
      · show (d.cost - 4000000000000) / 1000000 ≤ _
        rcases n2 with h | ⟨c, k, _, _, _, _, h⟩ <;> omega
end Go.Proofs.YthmmpmbnpfhloaaDoor
