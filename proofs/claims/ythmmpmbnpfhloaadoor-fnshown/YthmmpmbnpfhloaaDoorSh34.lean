/-
  impl.orderOfOffers, impl.offerOf: their contracts.
  How much the routes of a right store are.
-/
import Derived.Test.YthmmpmbnpfhloaaDoorSh31
namespace Go.Proofs.YthmmpmbnpfhloaaDoor
open Go.RowKit

set_option linter.unusedSimpArgs false

end Go.Proofs.YthmmpmbnpfhloaaDoor
namespace Go.Proofs.YthmmpmbnpfhloaaDoor
open Go.RowKit

theorem totQD_le {l : List RtD} {n m : Nat} (h : l.length ≤ n) (hm : ∀ r ∈ l, r.hops.length ≤ m) : totQD l ≤ n * (m + 1) := by
  induction l generalizing n with
  | nil => simp [totQD]
  | cons a l ih =>
    rw [totQD_cons]
    simp only [List.length_cons] at h
    obtain ⟨k, rfl⟩ : ∃ k, n = k + 1 := ⟨n - 1, by omega⟩
    have h1 := ih (n := k) (by omega) (fun r hr => hm r (by simp [hr]))
    have h2 := hm a (by simp)
    rw [Nat.add_mul]
    omega

theorem routes_tot {xs : List RecD} {al : List Int} {border : Bool} {src : Int} {l : List RtD} (h : IsRoutes xs al border src l) (hs : storeB xs = true) : totQD l ≤ 147 := by
  obtain ⟨ds, es, ts, h1, h2, h3, rfl⟩ := h
  have g1 := h1.good (fun to d h => withinS_good h)
  have g2 := h2.good (fun to d h => beyondS_good h)
  have g3 := h3.goodT (fun to d h => thingS_good hs g1 g2 h)
  have l1 := asc_tos h1.1 (fun d hd => (g1 d hd).node)
  have l2 := asc_tos h2.1 (fun d hd => (g2 d hd).node)
  have l3 := things_len h3.1 (fun d hd => (g3 d hd).node)
  have n1 : (nodesR 1 src ds).length ≤ ds.length := by unfold nodesR; rw [List.length_map]; exact List.length_filter_le _ _
  have n2 : (nodesR 2 src es).length ≤ es.length := by unfold nodesR; rw [List.length_map]; exact List.length_filter_le _ _
  have := totQD_le (n := 21) (m := 6) (l := nodesR 1 src ds ++ nodesR 2 src es ++ ts.map rtOf) (by simp only [List.length_append, List.length_map]; omega) (fun r hr => by
    rcases List.mem_append.1 hr with h | h
    · rcases List.mem_append.1 h with h | h
      · obtain ⟨d, hd, _, rfl⟩ := nodesR_mem h; exact (g1 d hd).len
      · obtain ⟨d, hd, _, rfl⟩ := nodesR_mem h; exact (g2 d hd).len
    · obtain ⟨d, hd, rfl⟩ := List.mem_map.1 h
      have := (g3 d hd).len
      unfold rtOf
      split <;> exact this)
  omega
end Go.Proofs.YthmmpmbnpfhloaaDoor
