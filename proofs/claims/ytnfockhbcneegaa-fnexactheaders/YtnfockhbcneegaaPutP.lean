/-
  A record put over one of a list of the caller's own.
-/
import Derived.Test.YtnfockhbcneegaaPushK
namespace Go.Proofs.Ytnfockhbcneegaa
open Go.RowKit

theorem Apart.symm {p q : RP} (h : Apart p q) : Apart q p := fun k hk hp => h k hp hk

theorem nears_kept {W W2 : World} {lo : Nat} {v : Value} {ps : List RP} (h : RecsOwn W lo W.heap.size v ps) (hg : W.grownBy W2 v.ownBlock) {q : RP} (hq : NearOwn W lo W.heap.size q) : NearOwn W2 lo W2.heap.size q :=
  ⟨owns_keepB hq.1 (fun j hj => hg.block j (hq.2 j hj) (near_row_ne hq h.row j hj)), fun k hk => Nat.lt_of_lt_of_le (hq.2 k hk) hg.size⟩

theorem RecsOwn.put {W : World} {lo i g cap n : Nat} {ps : List RP} {r : RP} (h : RecsOwn W lo W.heap.size (.slice (some ⟨g, 0, none⟩) n cap) ps) (hn : n = ps.length) (hr : NearOwn W lo W.heap.size r) (hap : ∀ p ∈ ps, Apart p r) (hi : i < ps.length) : RecsOwn (putP W g (i * 8) r) lo (putP W g (i * 8) r).heap.size (.slice (some ⟨g, 0, none⟩) n cap) (ps.set i r) := by
  subst hn
  have hst := putP_owns (p := r) h.row hi
  have hg : W.grownBy (putP W g (i * 8) r) (Value.slice (some ⟨g, 0, none⟩) ps.length cap).ownBlock := putP_grown W g (i * 8) r
  refine ⟨by simpa using hst, fun k hk => (hst.lt k hk).2, ?_, ?_⟩
  · intro q hq
    refine nears_kept h hg ?_
    rcases List.mem_or_eq_of_mem_set hq with h1 | h1
    · exact h.nears q h1
    · subst h1; exact hr
  · have hp := h.apart
    rw [List.pairwise_iff_getElem] at hp ⊢
    intro a b ha hb hab
    simp only [List.length_set] at ha hb
    rw [List.getElem_set, List.getElem_set]
    by_cases e1 : i = a
    · rw [if_pos e1, if_neg (by omega)]
      exact (hap _ (List.getElem_mem hb)).symm
    · rw [if_neg e1]
      by_cases e2 : i = b
      · rw [if_pos e2]
        exact hap _ (List.getElem_mem ha)
      · rw [if_neg e2]
        exact hp a b ha hb hab

theorem fsts_take (ps : List RP) (i : Nat) : fsts (ps.take i) = (fsts ps).take i := by simp [fsts]
theorem fsts_drop (ps : List RP) (i : Nat) : fsts (ps.drop i) = (fsts ps).drop i := by simp [fsts]
theorem fsts_ins (ps : List RP) (r : RP) (i : Nat) : fsts (ps.take i ++ [r] ++ ps.drop i) = (fsts ps).take i ++ [r.1] ++ (fsts ps).drop i := by simp [fsts]
theorem fsts_set (ps : List RP) (r : RP) (i : Nat) : fsts (ps.set i r) = (fsts ps).set i r.1 := by simp [fsts, List.map_set]

end Go.Proofs.Ytnfockhbcneegaa
