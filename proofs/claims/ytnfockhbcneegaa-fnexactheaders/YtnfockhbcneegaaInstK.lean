/-
  Lists of records that may share the rows of others; spec.l04CopyList, impl.ownRecords.
-/
import Derived.Test.YtnfockhbcneegaaPushK
namespace Go.Proofs.Ytnfockhbcneegaa
open Go.RowKit

/-- a list whose records' rows are somebody's own, below hi -/
structure RecsIn (W : World) (hi : Nat) (v : Value) (ps : List RP) : Prop where
  row : W.ownsRow 0 50 8 v ps.length (flat encP ps)
  top : ∀ k, v.ownBlock = some k → k < hi
  nears : ∀ p ∈ ps, NearOwn W 0 hi p

theorem RecsOwn.in {W : World} {lo hi : Nat} {v : Value} {ps : List RP} (h : RecsOwn W lo hi v ps) : RecsIn W hi v ps := ⟨owns_baseS h.row (Nat.zero_le _), h.top, fun p hp => (h.nears p hp).wide (Nat.zero_le _) (Nat.le_refl _)⟩

theorem RecsIn.keep {W W' : World} {hi : Nat} {v : Value} {ps : List RP} (h : RecsIn W hi v ps) (hk : ∀ k, k < hi → k < W.heap.size → W'.heap[k]? = W.heap[k]?) : RecsIn W' hi v ps where
  row := owns_keepB h.row (fun k e => hk k (h.top k e) (h.row.lt k e).2)
  top := h.top
  nears := fun p hp => (h.nears p hp).keep (fun k _ h2 h3 => hk k h2 h3)

theorem RecsIn.below {W W' : World} {hi B : Nat} {v : Value} {ps : List RP} (h : RecsIn W hi v ps) (hb : Below B W W') (hB : hi ≤ B) : RecsIn W' hi v ps := h.keep (fun k h2 _ => hb.block k (by omega))

theorem RecsIn.wide {W : World} {hi hi' : Nat} {v : Value} {ps : List RP} (h : RecsIn W hi v ps) (hh : hi ≤ hi') : RecsIn W hi' v ps := ⟨h.row, fun k e => Nat.lt_of_lt_of_le (h.top k e) hh, fun p hp => (h.nears p hp).wide (Nat.le_refl _) hh⟩

theorem RecsIn.at {W : World} {hi : Nat} {v : Value} {ps : List RP} (h : RecsIn W hi v ps) : RecsAt W v ps hi := by
  refine ⟨?_, fun p hp => (h.nears p hp).at⟩
  have h1 := owns_rowAt h.row
  obtain ⟨a, cap, hv, h2⟩ := h1
  refine ⟨a, cap, hv, ?_⟩
  rcases h2 with h0 | ⟨b, off, ha, hb1, hx⟩
  · exact .inl h0
  · exact .inr ⟨b, off, ha, h.top b (by rw [hv, ha]; rfl), hx⟩

theorem true_filter (xs : List RecD) : xs.filter (fun _ => true) = xs := by simp

end Go.Proofs.Ytnfockhbcneegaa
