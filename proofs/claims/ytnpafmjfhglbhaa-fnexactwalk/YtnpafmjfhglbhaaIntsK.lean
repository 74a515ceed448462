/-
  Lists of numbers of the caller's own; laws.toIntS, eqIntS, markIntS, heldIntS over them.
-/
import Derived.Test.YtnpafmjfhglbhaaWaysM
namespace Go.Proofs.Ytnpafmjfhglbhaa
open Go.RowKit

/-- a row of numbers of the caller's own, in blocks of lo .. hi -/
structure IntsOwn (W : World) (lo hi : Nat) (v : Value) (l : List Int) : Prop where
  row : W.ownsRow lo 3 1 v l.length (flat intE l)
  top : ∀ k, v.ownBlock = some k → k < hi

theorem IntsOwn.keep {W W' : World} {lo hi : Nat} {v : Value} {l : List Int} (h : IntsOwn W lo hi v l) (hk : ∀ k, lo ≤ k → k < hi → k < W.heap.size → W'.heap[k]? = W.heap[k]?) : IntsOwn W' lo hi v l :=
  ⟨owns_keepB h.row (fun k e => hk k (h.row.lt k e).1 (h.top k e) (h.row.lt k e).2), h.top⟩

theorem IntsOwn.below {W W' : World} {lo hi B : Nat} {v : Value} {l : List Int} (h : IntsOwn W lo hi v l) (hb : Below B W W') (hB : hi ≤ B) : IntsOwn W' lo hi v l := h.keep (fun k _ h2 _ => hb.block k (by omega))

theorem IntsOwn.frame {W W' : World} {lo hi l2 h2 : Nat} {v : Value} {l : List Int} (h : IntsOwn W lo hi v l) (hb : Frame l2 h2 W W') (hB : hi ≤ l2 ∨ h2 ≤ lo) : IntsOwn W' lo hi v l := h.keep (fun k h1 h2 h3 => hb.block k h3 (by omega))

theorem IntsOwn.wide {W : World} {lo hi lo' hi' : Nat} {v : Value} {l : List Int} (h : IntsOwn W lo hi v l) (hl : lo' ≤ lo) (hh : hi ≤ hi') : IntsOwn W lo' hi' v l := ⟨owns_baseS h.row hl, fun k e => Nat.lt_of_lt_of_le (h.top k e) hh⟩

theorem IntsOwn.at {W : World} {lo hi : Nat} {v : Value} {l : List Int} (h : IntsOwn W lo hi v l) : HopsAt W v l hi := by
  obtain ⟨a, cap, hv, h2⟩ := owns_rowAt h.row
  refine ⟨a, cap, hv, ?_⟩
  rcases h2 with h0 | ⟨b, off, ha, hb1, hx⟩
  · exact .inl h0
  · exact .inr ⟨b, off, ha, h.top b (by rw [hv, ha]; rfl), hx⟩

theorem IntsOwn.of {W : World} {lo : Nat} {v : Value} {l : List Int} (h : W.ownsRow lo 3 1 v l.length (flat intE l)) : IntsOwn W lo W.heap.size v l := ⟨h, fun k e => (h.lt k e).2⟩

theorem toInts_own (v : Value) (l : List Int) (w W : World) (h0 : HopsAt w v l w.heap.size) (hb : Below w.heap.size w W) (hn : l.length ≤ 1048576) :
    Calls Try.prog 17 #[v] W fun e w' => ∃ x, e = .returned x ∧ IntsOwn w' W.heap.size w'.heap.size x l ∧ Below W.heap.size W w' := by
  refine (toIntS_any v l W hn (h0.then hb)).mono ?_
  rintro e w' ⟨x, rfl, ho, hb2⟩
  exact ⟨x, rfl, IntsOwn.of ho, hb2⟩

theorem eqInts_own (v1 v2 : Value) (l : List Int) (l1 h1 l2 h2 : Nat) (w : World) (k1 : IntsOwn w l1 h1 v1 l) (k2 : IntsOwn w l2 h2 v2 l) (hn : l.length ≤ 1048576) (g1 : h1 ≤ w.heap.size) (g2 : h2 ≤ w.heap.size) :
    Calls Try.prog 19 #[v1, v2] w fun e w' => e = .returned (.bool true) ∧ Below w.heap.size w w' := by
  have h := eqI_any v1 v2 l l w (HopsAt.ints (RowAt.more k1.at g1)) (HopsAt.ints (RowAt.more k2.at g2)) hn
  rw [decide_eq_true rfl] at h
  exact h

theorem markInts_own (v : Value) (l : List Int) (lo hi : Nat) (q : Int) (w : World) (h : IntsOwn w lo hi v l) (hn : l.length ≤ 1048576) (hq : 0 ≤ q) (hq2 : q ≤ 1000000000) :
    Calls Try.prog 22 #[v, .int .i64 q] w fun e w' => e = .returned (.int .i64 (q + (l.length : Int))) ∧ IntsOwn w' lo hi v (marksI q l.length) ∧ Frame lo hi w w' := by
  refine (markG_any v lo l q w h.row hn hq hq2).mono ?_
  rintro e w' ⟨rfl, ho, hg⟩
  exact ⟨rfl, ⟨by rw [marksI_length]; exact ho, h.top⟩, Frame.grown hg (fun k hk => ⟨(h.row.lt k hk).1, h.top k hk⟩)⟩

theorem heldInts_own (v : Value) (n lo hi : Nat) (q : Int) (w : World) (h : IntsOwn w lo hi v (marksI q n)) (hn : n ≤ 1048576) (hq : 0 ≤ q) (hq2 : q ≤ 1000000000) (g : hi ≤ w.heap.size) :
    Calls Try.prog 23 #[v, .int .i64 q] w fun e w' => e = .returned (.int .i64 (q + (n : Int))) ∧ w = w' :=
  heldG_any v n q w (RowAt.more h.at g) hn hq hq2
end Go.Proofs.Ytnpafmjfhglbhaa
