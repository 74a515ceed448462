/-
  Lists of lines, each with a row of its own.
-/
import Derived.Test.YtnpafmjfhglbhaaRowsK
import Derived.Test.YtnpafmjfhglbhaaMarkG
import Derived.Test.YtnpafmjfhglbhaaLnK
namespace Go.Proofs.Ytnpafmjfhglbhaa
open Go.RowKit

/-- a way, and the value of its row -/
abbrev JP := LnD × Value

def encJ (p : JP) : List Value := [.bool p.1.thing, .int .i64 p.1.to, p.2]

def zeroJD : LnD := ⟨false, 0, []⟩

def zJ : JP := (zeroJD, .slice none 0 0)

theorem encJ_len (p : JP) : (encJ p).length = 3 := rfl

/-- a list to read: its cells, and each record's row, below B -/
def LnsAt (W : World) (v : Value) (ps : List JP) (B : Nat) : Prop := StructsAt encJ 3 W v ps B ∧ ∀ p ∈ ps, HopsAt W p.2 p.1.hops B

theorem LnsAt.shape {W : World} {v : Value} {ps : List JP} {B : Nat} (h : LnsAt W v ps B) : ∃ a cap, v = .slice a ps.length cap := by
  obtain ⟨⟨a, cap, h, _⟩, _⟩ := h
  exact ⟨a, cap, h⟩

theorem LnsAt.later {W W' : World} {v : Value} {ps : List JP} {B C : Nat} (h : LnsAt W v ps B) (hb : Below C W W') (hBC : B ≤ C) : LnsAt W' v ps B :=
  ⟨RowAt.later h.1 hb hBC, fun p hp => RowAt.later (h.2 p hp) hb hBC⟩

theorem LnsAt.more {W : World} {v : Value} {ps : List JP} {B C : Nat} (h : LnsAt W v ps B) (hBC : B ≤ C) : LnsAt W v ps C :=
  ⟨RowAt.more h.1 hBC, fun p hp => RowAt.more (h.2 p hp) hBC⟩

theorem LnsAt.then {W W' : World} {v : Value} {ps : List JP} (h : LnsAt W v ps W.heap.size) (hb : Below W.heap.size W W') : LnsAt W' v ps W'.heap.size := (h.later hb (Nat.le_refl _)).more hb.size

/-- its row is the caller's own, in blocks of lo .. hi -/
def LHopOwn (W : World) (lo hi : Nat) (p : JP) : Prop := W.ownsRow lo 3 1 p.2 p.1.hops.length (flat intE p.1.hops) ∧ ∀ k, p.2.ownBlock = some k → k < hi

def ApartJ (p q : JP) : Prop := ∀ k, p.2.ownBlock = some k → q.2.ownBlock ≠ some k

/-- a list of the caller's own: its row and those of its records, no two in one block, all in blocks of lo .. hi -/
structure LnsOwn (W : World) (lo hi : Nat) (v : Value) (ps : List JP) : Prop where
  row : W.ownsRow lo 51 3 v ps.length (flat encJ ps)
  top : ∀ k, v.ownBlock = some k → k < hi
  nears : ∀ p ∈ ps, LHopOwn W lo hi p
  apart : ps.Pairwise ApartJ

theorem LHopOwn.keep {W W' : World} {lo hi : Nat} {p : JP} (h : LHopOwn W lo hi p) (hk : ∀ k, lo ≤ k → k < hi → k < W.heap.size → W'.heap[k]? = W.heap[k]?) : LHopOwn W' lo hi p :=
  ⟨owns_keepB h.1 (fun k e => hk k (h.1.lt k e).1 (h.2 k e) (h.1.lt k e).2), h.2⟩

theorem LHopOwn.wide {W : World} {lo hi lo' hi' : Nat} {p : JP} (h : LHopOwn W lo hi p) (hl : lo' ≤ lo) (hh : hi ≤ hi') : LHopOwn W lo' hi' p :=
  ⟨owns_baseS h.1 hl, fun k e => Nat.lt_of_lt_of_le (h.2 k e) hh⟩

theorem LHopOwn.at {W : World} {lo hi : Nat} {p : JP} (h : LHopOwn W lo hi p) : HopsAt W p.2 p.1.hops hi := by
  have h1 := owns_rowAt h.1
  obtain ⟨a, cap, hv, h2⟩ := h1
  refine ⟨a, cap, hv, ?_⟩
  rcases h2 with h0 | ⟨b, off, ha, hb1, hx⟩
  · exact .inl h0
  · exact .inr ⟨b, off, ha, h.2 b (by rw [hv, ha]; rfl), hx⟩

theorem LnsOwn.keep {W W' : World} {lo hi : Nat} {v : Value} {ps : List JP} (h : LnsOwn W lo hi v ps) (hk : ∀ k, lo ≤ k → k < hi → k < W.heap.size → W'.heap[k]? = W.heap[k]?) : LnsOwn W' lo hi v ps where
  row := owns_keepB h.row (fun k e => hk k (h.row.lt k e).1 (h.top k e) (h.row.lt k e).2)
  top := h.top
  nears := fun p hp => (h.nears p hp).keep hk
  apart := h.apart

theorem LnsOwn.below {W W' : World} {lo hi B : Nat} {v : Value} {ps : List JP} (h : LnsOwn W lo hi v ps) (hb : Below B W W') (hB : hi ≤ B) : LnsOwn W' lo hi v ps := h.keep (fun k _ h2 _ => hb.block k (by omega))

theorem LnsOwn.wide {W : World} {lo hi lo' hi' : Nat} {v : Value} {ps : List JP} (h : LnsOwn W lo hi v ps) (hl : lo' ≤ lo) (hh : hi ≤ hi') : LnsOwn W lo' hi' v ps where
  row := owns_baseS h.row hl
  top := fun k e => Nat.lt_of_lt_of_le (h.top k e) hh
  nears := fun p hp => (h.nears p hp).wide hl hh
  apart := h.apart

theorem LnsOwn.at {W : World} {lo hi : Nat} {v : Value} {ps : List JP} (h : LnsOwn W lo hi v ps) : LnsAt W v ps hi := by
  refine ⟨?_, fun p hp => (h.nears p hp).at⟩
  have h1 := owns_rowAt h.row
  obtain ⟨a, cap, hv, h2⟩ := h1
  refine ⟨a, cap, hv, ?_⟩
  rcases h2 with h0 | ⟨b, off, ha, hb1, hx⟩
  · exact .inl h0
  · exact .inr ⟨b, off, ha, h.top b (by rw [hv, ha]; rfl), hx⟩

theorem LnsOwn.frame {W W' : World} {lo hi l2 h2 : Nat} {v : Value} {ps : List JP} (h : LnsOwn W lo hi v ps) (hb : Frame l2 h2 W W') (hB : hi ≤ l2 ∨ h2 ≤ lo) : LnsOwn W' lo hi v ps := h.keep (fun k h1 h2 h3 => hb.block k h3 (by omega))

/-- near rows of new records are behind all that was there -/
theorem apartJ_add {W : World} {lo hi : Nat} {ps : List JP} {p : JP} (h : ps.Pairwise ApartJ) (hn : ∀ q ∈ ps, LHopOwn W lo hi q) (hp : ∀ k, p.2.ownBlock = some k → hi ≤ k) : (ps ++ [p]).Pairwise ApartJ := by
  rw [List.pairwise_append]
  refine ⟨h, by simp, ?_⟩
  intro a ha b hb
  have : b = p := by simpa using hb
  subst this
  intro k hk he
  have h1 := (hn a ha).2 k hk
  have h2 := hp k he
  omega

/-- how many numbers a list has -/
def totJ (ps : List JP) : Nat := (ps.map (fun p => 1 + p.1.hops.length)).sum

theorem totJ_cons (p : JP) (ps : List JP) : totJ (p :: ps) = 1 + p.1.hops.length + totJ ps := by simp [totJ]

theorem totJ_append (a b : List JP) : totJ (a ++ b) = totJ a + totJ b := by simp [totJ]

theorem totJ_len (ps : List JP) : ps.length ≤ totJ ps := by
  induction ps with
  | nil => simp [totJ]
  | cons p ps ih => rw [totJ_cons, List.length_cons]; omega

theorem totJ_mem {ps : List JP} {p : JP} (h : p ∈ ps) : p.1.hops.length ≤ totJ ps := by
  induction ps with
  | nil => simp at h
  | cons q ps ih =>
    rw [totJ_cons]
    rcases List.mem_cons.1 h with rfl | h1
    · omega
    · have := ih h1; omega

theorem totJ_map {ps qs : List JP} (h : ps.map (·.1) = qs.map (·.1)) : totJ ps = totJ qs := by
  have e : ∀ l : List JP, totJ l = ((l.map (·.1)).map (fun x => 1 + x.hops.length)).sum := fun l => by simp [totJ, List.map_map, Function.comp_def]
  rw [e, e, h]

theorem totJ_take {ps : List JP} {k : Nat} {p : JP} (h : ps[k]? = some p) : totJ (ps.take (k + 1)) = totJ (ps.take k) + (1 + p.1.hops.length) := by
  obtain ⟨hk, e⟩ := List.getElem?_eq_some_iff.1 h
  rw [List.take_succ_eq_append_getElem hk, totJ_append, e]
  simp [totJ]

theorem mapJ_take {ps : List JP} {k : Nat} {p : JP} (h : ps[k]? = some p) : (ps.take (k + 1)).map (·.1) = (ps.take k).map (·.1) ++ [p.1] := by
  obtain ⟨hk, e⟩ := List.getElem?_eq_some_iff.1 h
  rw [List.take_succ_eq_append_getElem hk, List.map_append, e]
  rfl
theorem LnsAt.cells {W : World} {v : Value} {ps : List JP} {B : Nat} (h : LnsAt W v ps B) (i : Nat) (p : JP) (hp : ps[i]? = some p) :
    ∃ b off cap, v = .slice (some ⟨b, off, none⟩) ps.length cap ∧ b < B ∧ W.cell? ⟨b, off + i * 3, none⟩ = some (.bool p.1.thing) ∧ W.cell? ⟨b, off + i * 3 + 1, none⟩ = some (.int .i64 p.1.to) ∧ W.cell? ⟨b, off + i * 3 + 2, none⟩ = some p.2 ∧ HopsAt W p.2 p.1.hops B := by
  obtain ⟨b, off, cap, hv, hb, hc⟩ := StructsAt.cell h.1 encJ_len i p hp
  exact ⟨b, off, cap, hv, hb, hc 0 _ rfl, hc 1 _ rfl, hc 2 _ rfl, h.2 p (List.mem_of_getElem? hp)⟩

/-- three cells laid at o of block g -/
abbrev putJ (W : World) (g o : Nat) (p : JP) : World := ((W.setCell ⟨g, o, none⟩ (.bool p.1.thing)).setCell ⟨g, o + 1, none⟩ (.int .i64 p.1.to)).setCell ⟨g, o + 2, none⟩ p.2

theorem putJ_grown (W : World) (g o : Nat) (p : JP) : W.grownBy (putJ W g o p) (some g) := grown_trans (grown_trans (grown_set W g _ _) (grown_set _ g _ _)) (grown_set _ g _ _)

theorem putJ_owns {W : World} {base g cap n j : Nat} {xs : List JP} {p : JP} (h : W.ownsRow base 51 3 (.slice (some ⟨g, 0, none⟩) n cap) n (flat encJ xs)) (hj : j < xs.length) :
    (putJ W g (j * 3) p).ownsRow base 51 3 (.slice (some ⟨g, 0, none⟩) n cap) n (flat encJ (xs.set j p)) := by
  have e : (((flat encJ xs).set (j * 3) (.bool p.1.thing)).set (j * 3 + 1) (.int .i64 p.1.to)).set (j * 3 + 2) p.2 = flat encJ (xs.set j p) := flat_set encJ_len xs j p hj
  rw [← e]
  exact (((h.stored (j * 3) _).1.stored (j * 3 + 1) _).1.stored (j * 3 + 2) _).1
end Go.Proofs.Ytnpafmjfhglbhaa
