/-
  Lists of routes, each with a row of its own.
-/
import Derived.Test.YtidoieolejkflaaWaysM
import Derived.Test.YtidoieolejkflaaRtK
namespace Go.Proofs.Ytidoieolejkflaa
open Go.RowKit

/-- a way, and the value of its row -/
abbrev QP := RtD × Value

def encQ (p : QP) : List Value := [.bool p.1.thing, .int .i64 p.1.to, .int .i64 p.1.kind, .int .i64 p.1.cost, .int .i64 p.1.far, p.2]

def zeroQD : RtD := ⟨false, 0, 0, 0, 0, []⟩

def zQ : QP := (zeroQD, .slice none 0 0)

theorem encQ_len (p : QP) : (encQ p).length = 6 := rfl

/-- a list to read: its cells, and each record's row, below B -/
def RtsAt (W : World) (v : Value) (ps : List QP) (B : Nat) : Prop := StructsAt encQ 6 W v ps B ∧ ∀ p ∈ ps, HopsAt W p.2 p.1.hops B

theorem RtsAt.shape {W : World} {v : Value} {ps : List QP} {B : Nat} (h : RtsAt W v ps B) : ∃ a cap, v = .slice a ps.length cap := by
  obtain ⟨⟨a, cap, h, _⟩, _⟩ := h
  exact ⟨a, cap, h⟩

theorem RtsAt.later {W W' : World} {v : Value} {ps : List QP} {B C : Nat} (h : RtsAt W v ps B) (hb : Below C W W') (hBC : B ≤ C) : RtsAt W' v ps B :=
  ⟨RowAt.later h.1 hb hBC, fun p hp => RowAt.later (h.2 p hp) hb hBC⟩

theorem RtsAt.more {W : World} {v : Value} {ps : List QP} {B C : Nat} (h : RtsAt W v ps B) (hBC : B ≤ C) : RtsAt W v ps C :=
  ⟨RowAt.more h.1 hBC, fun p hp => RowAt.more (h.2 p hp) hBC⟩

theorem RtsAt.then {W W' : World} {v : Value} {ps : List QP} (h : RtsAt W v ps W.heap.size) (hb : Below W.heap.size W W') : RtsAt W' v ps W'.heap.size := (h.later hb (Nat.le_refl _)).more hb.size

/-- its row is the caller's own, in blocks of lo .. hi -/
def RHopOwn (W : World) (lo hi : Nat) (p : QP) : Prop := W.ownsRow lo 3 1 p.2 p.1.hops.length (flat intE p.1.hops) ∧ ∀ k, p.2.ownBlock = some k → k < hi

def ApartQ (p q : QP) : Prop := ∀ k, p.2.ownBlock = some k → q.2.ownBlock ≠ some k

/-- a list of the caller's own: its row and those of its records, no two in one block, all in blocks of lo .. hi -/
structure RtsOwn (W : World) (lo hi : Nat) (v : Value) (ps : List QP) : Prop where
  row : W.ownsRow lo 59 6 v ps.length (flat encQ ps)
  top : ∀ k, v.ownBlock = some k → k < hi
  nears : ∀ p ∈ ps, RHopOwn W lo hi p
  apart : ps.Pairwise ApartQ

theorem RHopOwn.keep {W W' : World} {lo hi : Nat} {p : QP} (h : RHopOwn W lo hi p) (hk : ∀ k, lo ≤ k → k < hi → k < W.heap.size → W'.heap[k]? = W.heap[k]?) : RHopOwn W' lo hi p :=
  ⟨owns_keepB h.1 (fun k e => hk k (h.1.lt k e).1 (h.2 k e) (h.1.lt k e).2), h.2⟩

theorem RHopOwn.wide {W : World} {lo hi lo' hi' : Nat} {p : QP} (h : RHopOwn W lo hi p) (hl : lo' ≤ lo) (hh : hi ≤ hi') : RHopOwn W lo' hi' p :=
  ⟨owns_baseS h.1 hl, fun k e => Nat.lt_of_lt_of_le (h.2 k e) hh⟩

theorem RHopOwn.at {W : World} {lo hi : Nat} {p : QP} (h : RHopOwn W lo hi p) : HopsAt W p.2 p.1.hops hi := by
  have h1 := owns_rowAt h.1
  obtain ⟨a, cap, hv, h2⟩ := h1
  refine ⟨a, cap, hv, ?_⟩
  rcases h2 with h0 | ⟨b, off, ha, hb1, hx⟩
  · exact .inl h0
  · exact .inr ⟨b, off, ha, h.2 b (by rw [hv, ha]; rfl), hx⟩

theorem RtsOwn.keep {W W' : World} {lo hi : Nat} {v : Value} {ps : List QP} (h : RtsOwn W lo hi v ps) (hk : ∀ k, lo ≤ k → k < hi → k < W.heap.size → W'.heap[k]? = W.heap[k]?) : RtsOwn W' lo hi v ps where
  row := owns_keepB h.row (fun k e => hk k (h.row.lt k e).1 (h.top k e) (h.row.lt k e).2)
  top := h.top
  nears := fun p hp => (h.nears p hp).keep hk
  apart := h.apart

theorem RtsOwn.below {W W' : World} {lo hi B : Nat} {v : Value} {ps : List QP} (h : RtsOwn W lo hi v ps) (hb : Below B W W') (hB : hi ≤ B) : RtsOwn W' lo hi v ps := h.keep (fun k _ h2 _ => hb.block k (by omega))

theorem RtsOwn.wide {W : World} {lo hi lo' hi' : Nat} {v : Value} {ps : List QP} (h : RtsOwn W lo hi v ps) (hl : lo' ≤ lo) (hh : hi ≤ hi') : RtsOwn W lo' hi' v ps where
  row := owns_baseS h.row hl
  top := fun k e => Nat.lt_of_lt_of_le (h.top k e) hh
  nears := fun p hp => (h.nears p hp).wide hl hh
  apart := h.apart

theorem RtsOwn.at {W : World} {lo hi : Nat} {v : Value} {ps : List QP} (h : RtsOwn W lo hi v ps) : RtsAt W v ps hi := by
  refine ⟨?_, fun p hp => (h.nears p hp).at⟩
  have h1 := owns_rowAt h.row
  obtain ⟨a, cap, hv, h2⟩ := h1
  refine ⟨a, cap, hv, ?_⟩
  rcases h2 with h0 | ⟨b, off, ha, hb1, hx⟩
  · exact .inl h0
  · exact .inr ⟨b, off, ha, h.top b (by rw [hv, ha]; rfl), hx⟩

theorem RtsOwn.frame {W W' : World} {lo hi l2 h2 : Nat} {v : Value} {ps : List QP} (h : RtsOwn W lo hi v ps) (hb : Frame l2 h2 W W') (hB : hi ≤ l2 ∨ h2 ≤ lo) : RtsOwn W' lo hi v ps := h.keep (fun k h1 h2 h3 => hb.block k h3 (by omega))

/-- near rows of new records are behind all that was there -/
theorem apartQ_add {W : World} {lo hi : Nat} {ps : List QP} {p : QP} (h : ps.Pairwise ApartQ) (hn : ∀ q ∈ ps, RHopOwn W lo hi q) (hp : ∀ k, p.2.ownBlock = some k → hi ≤ k) : (ps ++ [p]).Pairwise ApartQ := by
  rw [List.pairwise_append]
  refine ⟨h, by simp, ?_⟩
  intro a ha b hb
  have : b = p := by simpa using hb
  subst this
  intro k hk he
  have h1 := (hn a ha).2 k hk
  have h2 := hp k he
  omega

/-- how many numbers a list has -/
def totQ (ps : List QP) : Nat := (ps.map (fun p => 1 + p.1.hops.length)).sum

theorem totQ_cons (p : QP) (ps : List QP) : totQ (p :: ps) = 1 + p.1.hops.length + totQ ps := by simp [totQ]

theorem totQ_append (a b : List QP) : totQ (a ++ b) = totQ a + totQ b := by simp [totQ]

theorem totQ_len (ps : List QP) : ps.length ≤ totQ ps := by
  induction ps with
  | nil => simp [totQ]
  | cons p ps ih => rw [totQ_cons, List.length_cons]; omega

theorem totQ_mem {ps : List QP} {p : QP} (h : p ∈ ps) : p.1.hops.length ≤ totQ ps := by
  induction ps with
  | nil => simp at h
  | cons q ps ih =>
    rw [totQ_cons]
    rcases List.mem_cons.1 h with rfl | h1
    · omega
    · have := ih h1; omega

theorem totQ_map {ps qs : List QP} (h : ps.map (·.1) = qs.map (·.1)) : totQ ps = totQ qs := by
  have e : ∀ l : List QP, totQ l = ((l.map (·.1)).map (fun x => 1 + x.hops.length)).sum := fun l => by simp [totQ, List.map_map, Function.comp_def]
  rw [e, e, h]

theorem totQ_take {ps : List QP} {k : Nat} {p : QP} (h : ps[k]? = some p) : totQ (ps.take (k + 1)) = totQ (ps.take k) + (1 + p.1.hops.length) := by
  obtain ⟨hk, e⟩ := List.getElem?_eq_some_iff.1 h
  rw [List.take_succ_eq_append_getElem hk, totQ_append, e]
  simp [totQ]

theorem mapQ_take {ps : List QP} {k : Nat} {p : QP} (h : ps[k]? = some p) : (ps.take (k + 1)).map (·.1) = (ps.take k).map (·.1) ++ [p.1] := by
  obtain ⟨hk, e⟩ := List.getElem?_eq_some_iff.1 h
  rw [List.take_succ_eq_append_getElem hk, List.map_append, e]
  rfl
theorem RtsAt.cells {W : World} {v : Value} {ps : List QP} {B : Nat} (h : RtsAt W v ps B) (i : Nat) (p : QP) (hp : ps[i]? = some p) :
    ∃ b off cap, v = .slice (some ⟨b, off, none⟩) ps.length cap ∧ b < B ∧ W.cell? ⟨b, off + i * 6, none⟩ = some (.bool p.1.thing) ∧ W.cell? ⟨b, off + i * 6 + 1, none⟩ = some (.int .i64 p.1.to) ∧ W.cell? ⟨b, off + i * 6 + 2, none⟩ = some (.int .i64 p.1.kind) ∧ W.cell? ⟨b, off + i * 6 + 3, none⟩ = some (.int .i64 p.1.cost) ∧ W.cell? ⟨b, off + i * 6 + 4, none⟩ = some (.int .i64 p.1.far) ∧ W.cell? ⟨b, off + i * 6 + 5, none⟩ = some p.2 ∧ HopsAt W p.2 p.1.hops B := by
  obtain ⟨b, off, cap, hv, hb, hc⟩ := StructsAt.cell h.1 encQ_len i p hp
  exact ⟨b, off, cap, hv, hb, hc 0 _ rfl, hc 1 _ rfl, hc 2 _ rfl, hc 3 _ rfl, hc 4 _ rfl, hc 5 _ rfl, h.2 p (List.mem_of_getElem? hp)⟩

/-- six cells laid at o of block g -/
abbrev putQ (W : World) (g o : Nat) (p : QP) : World := (((((W.setCell ⟨g, o, none⟩ (.bool p.1.thing)).setCell ⟨g, o + 1, none⟩ (.int .i64 p.1.to)).setCell ⟨g, o + 2, none⟩ (.int .i64 p.1.kind)).setCell ⟨g, o + 3, none⟩ (.int .i64 p.1.cost)).setCell ⟨g, o + 4, none⟩ (.int .i64 p.1.far)).setCell ⟨g, o + 5, none⟩ p.2

theorem putQ_grown (W : World) (g o : Nat) (p : QP) : W.grownBy (putQ W g o p) (some g) := grown_trans (grown_trans (grown_trans (grown_trans (grown_trans (grown_set W g _ _) (grown_set _ g _ _)) (grown_set _ g _ _)) (grown_set _ g _ _)) (grown_set _ g _ _)) (grown_set _ g _ _)

theorem putQ_owns {W : World} {base g cap n j : Nat} {xs : List QP} {p : QP} (h : W.ownsRow base 59 6 (.slice (some ⟨g, 0, none⟩) n cap) n (flat encQ xs)) (hj : j < xs.length) :
    (putQ W g (j * 6) p).ownsRow base 59 6 (.slice (some ⟨g, 0, none⟩) n cap) n (flat encQ (xs.set j p)) := by
  have e : (((((((flat encQ xs).set (j * 6) (.bool p.1.thing)).set (j * 6 + 1) (.int .i64 p.1.to)).set (j * 6 + 2) (.int .i64 p.1.kind)).set (j * 6 + 3) (.int .i64 p.1.cost)).set (j * 6 + 4) (.int .i64 p.1.far)).set (j * 6 + 5) (p.2)) = flat encQ (xs.set j p) := flat_set encQ_len xs j p hj
  rw [← e]
  exact ((((((h.stored (j * 6) _).1.stored (j * 6 + 1) _).1.stored (j * 6 + 2) _).1.stored (j * 6 + 3) _).1.stored (j * 6 + 4) _).1.stored (j * 6 + 5) _).1
end Go.Proofs.Ytidoieolejkflaa
