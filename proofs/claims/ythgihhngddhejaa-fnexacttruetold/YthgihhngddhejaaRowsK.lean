/-
  Lists of records, each with a row of its own.
-/
import Derived.Test.YthgihhngddhejaaMarkN
import Derived.Test.YthgihhngddhejaaAppK
namespace Go.Proofs.Ythgihhngddhejaa
open Go.RowKit

/-- a record, and the value of its row -/
abbrev RP := RecD × Value

def encP (p : RP) : List Value := [.int .i64 p.1.area, .int .i64 p.1.kind, .int .i64 p.1.owner, .int .i64 p.1.key, .int .i64 p.1.seq, p.2, .int .i64 p.1.cost, .bool p.1.far]

theorem encP_len (p : RP) : (encP p).length = 8 := rfl

def zeroRD : RecD := ⟨0, 0, 0, 0, 0, [], 0, false⟩

def zP : RP := (zeroRD, .slice none 0 0)

/-- a list to read: its cells, and each record's row, below B -/
def RecsAt (W : World) (v : Value) (ps : List RP) (B : Nat) : Prop := StructsAt encP 8 W v ps B ∧ ∀ p ∈ ps, NearsAt W p.2 p.1.near B

theorem RecsAt.shape {W : World} {v : Value} {ps : List RP} {B : Nat} (h : RecsAt W v ps B) : ∃ a cap, v = .slice a ps.length cap := by
  obtain ⟨⟨a, cap, h, _⟩, _⟩ := h
  exact ⟨a, cap, h⟩

theorem RecsAt.later {W W' : World} {v : Value} {ps : List RP} {B C : Nat} (h : RecsAt W v ps B) (hb : Below C W W') (hBC : B ≤ C) : RecsAt W' v ps B :=
  ⟨RowAt.later h.1 hb hBC, fun p hp => RowAt.later (h.2 p hp) hb hBC⟩

theorem RecsAt.more {W : World} {v : Value} {ps : List RP} {B C : Nat} (h : RecsAt W v ps B) (hBC : B ≤ C) : RecsAt W v ps C :=
  ⟨RowAt.more h.1 hBC, fun p hp => RowAt.more (h.2 p hp) hBC⟩

theorem RecsAt.then {W W' : World} {v : Value} {ps : List RP} (h : RecsAt W v ps W.heap.size) (hb : Below W.heap.size W W') : RecsAt W' v ps W'.heap.size := (h.later hb (Nat.le_refl _)).more hb.size

theorem RecsAt.cells {W : World} {v : Value} {ps : List RP} {B : Nat} (h : RecsAt W v ps B) (i : Nat) (p : RP) (hp : ps[i]? = some p) :
    ∃ b off cap, v = .slice (some ⟨b, off, none⟩) ps.length cap ∧ b < B ∧ W.cell? ⟨b, off + i * 8, none⟩ = some (.int .i64 p.1.area) ∧ W.cell? ⟨b, off + i * 8 + 1, none⟩ = some (.int .i64 p.1.kind) ∧ W.cell? ⟨b, off + i * 8 + 2, none⟩ = some (.int .i64 p.1.owner) ∧ W.cell? ⟨b, off + i * 8 + 3, none⟩ = some (.int .i64 p.1.key) ∧ W.cell? ⟨b, off + i * 8 + 4, none⟩ = some (.int .i64 p.1.seq) ∧ W.cell? ⟨b, off + i * 8 + 5, none⟩ = some p.2 ∧ W.cell? ⟨b, off + i * 8 + 6, none⟩ = some (.int .i64 p.1.cost) ∧ W.cell? ⟨b, off + i * 8 + 7, none⟩ = some (.bool p.1.far) ∧ NearsAt W p.2 p.1.near B := by
  obtain ⟨b, off, cap, hv, hb, hc⟩ := StructsAt.cell h.1 encP_len i p hp
  exact ⟨b, off, cap, hv, hb, hc 0 _ rfl, hc 1 _ rfl, hc 2 _ rfl, hc 3 _ rfl, hc 4 _ rfl, hc 5 _ rfl, hc 6 _ rfl, hc 7 _ rfl, h.2 p (List.mem_of_getElem? hp)⟩

/-- its row is the caller's own, in blocks of lo .. hi -/
def NearOwn (W : World) (lo hi : Nat) (p : RP) : Prop := W.ownsRow lo 41 2 p.2 p.1.near.length (flat nrE p.1.near) ∧ ∀ k, p.2.ownBlock = some k → k < hi

def Apart (p q : RP) : Prop := ∀ k, p.2.ownBlock = some k → q.2.ownBlock ≠ some k

/-- a list of the caller's own: its row and those of its records, no two in one block, all in blocks of lo .. hi -/
structure RecsOwn (W : World) (lo hi : Nat) (v : Value) (ps : List RP) : Prop where
  row : W.ownsRow lo 35 8 v ps.length (flat encP ps)
  top : ∀ k, v.ownBlock = some k → k < hi
  nears : ∀ p ∈ ps, NearOwn W lo hi p
  apart : ps.Pairwise Apart

theorem owns_keepB {W W' : World} {base size : Nat} {e : TypeId} {v : Value} {n : Nat} {xs : List Value} (h : W.ownsRow base e size v n xs) (hk : ∀ k, v.ownBlock = some k → W'.heap[k]? = W.heap[k]?) : W'.ownsRow base e size v n xs := by
  refine ⟨h.1, ?_⟩
  rcases h.2 with h2 | ⟨g, cap, cur, hv, hg, hh, r⟩
  · exact .inl h2
  · exact .inr ⟨g, cap, cur, hv, hg, by rw [hk g (by rw [hv]; rfl)]; exact hh, r⟩

theorem owns_up {W : World} {base b2 size : Nat} {e : TypeId} {v : Value} {n : Nat} {xs : List Value} (h : W.ownsRow base e size v n xs) (hk : ∀ k, v.ownBlock = some k → b2 ≤ k) : W.ownsRow b2 e size v n xs := by
  refine ⟨h.1, ?_⟩
  rcases h.2 with h2 | ⟨g, cap, cur, hv, hg, r⟩
  · exact .inl h2
  · exact .inr ⟨g, cap, cur, hv, hk g (by rw [hv]; rfl), r⟩

theorem NearOwn.keep {W W' : World} {lo hi : Nat} {p : RP} (h : NearOwn W lo hi p) (hk : ∀ k, lo ≤ k → k < hi → k < W.heap.size → W'.heap[k]? = W.heap[k]?) : NearOwn W' lo hi p :=
  ⟨owns_keepB h.1 (fun k e => hk k (h.1.lt k e).1 (h.2 k e) (h.1.lt k e).2), h.2⟩

theorem NearOwn.wide {W : World} {lo hi lo' hi' : Nat} {p : RP} (h : NearOwn W lo hi p) (hl : lo' ≤ lo) (hh : hi ≤ hi') : NearOwn W lo' hi' p :=
  ⟨owns_baseS h.1 hl, fun k e => Nat.lt_of_lt_of_le (h.2 k e) hh⟩

theorem NearOwn.at {W : World} {lo hi : Nat} {p : RP} (h : NearOwn W lo hi p) : NearsAt W p.2 p.1.near hi := by
  have h1 := owns_rowAt h.1
  obtain ⟨a, cap, hv, h2⟩ := h1
  refine ⟨a, cap, hv, ?_⟩
  rcases h2 with h0 | ⟨b, off, ha, hb1, hx⟩
  · exact .inl h0
  · exact .inr ⟨b, off, ha, h.2 b (by rw [hv, ha]; rfl), hx⟩

theorem RecsOwn.keep {W W' : World} {lo hi : Nat} {v : Value} {ps : List RP} (h : RecsOwn W lo hi v ps) (hk : ∀ k, lo ≤ k → k < hi → k < W.heap.size → W'.heap[k]? = W.heap[k]?) : RecsOwn W' lo hi v ps where
  row := owns_keepB h.row (fun k e => hk k (h.row.lt k e).1 (h.top k e) (h.row.lt k e).2)
  top := h.top
  nears := fun p hp => (h.nears p hp).keep hk
  apart := h.apart

theorem RecsOwn.below {W W' : World} {lo hi B : Nat} {v : Value} {ps : List RP} (h : RecsOwn W lo hi v ps) (hb : Below B W W') (hB : hi ≤ B) : RecsOwn W' lo hi v ps := h.keep (fun k _ h2 _ => hb.block k (by omega))

theorem RecsOwn.wide {W : World} {lo hi lo' hi' : Nat} {v : Value} {ps : List RP} (h : RecsOwn W lo hi v ps) (hl : lo' ≤ lo) (hh : hi ≤ hi') : RecsOwn W lo' hi' v ps where
  row := owns_baseS h.row hl
  top := fun k e => Nat.lt_of_lt_of_le (h.top k e) hh
  nears := fun p hp => (h.nears p hp).wide hl hh
  apart := h.apart

theorem RecsOwn.at {W : World} {lo hi : Nat} {v : Value} {ps : List RP} (h : RecsOwn W lo hi v ps) : RecsAt W v ps hi := by
  refine ⟨?_, fun p hp => (h.nears p hp).at⟩
  have h1 := owns_rowAt h.row
  obtain ⟨a, cap, hv, h2⟩ := h1
  refine ⟨a, cap, hv, ?_⟩
  rcases h2 with h0 | ⟨b, off, ha, hb1, hx⟩
  · exact .inl h0
  · exact .inr ⟨b, off, ha, h.top b (by rw [hv, ha]; rfl), hx⟩

/-- what a marking leaves: only blocks of lo .. hi turn -/
structure Frame (lo hi : Nat) (w w' : World) : Prop where
  os : w'.os = w.os
  tape : w'.tape = w.tape
  output : w'.output = w.output
  size : w.heap.size ≤ w'.heap.size
  block : ∀ k, k < w.heap.size → (k < lo ∨ hi ≤ k) → w'.heap[k]? = w.heap[k]?

theorem Frame.refl (lo hi : Nat) (w : World) : Frame lo hi w w := ⟨rfl, rfl, rfl, Nat.le_refl _, fun _ _ _ => rfl⟩

theorem Frame.trans {lo hi : Nat} {a b c : World} (h : Frame lo hi a b) (k : Frame lo hi b c) : Frame lo hi a c :=
  ⟨k.os.trans h.os, k.tape.trans h.tape, k.output.trans h.output, Nat.le_trans h.size k.size, fun i hi hr => (k.block i (Nat.lt_of_lt_of_le hi h.size) hr).trans (h.block i hi hr)⟩

theorem Frame.grown {lo hi : Nat} {a b : World} {row : Option Nat} (g : a.grownBy b row) (hr : ∀ k, row = some k → lo ≤ k ∧ k < hi) : Frame lo hi a b :=
  ⟨g.os, g.tape, g.output, g.size, fun k hk hh => g.block k hk (fun e => by have := hr k e.symm; omega)⟩

theorem Frame.set {lo hi : Nat} (w : World) (p j : Nat) (u : Value) (h1 : lo ≤ p) (h2 : p < hi) : Frame lo hi w (w.setCell ⟨p, j, none⟩ u) := Frame.grown (grown_set w p j u) (fun k e => by simp at e; omega)

theorem Frame.below {lo hi : Nat} {w w' : World} (h : Frame lo hi w w') (hw : lo ≤ w.heap.size) : Below lo w w' := (Below.refl _ _).trans ⟨h.os, h.tape, h.output, h.size, fun k hk => h.block k (by omega) (.inl hk)⟩

theorem RecsOwn.frame {W W' : World} {lo hi l2 h2 : Nat} {v : Value} {ps : List RP} (h : RecsOwn W lo hi v ps) (hb : Frame l2 h2 W W') (hB : hi ≤ l2 ∨ h2 ≤ lo) : RecsOwn W' lo hi v ps := h.keep (fun k h1 h2 h3 => hb.block k h3 (by omega))

/-- eight cells laid at o of block g -/
abbrev putP (W : World) (g o : Nat) (p : RP) : World := (((((((W.setCell ⟨g, o, none⟩ (.int .i64 p.1.area)).setCell ⟨g, o + 1, none⟩ (.int .i64 p.1.kind)).setCell ⟨g, o + 2, none⟩ (.int .i64 p.1.owner)).setCell ⟨g, o + 3, none⟩ (.int .i64 p.1.key)).setCell ⟨g, o + 4, none⟩ (.int .i64 p.1.seq)).setCell ⟨g, o + 5, none⟩ p.2).setCell ⟨g, o + 6, none⟩ (.int .i64 p.1.cost)).setCell ⟨g, o + 7, none⟩ (.bool p.1.far)

theorem putP_grown (W : World) (g o : Nat) (p : RP) : W.grownBy (putP W g o p) (some g) :=
  grown_trans (grown_trans (grown_trans (grown_trans (grown_trans (grown_trans (grown_trans (grown_set W g _ _) (grown_set _ g _ _)) (grown_set _ g _ _)) (grown_set _ g _ _)) (grown_set _ g _ _)) (grown_set _ g _ _)) (grown_set _ g _ _)) (grown_set _ g _ _)

theorem putP_owns {W : World} {base g cap n j : Nat} {xs : List RP} {p : RP} (h : W.ownsRow base 35 8 (.slice (some ⟨g, 0, none⟩) n cap) n (flat encP xs)) (hj : j < xs.length) :
    (putP W g (j * 8) p).ownsRow base 35 8 (.slice (some ⟨g, 0, none⟩) n cap) n (flat encP (xs.set j p)) := by
  have e : (((((((((flat encP xs).set (j * 8) (.int .i64 p.1.area)).set (j * 8 + 1) (.int .i64 p.1.kind)).set (j * 8 + 2) (.int .i64 p.1.owner)).set (j * 8 + 3) (.int .i64 p.1.key)).set (j * 8 + 4) (.int .i64 p.1.seq)).set (j * 8 + 5) p.2).set (j * 8 + 6) (.int .i64 p.1.cost)).set (j * 8 + 7) (.bool p.1.far)) = flat encP (xs.set j p) := flat_set encP_len xs j p hj
  rw [← e]
  exact ((((((((h.stored (j * 8) _).1.stored (j * 8 + 1) _).1.stored (j * 8 + 2) _).1.stored (j * 8 + 3) _).1.stored (j * 8 + 4) _).1.stored (j * 8 + 5) _).1.stored (j * 8 + 6) _).1.stored (j * 8 + 7) _).1

/-- near rows of new records are behind all that was there -/
theorem apart_add {W : World} {lo hi : Nat} {ps : List RP} {p : RP} (h : ps.Pairwise Apart) (hn : ∀ q ∈ ps, NearOwn W lo hi q) (hp : ∀ k, p.2.ownBlock = some k → hi ≤ k) : (ps ++ [p]).Pairwise Apart := by
  rw [List.pairwise_append]
  refine ⟨h, by simp, ?_⟩
  intro a ha b hb
  have : b = p := by simpa using hb
  subst this
  intro k hk he
  have h1 := (hn a ha).2 k hk
  have h2 := hp k he
  omega

/-- how many numbers a list has -/
def tot (ps : List RP) : Nat := (ps.map (fun p => 1 + p.1.near.length)).sum

theorem tot_cons (p : RP) (ps : List RP) : tot (p :: ps) = 1 + p.1.near.length + tot ps := by simp [tot]

theorem tot_append (a b : List RP) : tot (a ++ b) = tot a + tot b := by simp [tot]

theorem tot_len (ps : List RP) : ps.length ≤ tot ps := by
  induction ps with
  | nil => simp [tot]
  | cons p ps ih => rw [tot_cons, List.length_cons]; omega

theorem tot_mem {ps : List RP} {p : RP} (h : p ∈ ps) : p.1.near.length ≤ tot ps := by
  induction ps with
  | nil => simp at h
  | cons q ps ih =>
    rw [tot_cons]
    rcases List.mem_cons.1 h with rfl | h1
    · omega
    · have := ih h1; omega

theorem tot_map {ps qs : List RP} (h : ps.map (·.1) = qs.map (·.1)) : tot ps = tot qs := by
  have e : ∀ l : List RP, tot l = ((l.map (·.1)).map (fun x => 1 + x.near.length)).sum := fun l => by simp [tot, List.map_map, Function.comp_def]
  rw [e, e, h]

theorem tot_take {ps : List RP} {k : Nat} {p : RP} (h : ps[k]? = some p) : tot (ps.take (k + 1)) = tot (ps.take k) + (1 + p.1.near.length) := by
  obtain ⟨hk, e⟩ := List.getElem?_eq_some_iff.1 h
  rw [List.take_succ_eq_append_getElem hk, tot_append, e]
  simp [tot]

theorem map_take {ps : List RP} {k : Nat} {p : RP} (h : ps[k]? = some p) : (ps.take (k + 1)).map (·.1) = (ps.take k).map (·.1) ++ [p.1] := by
  obtain ⟨hk, e⟩ := List.getElem?_eq_some_iff.1 h
  rw [List.take_succ_eq_append_getElem hk, List.map_append, e]
  rfl
end Go.Proofs.Ythgihhngddhejaa
