/-
  What FnRoutes asks of the routes of a node, as mathematics.
  What slices.SortFunc leaves, in general (cut out of OrdQ and SortQ).
  Lines as values; laws.szLine, toLine, eqLine.
  Lists of lines, each with a row of its own.
  laws.szLineS, toLineS, eqLineS: their contracts.
  laws.markLineS, heldLineS: only the list's own memory turns; what was marked is held.
  What the laws of lines want.
  Lines in a map by where they lead to: the map's operations.
  Tables: the place of a line, the hops to a node, and who follows them, as mathematics.
-/
import Derived.Test.YtbknmgobmnjphaaWk24
import Derived.Test.YtbknmgobmnjphaaWk1
import Derived.Shelf.SlSortCmp.WholeK
import Derived.Test.YtbknmgobmnjphaaWk3
import Derived.Handy
import Derived.Test.YtbknmgobmnjphaaWk2
import Derived.Maps.RangeRun
import Derived.Laws.StructEq
import Derived.WideKeyRuns
namespace Go.Proofs.Ytbknmgobmnjphaa
open Go.RowKit

/-- one route ahead of another -/
structure RelR (a b : RtD) : Prop where
  thing : a.thing = true → b.thing = true
  asc : a.kind = b.kind → b.thing = false → a.to < b.to
  once : ¬ (a.thing = b.thing ∧ a.to = b.to)

theorem nodesR_mem {kind src : Int} {ds : List WayD} {r : RtD} (h : r ∈ nodesR kind src ds) : ∃ d ∈ ds, d.to ≠ src ∧ r = ⟨false, d.to, kind, d.cost, 0, d.hops⟩ := by
  unfold nodesR at h
  obtain ⟨d, hd, rfl⟩ := List.mem_map.1 h
  obtain ⟨h1, h2⟩ := List.mem_filter.1 hd
  exact ⟨d, h1, by simpa using h2, rfl⟩

theorem rtOf_thing (d : WayD) : (rtOf d).thing = true ∧ (rtOf d).to = d.to ∧ ((rtOf d).kind = 3 ∨ (rtOf d).kind = 4) := by
  unfold rtOf
  split
  · exact ⟨rfl, rfl, .inl rfl⟩
  · exact ⟨rfl, rfl, .inr rfl⟩

theorem best_find {S : Int → WayD → Prop} {ds : List WayD} (h : IsBest S ds) {d : WayD} (hd : d ∈ ds) : ∃ w, S d.to w := by
  have h1 := h.2 d.to
  rw [findW_of h.1 hd] at h1
  obtain ⟨_, ⟨w, hw, _⟩, _⟩ := h1
  exact ⟨w, hw⟩

theorem within_not_beyond {xs : List RecD} {al : List Int} {border : Bool} {src to : Int} {ds es : List WayD} (hd : IsBest (withinS xs al src) ds) (he : IsBest (beyondS xs al border src) es) {d : WayD} (h : d ∈ ds) (ht : d.to = to) : findW es to = none := by
  obtain ⟨w, hw⟩ := best_find hd h
  have h1 := he.2 to
  cases e : findW es to with
  | none => rfl
  | some b =>
    rw [e] at h1
    obtain ⟨_, ⟨u, hu, _⟩, _⟩ := h1
    subst ht
    exact absurd hw (hu.1 w)

theorem routes_rel {xs : List RecD} {al : List Int} {border : Bool} {src : Int} {ds es ts : List WayD} (hd : IsBest (withinS xs al src) ds) (he : IsBest (beyondS xs al border src) es) (ht : AscW ts) : (nodesR 1 src ds ++ nodesR 2 src es ++ ts.map rtOf).Pairwise RelR := by
  have hn : ∀ (k : Int) (l : List WayD), AscW l → (nodesR k src l).Pairwise RelR := fun k l hl => by
    unfold nodesR
    rw [List.pairwise_map]
    refine (List.Pairwise.sublist List.filter_sublist hl).imp (fun h => ?_)
    exact ⟨fun e => (by cases e), fun _ _ => h, fun e => by have := e.2; simp only at this; omega⟩
  rw [List.pairwise_append, List.pairwise_append]
  refine ⟨⟨hn 1 ds hd.1, hn 2 es he.1, fun a ha b hb => ?_⟩, ?_, fun a ha b hb => ?_⟩
  · obtain ⟨d, h1, _, rfl⟩ := nodesR_mem ha
    obtain ⟨e, h2, _, rfl⟩ := nodesR_mem hb
    refine ⟨fun e => (by cases e), fun e => (by cases e), fun h => ?_⟩
    have h3 := within_not_beyond hd he h1 rfl
    exact findW_none h3 e h2 h.2.symm
  · rw [List.pairwise_map]
    refine ht.imp (fun {a b} h => ?_)
    have ha := rtOf_thing a
    have hb := rtOf_thing b
    refine ⟨fun _ => hb.1, fun _ e => (by rw [hb.1] at e; cases e), fun e => ?_⟩
    have := e.2
    rw [ha.2.1, hb.2.1] at this
    omega
  · obtain ⟨d, _, rfl⟩ := List.mem_map.1 hb
    have hb' := rtOf_thing d
    have ha' : a.thing = false ∧ (a.kind = 1 ∨ a.kind = 2) := by
      rcases List.mem_append.1 ha with h | h
      · obtain ⟨_, _, _, rfl⟩ := nodesR_mem h; exact ⟨rfl, .inl rfl⟩
      · obtain ⟨_, _, _, rfl⟩ := nodesR_mem h; exact ⟨rfl, .inr rfl⟩
    refine ⟨fun _ => hb'.1, fun _ e => (by rw [hb'.1] at e; cases e), fun e => ?_⟩
    rw [ha'.1, hb'.1] at e
    cases e.1

end Go.Proofs.Ytbknmgobmnjphaa
namespace Go.Proofs.Ytbknmgobmnjphaa
open Go.RowKit

set_option linter.unusedSimpArgs false

/-- a world that only grew, in the sort's words -/
theorem grown_of {W W' : World} (hb : Below W.heap.size W W') (hd : W.drawn ≤ W'.drawn) : ∃ q os', W' = Go.Sort.grow (W.drewN q) os' := by
  refine ⟨W'.drawn - W.drawn, W'.heap.extract W.heap.size W'.heap.size, ?_⟩
  have hh : W'.heap = W.heap ++ W'.heap.extract W.heap.size W'.heap.size := by
    apply Array.ext_getElem?
    intro i
    by_cases hi : i < W.heap.size
    · rw [Array.getElem?_append_left hi]
      exact hb.block i hi
    · rw [Array.getElem?_append_right (by omega), Array.getElem?_extract]
      have := hb.size
      by_cases h2 : i < W'.heap.size
      · rw [if_pos (by omega)]
        congr 1
        omega
      · rw [if_neg (by omega), Array.getElem?_eq_none (by omega)]
  obtain ⟨h1, h2, h3, h4, h5⟩ := W'
  have e1 := hb.os
  have e2 := hb.tape
  have e3 := hb.output
  simp only at e1 e2 e3 hh hd
  subst e1 e2 e3
  unfold Go.Sort.grow
  simp only [World.drewN]
  congr 1
  omega

/-- a row told by its cells -/
theorem owns_cells {W : World} {g cap n sz base : Nat} {e : TypeId} {cur : Array Value} {xs : List Value} (hg : W.heap[g]? = some (.cells cur e (0, 0))) (hb : base ≤ g) (hn : n ≤ cap) (hm : cap ≤ maxLen) (hs : cur.size = cap * sz) (hx : xs.length = n * sz) (hc : ∀ j, j < n * sz → W.cell? ⟨g, j, none⟩ = xs[j]?) : W.ownsRow base e sz (.slice (some ⟨g, 0, none⟩) n cap) n xs := by
  refine ⟨hx, .inr ⟨g, cap, cur, rfl, hb, hg, hn, hm, hs, ?_⟩⟩
  apply List.ext_getElem?
  intro j
  rw [List.getElem?_take]
  by_cases hj : j < n * sz
  · rw [if_pos hj, Array.getElem?_toList, ← hc j hj]
    simp [World.cell?, hg]
  · rw [if_neg hj, List.getElem?_eq_none (by omega)]

theorem sortWorld_block {α : Type} [Inhabited α] {enc : α → List Value} {k : Nat} {w : World} {g m : Nat} {dk : Array α} {os : Array Obj} {cur : Array Value} {e : TypeId} (hg : w.heap[g]? = some (.cells cur e (0, 0))) : ∃ cur', (Go.Proofs.sortWorldK enc k w g 0 m dk os).heap[g]? = some (.cells cur' e (0, 0)) ∧ cur'.size = cur.size := by
  have hl := lt_of_heap hg
  refine ⟨Go.Sort.putCells id 0 (Go.Sort.flatK enc k dk) cur, ?_, by simp [Go.Sort.putCells]⟩
  unfold Go.Proofs.sortWorldK Go.Sort.grow Go.Sort.putRowK
  rw [Array.getElem?_append_left (by simpa [Go.Sort.putRow, Go.Sort.mapBlock, Go.Sort.ahead] using hl)]
  simp [Go.Sort.putRow, Go.Sort.mapBlock, Go.Sort.ahead, Array.getElem?_modify, hg, Go.Sort.onCells]

theorem sortWorld_grown {α : Type} [Inhabited α] {enc : α → List Value} {k : Nat} {w : World} {g m : Nat} {dk : Array α} {os : Array Obj} : w.grownBy (Go.Proofs.sortWorldK enc k w g 0 m dk os) (some g) := by
  refine ⟨rfl, rfl, rfl, by unfold Go.Proofs.sortWorldK Go.Sort.grow Go.Sort.putRowK; simp [Go.Sort.putRow, Go.Sort.mapBlock, Go.Sort.ahead], fun j hj hne => ?_⟩
  have hne' : g ≠ j := fun e => hne (by rw [e])
  unfold Go.Proofs.sortWorldK Go.Sort.grow Go.Sort.putRowK
  rw [Array.getElem?_append_left (by simpa [Go.Sort.putRow, Go.Sort.mapBlock, Go.Sort.ahead] using hj)]
  simp [Go.Sort.putRow, Go.Sort.mapBlock, Go.Sort.ahead, Array.getElem?_modify, hne']
end Go.Proofs.Ytbknmgobmnjphaa
namespace Go.Proofs.Ytbknmgobmnjphaa
open Go.RowKit

structure LnD where
  thing : Bool
  to : Int
  hops : List Int
  deriving DecidableEq

def lnC (x : LnD) (v : Value) : Array Value := #[.bool x.thing, .int .i64 x.to, v]

/-- the value v is the way x, whose row lies below B -/
def LnAt (W : World) (v : Value) (x : LnD) (B : Nat) : Prop := ∃ v1, v = .agg (lnC x v1) ∧ HopsAt W v1 x.hops B

theorem LnAt.then {W W' : World} {v : Value} {x : LnD} (h : LnAt W v x W.heap.size) (hb : Below W.heap.size W W') : LnAt W' v x W'.heap.size := by
  obtain ⟨v1, hv, h1⟩ := h
  exact ⟨v1, hv, h1.then hb⟩

end Go.Proofs.Ytbknmgobmnjphaa
namespace Go.Proofs.Ytbknmgobmnjphaa
open Go.RowKit

/-- a way, and the value of its row -/
abbrev JP := LnD × Value

def encJ (p : JP) : List Value := [.bool p.1.thing, .int .i64 p.1.to, p.2]

def zeroJD : LnD := ⟨false, 0, []⟩

theorem encJ_len (p : JP) : (encJ p).length = 3 := rfl

/-- a list to read: its cells, and each record's row, below B -/
def LnsAt (W : World) (v : Value) (ps : List JP) (B : Nat) : Prop := StructsAt encJ 3 W v ps B ∧ ∀ p ∈ ps, HopsAt W p.2 p.1.hops B

theorem LnsAt.shape {W : World} {v : Value} {ps : List JP} {B : Nat} (h : LnsAt W v ps B) : ∃ a cap, v = .slice a ps.length cap := by
  obtain ⟨⟨a, cap, h, _⟩, _⟩ := h
  exact ⟨a, cap, h⟩

theorem LnsAt.later {W W' : World} {v : Value} {ps : List JP} {B C : Nat} (h : LnsAt W v ps B) (hb : Below C W W') (hBC : B ≤ C) : LnsAt W' v ps B :=
  ⟨RowAt.later h.1 hb hBC, fun p hp => RowAt.later (h.2 p hp) hb hBC⟩

theorem LnsAt.more {W : World} {v : Value} {ps : List JP} {B C : Nat} (h : LnsAt W v ps B) (hBC : B ≤ C) : LnsAt W v ps C :=
  ⟨RowAt.more h.1 hBC, fun p hp => RowAt.more (h.2 p hp) hBC⟩

theorem LnsAt.then {W W' : World} {v : Value} {ps : List JP} (h : LnsAt W v ps W.heap.size) (hb : Below W.heap.size W W') : LnsAt W' v ps W'.heap.size := (h.later hb (Nat.le_refl _)).more hb.size

/-- its row is the caller's own, in blocks of lo .. hi -/
def LHopOwn (W : World) (lo hi : Nat) (p : JP) : Prop := W.ownsRow lo 3 1 p.2 p.1.hops.length (flat intE p.1.hops) ∧ ∀ k, p.2.ownBlock = some k → k < hi

def ApartJ (p q : JP) : Prop := ∀ k, p.2.ownBlock = some k → q.2.ownBlock ≠ some k

/-- a list of the caller's own: its row and those of its records, no two in one block, all in blocks of lo .. hi -/
structure LnsOwn (W : World) (lo hi : Nat) (v : Value) (ps : List JP) : Prop where
  row : W.ownsRow lo 67 3 v ps.length (flat encJ ps)
  top : ∀ k, v.ownBlock = some k → k < hi
  nears : ∀ p ∈ ps, LHopOwn W lo hi p
  apart : ps.Pairwise ApartJ

theorem LHopOwn.keep {W W' : World} {lo hi : Nat} {p : JP} (h : LHopOwn W lo hi p) (hk : ∀ k, lo ≤ k → k < hi → k < W.heap.size → W'.heap[k]? = W.heap[k]?) : LHopOwn W' lo hi p :=
  ⟨owns_keepB h.1 (fun k e => hk k (h.1.lt k e).1 (h.2 k e) (h.1.lt k e).2), h.2⟩

theorem LHopOwn.wide {W : World} {lo hi lo' hi' : Nat} {p : JP} (h : LHopOwn W lo hi p) (hl : lo' ≤ lo) (hh : hi ≤ hi') : LHopOwn W lo' hi' p :=
  ⟨owns_baseS h.1 hl, fun k e => Nat.lt_of_lt_of_le (h.2 k e) hh⟩

theorem LHopOwn.at {W : World} {lo hi : Nat} {p : JP} (h : LHopOwn W lo hi p) : HopsAt W p.2 p.1.hops hi := by
  have h1 := owns_rowAt h.1
  obtain ⟨a, cap, hv, h2⟩ := h1
  refine ⟨a, cap, hv, ?_⟩
  rcases h2 with h0 | ⟨b, off, ha, hb1, hx⟩
  · exact .inl h0
  · exact .inr ⟨b, off, ha, h.2 b (by rw [hv, ha]; rfl), hx⟩

theorem LnsOwn.keep {W W' : World} {lo hi : Nat} {v : Value} {ps : List JP} (h : LnsOwn W lo hi v ps) (hk : ∀ k, lo ≤ k → k < hi → k < W.heap.size → W'.heap[k]? = W.heap[k]?) : LnsOwn W' lo hi v ps where
  row := owns_keepB h.row (fun k e => hk k (h.row.lt k e).1 (h.top k e) (h.row.lt k e).2)
  top := h.top
  nears := fun p hp => (h.nears p hp).keep hk
  apart := h.apart

theorem LnsOwn.below {W W' : World} {lo hi B : Nat} {v : Value} {ps : List JP} (h : LnsOwn W lo hi v ps) (hb : Below B W W') (hB : hi ≤ B) : LnsOwn W' lo hi v ps := h.keep (fun k _ h2 _ => hb.block k (by omega))

theorem LnsOwn.wide {W : World} {lo hi lo' hi' : Nat} {v : Value} {ps : List JP} (h : LnsOwn W lo hi v ps) (hl : lo' ≤ lo) (hh : hi ≤ hi') : LnsOwn W lo' hi' v ps where
  row := owns_baseS h.row hl
  top := fun k e => Nat.lt_of_lt_of_le (h.top k e) hh
  nears := fun p hp => (h.nears p hp).wide hl hh
  apart := h.apart

theorem LnsOwn.at {W : World} {lo hi : Nat} {v : Value} {ps : List JP} (h : LnsOwn W lo hi v ps) : LnsAt W v ps hi := by
  refine ⟨?_, fun p hp => (h.nears p hp).at⟩
  have h1 := owns_rowAt h.row
  obtain ⟨a, cap, hv, h2⟩ := h1
  refine ⟨a, cap, hv, ?_⟩
  rcases h2 with h0 | ⟨b, off, ha, hb1, hx⟩
  · exact .inl h0
  · exact .inr ⟨b, off, ha, h.top b (by rw [hv, ha]; rfl), hx⟩

theorem LnsOwn.frame {W W' : World} {lo hi l2 h2 : Nat} {v : Value} {ps : List JP} (h : LnsOwn W lo hi v ps) (hb : Frame l2 h2 W W') (hB : hi ≤ l2 ∨ h2 ≤ lo) : LnsOwn W' lo hi v ps := h.keep (fun k h1 h2 h3 => hb.block k h3 (by omega))

/-- near rows of new records are behind all that was there -/
theorem apartJ_add {W : World} {lo hi : Nat} {ps : List JP} {p : JP} (h : ps.Pairwise ApartJ) (hn : ∀ q ∈ ps, LHopOwn W lo hi q) (hp : ∀ k, p.2.ownBlock = some k → hi ≤ k) : (ps ++ [p]).Pairwise ApartJ := by
  rw [List.pairwise_append]
  refine ⟨h, by simp, ?_⟩
  intro a ha b hb
  have : b = p := by simpa using hb
  subst this
  intro k hk he
  have h1 := (hn a ha).2 k hk
  have h2 := hp k he
  omega

/-- how many numbers a list has -/
def totJ (ps : List JP) : Nat := (ps.map (fun p => 1 + p.1.hops.length)).sum

theorem totJ_cons (p : JP) (ps : List JP) : totJ (p :: ps) = 1 + p.1.hops.length + totJ ps := by simp [totJ]

theorem totJ_len (ps : List JP) : ps.length ≤ totJ ps := by
  induction ps with
  | nil => simp [totJ]
  | cons p ps ih => rw [totJ_cons, List.length_cons]; omega

theorem LnsAt.cells {W : World} {v : Value} {ps : List JP} {B : Nat} (h : LnsAt W v ps B) (i : Nat) (p : JP) (hp : ps[i]? = some p) :
    ∃ b off cap, v = .slice (some ⟨b, off, none⟩) ps.length cap ∧ b < B ∧ W.cell? ⟨b, off + i * 3, none⟩ = some (.bool p.1.thing) ∧ W.cell? ⟨b, off + i * 3 + 1, none⟩ = some (.int .i64 p.1.to) ∧ W.cell? ⟨b, off + i * 3 + 2, none⟩ = some p.2 ∧ HopsAt W p.2 p.1.hops B := by
  obtain ⟨b, off, cap, hv, hb, hc⟩ := StructsAt.cell h.1 encJ_len i p hp
  exact ⟨b, off, cap, hv, hb, hc 0 _ rfl, hc 1 _ rfl, hc 2 _ rfl, h.2 p (List.mem_of_getElem? hp)⟩

end Go.Proofs.Ytbknmgobmnjphaa
namespace Go.Proofs.Ytbknmgobmnjphaa
open Go.RowKit

theorem Try.infoLine : (Try.prog.info? 67).map (fun i => (i.zero, i.size, i.bytes)) = some (some (.agg (lnC zeroJD (.slice none 0 0))), 3, 40) := by kernel_rfl

def fstsJ (ps : List JP) : List LnD := ps.map (·.1)

theorem fstsJ_at {ps : List JP} {i : Nat} {p : JP} (h : ps[i]? = some p) : (fstsJ ps)[i]? = some p.1 := by simp [fstsJ, h]

end Go.Proofs.Ytbknmgobmnjphaa
namespace Go.Proofs.Ytbknmgobmnjphaa
open Go.RowKit

theorem apartJ_snd (ps : List JP) : ps.Pairwise ApartJ ↔ (ps.map (·.2)).Pairwise (fun a b : Value => ∀ k, a.ownBlock = some k → b.ownBlock ≠ some k) := by
  rw [List.pairwise_map]
  exact Iff.rfl

theorem apartJ_at {ps : List JP} (h : ps.Pairwise ApartJ) {i k : Nat} {p q : JP} (hi : ps[i]? = some p) (hk : ps[k]? = some q) (hne : i ≠ k) : ApartJ p q := by
  obtain ⟨h1, e1⟩ := List.getElem?_eq_some_iff.1 hi
  obtain ⟨h2, e2⟩ := List.getElem?_eq_some_iff.1 hk
  rw [List.pairwise_iff_getElem] at h
  rcases Nat.lt_or_ge i k with hl | hl
  · have := h i k h1 h2 hl
    rw [e1, e2] at this
    exact this
  · have := h k i h2 h1 (by omega)
    rw [e1, e2] at this
    exact fun j hj he => this j he hj

theorem setJ_snd {ps : List JP} {k : Nat} {p q : JP} (hk : ps[k]? = some p) (h : q.2 = p.2) : (ps.set k q).map (·.2) = ps.map (·.2) := by
  apply List.ext_getElem?
  intro i
  by_cases e : i = k
  · subst e
    obtain ⟨h1, e1⟩ := List.getElem?_eq_some_iff.1 hk
    rw [List.getElem?_map, List.getElem?_set_self h1, List.getElem?_map, hk]
    simp [h]
  · simp [List.getElem?_set_ne (Ne.symm e)]

/-- one record turned within its list -/
theorem LnsOwn.turn {W W8 : World} {lo hi g n cap k : Nat} {xs : List JP} {p q : JP} (h : LnsOwn W lo hi (.slice (some ⟨g, 0, none⟩) n cap) xs) (hn : xs.length = n) (hk : xs[k]? = some p) (hq : q.2 = p.2)
    (row : W8.ownsRow lo 67 3 (.slice (some ⟨g, 0, none⟩) n cap) n (flat encJ (xs.set k q))) (near : W8.ownsRow lo 3 1 q.2 q.1.hops.length (flat intE q.1.hops))
    (hkeep : ∀ j, j < W.heap.size → j ≠ g → some j ≠ p.2.ownBlock → W8.heap[j]? = W.heap[j]?) : LnsOwn W8 lo hi (.slice (some ⟨g, 0, none⟩) n cap) (xs.set k q) where
  row := by rw [List.length_set, hn]; exact row
  top := h.top
  apart := by rw [apartJ_snd, setJ_snd hk hq, ← apartJ_snd]; exact h.apart
  nears := by
    intro r hr
    obtain ⟨i, hi, e⟩ := List.getElem_of_mem hr
    have hr2 : (xs.set k q)[i]? = some r := by rw [← e]; exact List.getElem?_eq_getElem hi
    by_cases ek : i = k
    · subst ek
      rw [List.getElem?_set_self (by simpa using hi)] at hr2
      cases hr2
      refine ⟨near, ?_⟩
      rw [hq]
      exact (h.nears p (List.mem_of_getElem? hk)).2
    · rw [List.getElem?_set_ne (Ne.symm ek)] at hr2
      have ho := h.nears r (List.mem_of_getElem? hr2)
      refine ⟨owns_keepB ho.1 (fun j hj => ?_), ho.2⟩
      refine hkeep j (ho.1.lt j hj).2 ?_ ?_
      · rintro rfl
        obtain ⟨cur, hh⟩ : ∃ cur, W.heap[j]? = some (.cells cur 67 (0, 0)) := by
          rcases h.row.2 with ⟨h0, _⟩ | ⟨g', cap', cur', hv', _, hh', _⟩
          · cases h0
          · cases hv'; exact ⟨cur', hh'⟩
        rcases ho.1.2 with ⟨h0, _⟩ | ⟨g', cap', cur', hv', _, hh', _⟩
        · rw [h0] at hj; simp [Value.ownBlock] at hj
        · rw [hv'] at hj
          simp [Value.ownBlock] at hj
          subst hj
          rw [hh] at hh'
          simp at hh'
      · intro he
        exact apartJ_at h.apart hr2 hk ek j hj he.symm

end Go.Proofs.Ytbknmgobmnjphaa
namespace Go.Proofs.Ytbknmgobmnjphaa
open Go.RowKit

def totJD (xs : List LnD) : Nat := (xs.map (fun x => 1 + x.hops.length)).sum

theorem totJ_D (ps : List JP) : totJ ps = totJD (fstsJ ps) := by simp [totJ, totJD, fstsJ, List.map_map, Function.comp_def]

theorem totJD_cons (x : LnD) (xs : List LnD) : totJD (x :: xs) = 1 + x.hops.length + totJD xs := by simp [totJD]

theorem totJD_append (a b : List LnD) : totJD (a ++ b) = totJD a + totJD b := by simp [totJD]

end Go.Proofs.Ytbknmgobmnjphaa
namespace Go.Proofs.Ytbknmgobmnjphaa
open Go.RowKit
open Go.ChangeMaps (setBlock)

set_option linter.unusedSimpArgs false

def kV (t : Bool) (z : Int) : Value := .agg #[.bool t, .int .i64 z]

theorem key_equal (w : World) (t t' : Bool) (z z' : Int) : (Op.equal 70 (kV t z) (kV t' z')).run Try.prog w = .ok (t == t' && z == z') w := by
  unfold kV
  show (Op.equalIn 10000 70 _ _).run Try.prog w = _
  go_simp
  by_cases h1 : t = t' <;> by_cases h2 : z = z' <;> simp [h1, h2]

set_option maxRecDepth 100000 in
theorem key_check (w : World) (b : Bool) (t : Bool) (z : Int) : (Instr.checkKey b 10000 70 (kV t z)).run Try.prog w = .ok () w := by
  rfl

/-- the first entry of a key -/
def entAt (ks : List (Bool × Int)) (t : Bool) (z : Int) : Option Nat := ks.findIdx? (fun k => k.1 == t && k.2 == z)

theorem find_run (w : World) (t : Bool) (z : Int) : ∀ (es : List MapEntry) (ks : List (Bool × Int)) (i : Nat), es.map (·.key) = ks.map (fun k => kV k.1 k.2) →
    (Instr.findAsking 70 (kV t z) es i).run Try.prog w = .ok ((entAt ks t z).bind (fun j => es[j]?.map (fun e => (i + j, e.val)))) w
  | [], [], i, _ => by simp [Instr.findAsking, entAt]
  | [], k :: ks, i, h => by simp at h
  | e :: es, [], i, h => by simp at h
  | e :: es, k :: ks, i, h => by
    simp only [List.map_cons, List.cons.injEq] at h
    have ih := find_run w t z es ks (i + 1) h.2
    unfold Instr.findAsking
    rw [Sem.run_bind, h.1, key_equal]
    unfold entAt
    rw [List.findIdx?_cons]
    have hc : (t == k.1 && z == k.2) = (k.1 == t && k.2 == z) := by rw [Bool.eq_iff_iff]; simp; constructor <;> rintro ⟨a, b⟩ <;> exact ⟨a.symm, b.symm⟩
    rw [hc]
    by_cases hk : (k.1 == t && k.2 == z) = true
    · rw [if_pos hk]
      simp [Result.andThen, hk]
    · rw [if_neg hk]
      have hk' : (k.1 == t && k.2 == z) = false := by simpa using hk
      simp only [Result.andThen, hk', Bool.false_eq_true, if_false]
      rw [ih]
      unfold entAt
      cases ks.findIdx? (fun k => k.1 == t && k.2 == z) with
      | none => rfl
      | some j => simp [Nat.add_assoc, Nat.add_comm 1 j]

theorem find_key (w : World) (t : Bool) (z : Int) (es : List MapEntry) (ks : List (Bool × Int)) (h : es.map (·.key) = ks.map (fun k => kV k.1 k.2)) :
    (Instr.findKey 70 (kV t z) es).run Try.prog w = .ok ((entAt ks t z).bind (fun j => es[j]?.map (fun e => (j, e.val)))) w := by
  rw [run_findKey_eq w (by kernel_rfl), find_run w t z es ks 0 h]
  simp

theorem look_key (w : World) (m : Nat) (es : Array MapEntry) (clock : Nat) (ks : List (Bool × Int)) (t : Bool) (z : Int) (hm : w.heap[m]? = some (.map es clock)) (h : es.toList.map (·.key) = ks.map (fun k => kV k.1 k.2)) :
    (Instr.lookup 65 (.map (some m)) (kV t z) false).run Try.prog w = .ok (match (entAt ks t z).bind (fun j => es.toList[j]?.map (fun e => (j, e.val))) with | some p => p.2 | none => .slice none 0 0) w := by
  unfold Instr.lookup
  have hz : (zeroValue 102).run Try.prog w = .ok (.slice none 0 0) w := by kernel_rfl
  simp only [Sem.run_bind, run_underlying Try.underlying65, Result.andThen, MapKept.run_getObj_map hm, Sem.run_pure, key_check, find_key w t z es.toList ks h]
  cases (entAt ks t z).bind (fun j => es.toList[j]?.map (fun e => (j, e.val))) with
  | none => simp [Result.andThen, hz]
  | some p => simp [Result.andThen]

theorem put_key (w : World) (m : Nat) (es : Array MapEntry) (clock : Nat) (ks : List (Bool × Int)) (t : Bool) (z : Int) (v : Value) (hm : w.heap[m]? = some (.map es clock)) (h : es.toList.map (·.key) = ks.map (fun k => kV k.1 k.2)) (hno : entAt ks t z = none) :
    (Instr.mapUpdate 65 (.map (some m)) (kV t z) v).run Try.prog w = .ok () (setBlock w m (.map (es.push ⟨kV t z, v, clock⟩) (clock + 1))) := by
  unfold Instr.mapUpdate
  simp only [Sem.run_bind, run_underlying Try.underlying65, Result.andThen, MapKept.run_getObj_map hm, Sem.run_pure, key_check, find_key w t z es.toList ks h, hno, Option.bind_none]
  simp [setObj, Sem.run, hm, setBlock]
end Go.Proofs.Ytbknmgobmnjphaa
namespace Go.Proofs.Ytbknmgobmnjphaa
open Go.RowKit

def isLn (t : Bool) (z : Int) (x : LnD) : Bool := x.thing == t && x.to == z

/-- the place of the first line to z, -1 without one -/
def idxZ (l : List LnD) (t : Bool) (z : Int) : Int := match l.findIdx? (isLn t z) with
  | some i => (i : Int)
  | none => -1

theorem idxZ_hit {l : List LnD} {t : Bool} {z : Int} {k : Nat} {x : LnD} (hk : l[k]? = some x) (hx : isLn t z x = true) (hno : ∀ y ∈ l.take k, isLn t z y = false) : idxZ l t z = (k : Int) := by
  have e : l.findIdx? (isLn t z) = some k := by
    obtain ⟨h1, e1⟩ := List.getElem?_eq_some_iff.1 hk
    rw [List.findIdx?_eq_some_iff_getElem]
    refine ⟨h1, by rw [e1]; exact hx, fun j hj => ?_⟩
    have hm : l[j] ∈ l.take k := by
      rw [List.mem_take_iff_getElem]
      exact ⟨j, by omega, rfl⟩
    simpa using hno _ hm
  unfold idxZ
  rw [e]

theorem idxZ_none {l : List LnD} {t : Bool} {z : Int} (hno : ∀ y ∈ l, isLn t z y = false) : idxZ l t z = -1 := by
  have e : l.findIdx? (isLn t z) = none := by
    rw [List.findIdx?_eq_none_iff]
    exact hno
  unfold idxZ
  rw [e]

theorem idxZ_cases (l : List LnD) (t : Bool) (z : Int) : idxZ l t z = -1 ∨ ∃ (k : Nat) (x : LnD), idxZ l t z = (k : Int) ∧ l[k]? = some x ∧ isLn t z x = true := by
  unfold idxZ
  cases h : l.findIdx? (isLn t z) with
  | none => exact .inl rfl
  | some i =>
    rw [List.findIdx?_eq_some_iff_getElem] at h
    obtain ⟨h1, h2, _⟩ := h
    exact .inr ⟨i, l[i], rfl, List.getElem?_eq_getElem h1, h2⟩

theorem take_noJ {l : List LnD} {k : Nat} {x : LnD} {t : Bool} {z : Int} (h : l[k]? = some x) (hno : ∀ y ∈ l.take k, isLn t z y = false) (hx : isLn t z x = false) : ∀ y ∈ l.take (k + 1), isLn t z y = false := by
  obtain ⟨hk, e⟩ := List.getElem?_eq_some_iff.1 h
  rw [List.take_succ_eq_append_getElem hk, e]
  intro y hy
  rcases List.mem_append.1 hy with h1 | h1
  · exact hno y h1
  · have : y = x := by simpa using h1
    subst this
    exact hx

/-- the hops of a table to the node z -/
def hopsL (l : List LnD) (z : Int) : List Int := if idxZ l false z < 0 then [] else (l.getD (idxZ l false z).toNat zeroJD).hops

theorem hopsL_none {l : List LnD} {z : Int} (h : idxZ l false z = -1) : hopsL l z = [] := by unfold hopsL; rw [h]; rfl

theorem hopsL_hit {l : List LnD} {z : Int} {k : Nat} {x : LnD} (h : idxZ l false z = (k : Int)) (hk : l[k]? = some x) : hopsL l z = x.hops := by
  unfold hopsL
  rw [h, if_neg (by omega)]
  simp [List.getD, hk]

/-- the hops from a to z -/
def hopsD (D : List (List LnD)) (a z : Int) : List Int := if 1 ≤ a ∧ a ≤ (D.length : Int) then hopsL (D.getD (a - 1).toNat []) z else []

theorem hopsD_off {D : List (List LnD)} {a z : Int} (h : ¬ (1 ≤ a ∧ a ≤ (D.length : Int))) : hopsD D a z = [] := if_neg h

theorem hopsD_on {D : List (List LnD)} {a z : Int} {i : Nat} {l : List LnD} (ha : a - 1 = (i : Int)) (hl : D[i]? = some l) : hopsD D a z = hopsL l z := by
  have hi := (List.getElem?_eq_some_iff.1 hl).1
  unfold hopsD
  rw [if_pos ⟨by omega, by omega⟩]
  have e : (a - 1).toNat = i := by omega
  rw [e]
  simp [List.getD, hl]

def pickD (ps : List Int) (i : Nat) : Int := if i < ps.length then max (ps.getD i 0) 0 else 0

theorem pickD_pos (ps : List Int) (i : Nat) : 0 ≤ pickD ps i := by unfold pickD; split <;> omega

/-- the hop that is picked -/
def hopAt (hs : List Int) (p : Int) : Int := hs.getD (p % (hs.length : Int)).toNat 0

theorem hopAt_get {hs : List Int} {p : Int} (h : hs ≠ []) : ∃ j : Nat, p % (hs.length : Int) = (j : Int) ∧ j < hs.length ∧ hs[j]? = some (hopAt hs p) := by
  have hl : 0 < hs.length := List.length_pos_iff.2 h
  have h1 := Int.emod_nonneg p (b := (hs.length : Int)) (by omega)
  have h2 := Int.emod_lt_of_pos p (b := (hs.length : Int)) (by omega)
  refine ⟨(p % (hs.length : Int)).toNat, by omega, by omega, ?_⟩
  unfold hopAt
  rw [List.getElem?_eq_getElem (by omega)]
  simp [List.getD, List.getElem?_eq_getElem (show (p % (hs.length : Int)).toNat < hs.length by omega)]

/-- who follows the tables, with so many steps left -/
def walkF (D : List (List LnD)) (z : Int) (ps : List Int) : Nat → Int → List Int → Option (List Int)
  | 0, a, way => if a = z then some way else none
  | n + 1, a, way => if a = z then some way else if hopsD D a z = [] then none else walkF D z ps n (hopAt (hopsD D a z) (pickD ps (12 - (n + 1)))) (way ++ [hopAt (hopsD D a z) (pickD ps (12 - (n + 1)))])

def walkO (D : List (List LnD)) (a z : Int) (ps : List Int) : Option (List Int) := walkF D z ps 12 a [a]

def walkD (D : List (List LnD)) (a z : Int) (ps : List Int) : List Int := (walkO D a z ps).getD []

def walkB (D : List (List LnD)) (a z : Int) (ps : List Int) : Bool := (walkO D a z ps).isSome

/-- under way: i steps are done -/
structure AtW (D : List (List LnD)) (z : Int) (ps : List Int) (O : Option (List Int)) (i : Nat) (a : Int) (way : List Int) : Prop where
  i12 : i ≤ 12
  len : way.length = i + 1
  eq : walkF D z ps (12 - i) a way = O

theorem AtW.start (D : List (List LnD)) (a z : Int) (ps : List Int) : AtW D z ps (walkO D a z ps) 0 a [a] := ⟨by omega, rfl, rfl⟩

theorem AtW.there {D : List (List LnD)} {z : Int} {ps : List Int} {O : Option (List Int)} {i : Nat} {way : List Int} (h : AtW D z ps O i z way) : O = some way := by
  rw [← h.eq]
  cases 12 - i <;> simp [walkF]

theorem AtW.over {D : List (List LnD)} {z a : Int} {ps : List Int} {O : Option (List Int)} {way : List Int} (h : AtW D z ps O 12 a way) (ha : a ≠ z) : O = none := by
  rw [← h.eq]
  simp [walkF, ha]

theorem AtW.off {D : List (List LnD)} {z a : Int} {ps : List Int} {O : Option (List Int)} {i : Nat} {way : List Int} (h : AtW D z ps O i a way) (ha : a ≠ z) (hh : hopsD D a z = []) : O = none := by
  rw [← h.eq]
  cases 12 - i <;> simp [walkF, ha, hh]

theorem AtW.step {D : List (List LnD)} {z a : Int} {ps : List Int} {O : Option (List Int)} {i : Nat} {way : List Int} (h : AtW D z ps O i a way) (ha : a ≠ z) (hh : hopsD D a z ≠ []) (hi : i ≠ 12) :
    AtW D z ps O (i + 1) (hopAt (hopsD D a z) (pickD ps i)) (way ++ [hopAt (hopsD D a z) (pickD ps i)]) := by
  have h1 := h.i12
  refine ⟨by omega, by rw [List.length_append, h.len]; rfl, ?_⟩
  rw [← h.eq]
  obtain ⟨n, hn⟩ : ∃ n, 12 - i = n + 1 := ⟨12 - i - 1, by omega⟩
  have e1 : 12 - (i + 1) = n := by omega
  have e2 : 12 - (n + 1) = i := by omega
  rw [hn, e1, walkF, if_neg ha, if_neg hh, e2]

def lenV : Value → Nat
  | .slice _ n _ => n
  | _ => 0

theorem walkF_len (D : List (List LnD)) (z : Int) (ps : List Int) : ∀ (n : Nat) (a : Int) (way way' : List Int), walkF D z ps n a way = some way' → way'.length ≤ way.length + n
  | 0, a, way, way', h => by
    unfold walkF at h
    split at h
    · cases h; omega
    · cases h
  | n + 1, a, way, way', h => by
    unfold walkF at h
    split at h
    · cases h; omega
    · split at h
      · cases h
      · have := walkF_len D z ps n _ _ _ h
        rw [List.length_append] at this
        simp at this
        omega

theorem walkD_len (D : List (List LnD)) (a z : Int) (ps : List Int) : (walkD D a z ps).length ≤ 13 := by
  unfold walkD
  cases h : walkO D a z ps with
  | none => simp
  | some way =>
    have := walkF_len D z ps 12 a [a] way h
    simpa using this
end Go.Proofs.Ytbknmgobmnjphaa
