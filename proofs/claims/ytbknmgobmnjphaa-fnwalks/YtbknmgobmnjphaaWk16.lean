/-
  Lists of numbers of the caller's own; laws.toIntS, eqIntS, markIntS, heldIntS over them.
  spec.RoutesWithin: its contract.
-/
import Derived.Test.YtbknmgobmnjphaaWk7
import Derived.Test.YtbknmgobmnjphaaWk12
import Derived.Test.YtbknmgobmnjphaaWk13
import Derived.Test.YtbknmgobmnjphaaWk14
import Derived.Test.YtbknmgobmnjphaaWk15
namespace Go.Proofs.Ytbknmgobmnjphaa
open Go.RowKit

/-- a row of numbers of the caller's own, in blocks of lo .. hi -/
structure IntsOwn (W : World) (lo hi : Nat) (v : Value) (l : List Int) : Prop where
  row : W.ownsRow lo 3 1 v l.length (flat intE l)
  top : ∀ k, v.ownBlock = some k → k < hi

theorem IntsOwn.keep {W W' : World} {lo hi : Nat} {v : Value} {l : List Int} (h : IntsOwn W lo hi v l) (hk : ∀ k, lo ≤ k → k < hi → k < W.heap.size → W'.heap[k]? = W.heap[k]?) : IntsOwn W' lo hi v l :=
  ⟨owns_keepB h.row (fun k e => hk k (h.row.lt k e).1 (h.top k e) (h.row.lt k e).2), h.top⟩

theorem IntsOwn.below {W W' : World} {lo hi B : Nat} {v : Value} {l : List Int} (h : IntsOwn W lo hi v l) (hb : Below B W W') (hB : hi ≤ B) : IntsOwn W' lo hi v l := h.keep (fun k _ h2 _ => hb.block k (by omega))

theorem IntsOwn.frame {W W' : World} {lo hi l2 h2 : Nat} {v : Value} {l : List Int} (h : IntsOwn W lo hi v l) (hb : Frame l2 h2 W W') (hB : hi ≤ l2 ∨ h2 ≤ lo) : IntsOwn W' lo hi v l := h.keep (fun k h1 h2 h3 => hb.block k h3 (by omega))

theorem IntsOwn.wide {W : World} {lo hi lo' hi' : Nat} {v : Value} {l : List Int} (h : IntsOwn W lo hi v l) (hl : lo' ≤ lo) (hh : hi ≤ hi') : IntsOwn W lo' hi' v l := ⟨owns_baseS h.row hl, fun k e => Nat.lt_of_lt_of_le (h.top k e) hh⟩

theorem IntsOwn.at {W : World} {lo hi : Nat} {v : Value} {l : List Int} (h : IntsOwn W lo hi v l) : HopsAt W v l hi := by
  obtain ⟨a, cap, hv, h2⟩ := owns_rowAt h.row
  refine ⟨a, cap, hv, ?_⟩
  rcases h2 with h0 | ⟨b, off, ha, hb1, hx⟩
  · exact .inl h0
  · exact .inr ⟨b, off, ha, h.top b (by rw [hv, ha]; rfl), hx⟩

theorem IntsOwn.of {W : World} {lo : Nat} {v : Value} {l : List Int} (h : W.ownsRow lo 3 1 v l.length (flat intE l)) : IntsOwn W lo W.heap.size v l := ⟨h, fun k e => (h.lt k e).2⟩

end Go.Proofs.Ytbknmgobmnjphaa
namespace Go.Proofs.Ytbknmgobmnjphaa
open Go.RowKit

set_option linter.unusedSimpArgs false

theorem WLs.keep {W W' : World} {lo hi : Nat} {u : Value} {ls : List LP} (h : WLs W lo hi u ls) (hk : ∀ k, lo ≤ k → k < hi → k < W.heap.size → W'.heap[k]? = W.heap[k]?) : WLs W' lo hi u ls :=
  ⟨owns_keepB h.row (fun k e => hk k (h.row.lt k e).1 (h.top k e) (h.row.lt k e).2), h.top, fun p hp => (h.ways p hp).keep hk⟩

/-- the lists of ways of a list of areas -/
def AreaWays (xs : List RecD) (src : Int) (al : List Int) (ls : List LP) : Prop := ls.map (fun p => fstsW p.2) = al.map (fun a => waysD xs a src)

theorem AreaWays.at {xs : List RecD} {src : Int} {al : List Int} {ls : List LP} (h : AreaWays xs src al ls) {k : Nat} {a : Int} (ha : al[k]? = some a) : ∃ p, ls[k]? = some p ∧ fstsW p.2 = waysD xs a src := by
  have h1 := congrArg (fun l => l[k]?) h
  simp only [List.getElem?_map, ha, Option.map_some] at h1
  cases e : ls[k]? with
  | none => rw [e] at h1; cases h1
  | some p => rw [e] at h1; exact ⟨p, rfl, by simpa using h1⟩

theorem AreaWays.len {xs : List RecD} {src : Int} {al : List Int} {ls : List LP} (h : AreaWays xs src al ls) : ls.length = al.length := by
  have := congrArg List.length h
  simpa using this

theorem AreaWays.push {xs : List RecD} {src : Int} {al : List Int} {ls : List LP} {k : Nat} {a : Int} {p : LP} (h : AreaWays xs src (al.take k) ls) (ha : al[k]? = some a) (hp : fstsW p.2 = waysD xs a src) : AreaWays xs src (al.take (k + 1)) (ls ++ [p]) := by
  obtain ⟨hk, e⟩ := List.getElem?_eq_some_iff.1 ha
  unfold AreaWays
  rw [List.take_succ_eq_append_getElem hk, e, List.map_append, List.map_append, h]
  simp [hp]

theorem ways_tot {xs : List RecD} {a src : Int} {ps : List WP} (h : fstsW ps = waysD xs a src) : totW ps ≤ 42 := by
  have hw := waysD_asc xs a src
  refine good_tot ?_ (fun d hd => (hw.2 d (by rw [← h]; exact hd)).1.len)
  have := asc_tos hw.1 (fun d hd => (hw.2 d hd).1.node)
  rw [← h] at this
  simpa [fstsW] using this

theorem wls_lit (W : World) (lo : Nat) (hb : lo ≤ W.heap.size) : WLs (W.alloc (.cells #[] 74)) lo (W.alloc (.cells #[] 74)).heap.size (.slice (some ⟨W.heap.size, 0, none⟩) 0 0) [] := by
  have h : (W.alloc (.cells #[] 74)).ownsRow lo 74 1 (.slice (some ⟨W.heap.size, 0, none⟩) 0 0) 0 (flat encLP []) := World.ownsRow_lit W #[] 0 hb (by unfold maxLen; omega) (by simp)
  exact ⟨h, fun k hk => (h.lt k hk).2, by simp⟩

theorem Try.infoWayS : (Try.prog.info? 74).map (fun i => (i.zero, i.size, i.bytes)) = some (some (.slice none 0 0), 1, 24) := by kernel_rfl

/-- the box of the best way -/
structure BoxSt (V W : World) (z : Nat) (b : WayD) (bv : Value) : Prop where
  box : W.heap[z]? = some (.cells (wayC b bv) 79)
  own : W.ownsRow z 3 1 bv b.hops.length (flat intE b.hops)
  bel : Below z V W
  len : b.hops.length ≤ 6

theorem BoxSt.below {V W W' : World} {z : Nat} {b : WayD} {bv : Value} (h : BoxSt V W z b bv) (hb : Below W.heap.size W W') : BoxSt V W' z b bv :=
  ⟨(hb.block _ (lt_of_heap h.box)).trans h.box, owns_below h.own hb (Nat.le_refl _), h.bel.trans (hb.mono (by have := lt_of_heap h.box; omega)), h.len⟩

/-- another way in the box -/
theorem BoxSt.put {V W : World} {z : Nat} {b : WayD} {bv : Value} (h : BoxSt V W z b bv) (hz : V.heap.size = z) {d : WayD} {u : Value} (hu : W.ownsRow (z + 1) 3 1 u d.hops.length (flat intE d.hops)) (hl : d.hops.length ≤ 6) : BoxSt V (putW3 W z d u) z d u := by
  have hb := h.box
  unfold wayC at hb
  have hg := grownW3 W z d u
  refine ⟨finW3 d u hb, ?_, h.bel.grown hg (by have := h.bel.size; omega) (fun k hk => by simp at hk; omega), hl⟩
  refine owns_baseS (hu.kept hg ?_) (by omega)
  cases hv : u.ownBlock with
  | none => exact .inl rfl
  | some g => exact .inr (fun e => by have := (hu.lt g hv).1; simp at e; omega)

theorem BoxSt.other {V W W' : World} {z g : Nat} {b : WayD} {bv : Value} {cs : Array Value} {fr : Nat × Nat} (h : BoxSt V W z b bv) (hg : W.grownBy W' (some g)) (hgz : z < g) (hbox : W.heap[g]? = some (.cells cs 79 fr)) (hz : V.heap.size = z) : BoxSt V W' z b bv :=
  ⟨(hg.block z (lt_of_heap h.box) (by simp; omega)).trans h.box, owns_keepB h.own (fun j hj => hg.block j (h.own.lt j hj).2 (fun e => own_type_ne2 h.own hbox (by decide) (by rw [hj]; exact e.symm))), h.bel.grown hg (by have := h.bel.size; omega) (fun k hk => by simp at hk; omega), h.len⟩

theorem owns_other {W W' : World} {lo g : Nat} {u : Value} {l : List Int} (h : W.ownsRow lo 3 1 u l.length (flat intE l)) (hg : W.grownBy W' (some g)) (hlt : g < lo) : W'.ownsRow lo 3 1 u l.length (flat intE l) :=
  owns_keepB h (fun j hj => hg.block j (h.lt j hj).2 (fun e => by have := (h.lt j hj).1; simp at e; omega))
end Go.Proofs.Ytbknmgobmnjphaa
