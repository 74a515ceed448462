/-
  What is within several areas: the sets of ways; lists under way.
  What is beyond: the sets of ways that records tell of.
  spec.RoutesWithin: its contract.
-/
import Derived.Test.YthmmpmbnpfhloaaDoorSh26
import Derived.Test.YthmmpmbnpfhloaaDoorSh25
namespace Go.Proofs.YthmmpmbnpfhloaaDoor
open Go.RowKit

/-- a way to a node within one of the areas -/
def withinS (xs : List RecD) (al : List Int) (src : Int) (to : Int) (w : WayD) : Prop := w.to = to ∧ ∃ a ∈ al, w ∈ waysD xs a src

theorem withinS_good {xs : List RecD} {al : List Int} {src to : Int} {w : WayD} (h : withinS xs al src to w) : GoodW w ∧ w.to = to := by
  obtain ⟨h1, a, _, h2⟩ := h
  exact ⟨((waysD_asc xs a src).2 w h2).1, h1⟩

/-- only areas have ways -/
theorem waysD_area {xs : List RecD} {a src : Int} {w : WayD} (h : w ∈ waysD xs a src) : storeB xs = true ∧ 0 ≤ a ∧ a < 3 := by
  by_cases he : ∃ ds, IsWays xs a src ds
  · obtain ⟨ds, hd⟩ := he
    rw [← hd.eq] at h
    unfold IsWays at hd
    split at hd
    · rename_i e
      simp only [Bool.and_eq_true] at e
      obtain ⟨⟨e1, _⟩, e3⟩ := e
      refine ⟨e1, ?_⟩
      unfold nodeB findB at e3
      rcases atZ_cases xs (nodeR a src) with hz | ⟨j, y, hz, hy, hs⟩
      · rw [hz] at e3; simp at e3
      · have hm : y ∈ xs := List.mem_of_getElem? hy
        unfold storeB at e1
        simp only [Bool.and_eq_true] at e1
        have hok := allOk_mem e1.1.2 hm
        simp only [sameKeyB, nodeR, Bool.and_eq_true, beq_iff_eq] at hs
        obtain ⟨⟨⟨s1, s2⟩, _⟩, _⟩ := hs
        unfold recOkB at hok
        rw [if_pos s2] at hok
        simp only [Bool.and_eq_true, inB, decide_eq_true_eq] at hok
        omega
    · rw [hd] at h; cases h
  · unfold waysD at h
    rw [dif_neg he] at h
    cases h

/-- one area more -/
theorem withinS_step {xs : List RecD} {al : List Int} {src a : Int} {k : Nat} (h : al[k]? = some a) (to : Int) (w : WayD) : withinS xs (al.take (k + 1)) src to w ↔ withinS xs (al.take k) src to w ∨ (w.to = to ∧ w ∈ waysD xs a src) := by
  obtain ⟨hk, e⟩ := List.getElem?_eq_some_iff.1 h
  unfold withinS
  rw [List.take_succ_eq_append_getElem hk, e]
  constructor
  · rintro ⟨h1, b, h2, h3⟩
    rcases List.mem_append.1 h2 with h4 | h4
    · exact .inl ⟨h1, b, h4, h3⟩
    · have : b = a := by simpa using h4
      subst this
      exact .inr ⟨h1, h3⟩
  · rintro (⟨h1, b, h2, h3⟩ | ⟨h1, h3⟩)
    · exact ⟨h1, b, List.mem_append.2 (.inl h2), h3⟩
    · exact ⟨h1, a, List.mem_append.2 (.inr (by simp)), h3⟩

/-- no ways yet -/
theorem isBest_none {S : Int → WayD → Prop} (h : ∀ to w, ¬ S to w) : IsBest S [] := ⟨by simp [AscW], fun to => h to⟩

/-- the best way to node t, put at the end of those to the nodes below t -/
theorem IsBest.push {S : Int → WayD → Prop} {ds : List WayD} {t : Int} {b : WayD} (h : IsBest (fun to w => to < t ∧ S to w) ds) (hb : BestOf t (S t) (some b)) : IsBest (fun to w => to < t + 1 ∧ S to w) (ds ++ [b]) := by
  have hlt : ∀ w ∈ ds, w.to < t := by
    intro w hw
    have h1 := h.2 w.to
    rw [findW_of h.1 hw] at h1
    obtain ⟨_, ⟨u, hu, _⟩, _⟩ := h1
    exact hu.1
  have hbt : b.to = t := hb.1
  have hasc : AscW (ds ++ [b]) := by
    unfold AscW
    rw [List.pairwise_append]
    refine ⟨h.1, by simp, fun x hx y hy => ?_⟩
    have : y = b := by simpa using hy
    subst this
    rw [hbt]
    exact hlt x hx
  refine ⟨hasc, fun to => ?_⟩
  by_cases e : to = t
  · subst e
    have hf : findW (ds ++ [b]) b.to = some b := findW_of hasc (by simp)
    rw [hbt] at hf
    rw [hf]
    refine hb.congr (fun w => ⟨fun hw => ⟨by omega, hw⟩, fun hw => hw.2⟩)
  · have hf : findW (ds ++ [b]) to = findW ds to := by
      unfold findW
      rw [List.find?_append]
      cases e2 : ds.find? (fun x => x.to == to) with
      | some w => rfl
      | none =>
        simp only [Option.none_or, List.find?_cons, List.find?_nil]
        have : (b.to == to) = false := by rw [hbt]; simpa using fun h => e h.symm
        rw [this]
    rw [hf]
    refine (h.2 to).congr (fun w => ⟨fun hw => ⟨by omega, hw.2⟩, fun hw => ⟨by have := hw.1; omega, hw.2⟩⟩)

theorem IsBest.skip {S : Int → WayD → Prop} {ds : List WayD} {t : Int} (h : IsBest (fun to w => to < t ∧ S to w) ds) (hb : BestOf t (S t) none) : IsBest (fun to w => to < t + 1 ∧ S to w) ds := by
  refine h.congr (fun to w => ⟨fun hw => ⟨by omega, hw.2⟩, fun hw => ⟨?_, hw.2⟩⟩)
  have h1 := hw.1
  by_cases e : to = t
  · subst e; exact absurd hw.2 (hb w)
  · omega

/-- what wayTo tells of such a list -/
theorem wayTo_find (ds : List WayD) (to : Int) : (wayToB ds to = true ∧ findW ds to = some (wayToD ds to)) ∨ (wayToB ds to = false ∧ findW ds to = none) := by
  unfold wayToB wayToD findW
  cases e : ds.find? (fun x => x.to == to) with
  | none => exact .inr ⟨rfl, rfl⟩
  | some w => exact .inl ⟨rfl, rfl⟩

/-- one area more, one node: what is found there -/
theorem bestOf_area {tog : WayD → WayD → WayD} (ht : TogOk tog) {xs : List RecD} {al : List Int} {src a t : Int} {k : Nat} {o : Option WayD} (h : al[k]? = some a) (hb : BestOf t (withinS xs (al.take k) src t) o) :
    BestOf t (withinS xs (al.take (k + 1)) src t) (moreW tog o (findW (waysD xs a src) t)) := by
  have hw := waysD_asc xs a src
  cases e : findW (waysD xs a src) t with
  | none =>
    refine BestOf.congr hb (fun w => ?_)
    rw [withinS_step h]
    constructor
    · exact .inl
    · rintro (h1 | ⟨h1, h2⟩)
      · exact h1
      · exact absurd h1 (findW_none e w h2)
  | some r =>
    have hr := findW_some e
    have hg := (hw.2 r hr.1).1
    refine (hb.add ht (fun w hw => (withinS_good hw).1.hop6) hr.2 hg.asc hg.hop6).congr (fun w => ?_)
    rw [withinS_step h]
    constructor
    · rintro (h1 | h1)
      · exact .inl h1
      · subst h1; exact .inr ⟨hr.2, hr.1⟩
    · rintro (h1 | ⟨h1, h2⟩)
      · exact .inl h1
      · exact .inr (ascW_same hw.1 h2 hr.1 (by rw [h1, hr.2]))

/-- a row that lies in none of the blocks lo .. hi -/
def Off (x : Value) (lo hi : Nat) : Prop := ∀ b, x.ownBlock = some b → b < lo ∨ hi ≤ b

theorem Off.kept {x : Value} {lo hi : Nat} (h : Off x lo hi) {W W' : World} (hg : W.grownBy W' x.ownBlock) : ∀ k, lo ≤ k → k < hi → k < W.heap.size → W'.heap[k]? = W.heap[k]? :=
  fun k h1 h2 h3 => hg.block k h3 (fun e => by have := h k e.symm; omega)

theorem Off.next {x x' : Value} {lo hi B : Nat} (h : Off x lo hi) (hn : ∀ b, x'.ownBlock = some b → x.ownBlock = some b ∨ B ≤ b) (hB : hi ≤ B) : Off x' lo hi := fun b hb => by
  rcases hn b hb with h1 | h1
  · exact h b h1
  · omega
end Go.Proofs.YthmmpmbnpfhloaaDoor
namespace Go.Proofs.YthmmpmbnpfhloaaDoor
open Go.RowKit

/-- what a record of an area tells of beyond -/
def tellsOf (xs : List RecD) (area src : Int) (r : RecD) (d : WayD) : Prop :=
  r.kind = 2 ∧ r.area = area ∧ r.owner ≠ src ∧ ∃ v, findW (waysD xs area src) r.owner = some v ∧ v.cost + r.cost < 60000 ∧ d = ⟨r.key, v.cost + r.cost, v.hops⟩

/-- a way beyond an area to a node, by the records rs -/
def outS (xs rs : List RecD) (area src to : Int) (d : WayD) : Prop := d.to = to ∧ ∃ r ∈ rs, tellsOf xs area src r d

theorem rec_beyond {xs : List RecD} {r : RecD} (hs : storeB xs = true) (hr : r ∈ xs) (hk : r.kind = 2) : (1 ≤ r.key ∧ r.key ≤ 6) ∧ (0 ≤ r.cost ∧ r.cost ≤ 60000) := by
  unfold storeB at hs
  simp only [Bool.and_eq_true] at hs
  have hok := allOk_mem hs.1.2 hr
  unfold recOkB at hok
  rw [if_neg (by omega), if_pos hk] at hok
  simp only [Bool.and_eq_true, inB, decide_eq_true_eq] at hok
  omega

theorem tellsOf_good {xs : List RecD} {area src : Int} {r : RecD} {d : WayD} (hr : r ∈ xs) (h : tellsOf xs area src r d) : GoodW d := by
  obtain ⟨h1, _, _, v, h4, h5, rfl⟩ := h
  have hm := (findW_some h4).1
  have hv := ((waysD_asc xs area src).2 v hm).1
  have hb := rec_beyond (waysD_area hm).1 hr h1
  exact ⟨hb.1, ⟨by show 0 ≤ v.cost + r.cost; have := hv.cost; omega, by show v.cost + r.cost ≤ 60000; omega⟩, hv.asc, hv.hop6⟩

theorem outS_good {xs rs : List RecD} {area src to : Int} {d : WayD} (hs : ∀ r ∈ rs, r ∈ xs) (h : outS xs rs area src to d) : GoodW d ∧ d.to = to := by
  obtain ⟨h1, r, hr, h2⟩ := h
  exact ⟨tellsOf_good (hs r hr) h2, h1⟩

/-- one record more -/
theorem outS_step {xs rs : List RecD} {area src to : Int} {k : Nat} {r : RecD} (h : rs[k]? = some r) (d : WayD) : outS xs (rs.take (k + 1)) area src to d ↔ outS xs (rs.take k) area src to d ∨ (d.to = to ∧ tellsOf xs area src r d) := by
  obtain ⟨hk, e⟩ := List.getElem?_eq_some_iff.1 h
  unfold outS
  rw [List.take_succ_eq_append_getElem hk, e]
  constructor
  · rintro ⟨h1, x, h2, h3⟩
    rcases List.mem_append.1 h2 with h4 | h4
    · exact .inl ⟨h1, x, h4, h3⟩
    · have : x = r := by simpa using h4
      subst this
      exact .inr ⟨h1, h3⟩
  · rintro (⟨h1, x, h2, h3⟩ | ⟨h1, h3⟩)
    · exact ⟨h1, x, List.mem_append.2 (.inl h2), h3⟩
    · exact ⟨h1, r, List.mem_append.2 (.inr (by simp)), h3⟩

/-- the areas by which it goes on -/
def byArea (border : Bool) (a : Int) : Prop := border = true → a = 0

/-- a way beyond to a node that is not within -/
def beyondS (xs : List RecD) (al : List Int) (border : Bool) (src to : Int) (d : WayD) : Prop := (∀ x, ¬ withinS xs al src to x) ∧ ∃ a ∈ al, byArea border a ∧ outS xs xs a src to d

theorem beyondS_good {xs : List RecD} {al : List Int} {border : Bool} {src to : Int} {d : WayD} (h : beyondS xs al border src to d) : GoodW d ∧ d.to = to := by
  obtain ⟨_, a, _, _, h2⟩ := h
  exact outS_good (fun _ h => h) h2

theorem outS_area {xs rs : List RecD} {area src to : Int} {d : WayD} (h : outS xs rs area src to d) : storeB xs = true ∧ 0 ≤ area ∧ area < 3 := by
  obtain ⟨_, r, _, _, _, _, v, h4, _⟩ := h
  exact waysD_area (findW_some h4).1

/-- the ways of the first areas alone -/
def someS (xs : List RecD) (al : List Int) (border : Bool) (src to : Int) (d : WayD) : Prop := ∃ a ∈ al, byArea border a ∧ outS xs xs a src to d

theorem someS_good {xs : List RecD} {al : List Int} {border : Bool} {src to : Int} {d : WayD} (h : someS xs al border src to d) : GoodW d ∧ d.to = to := by
  obtain ⟨a, _, _, h2⟩ := h
  exact outS_good (fun _ h => h) h2

theorem someS_step {xs : List RecD} {al : List Int} {border : Bool} {src to a : Int} {k : Nat} (h : al[k]? = some a) (d : WayD) : someS xs (al.take (k + 1)) border src to d ↔ someS xs (al.take k) border src to d ∨ (byArea border a ∧ outS xs xs a src to d) := by
  obtain ⟨hk, e⟩ := List.getElem?_eq_some_iff.1 h
  unfold someS
  rw [List.take_succ_eq_append_getElem hk, e]
  constructor
  · rintro ⟨b, h2, h3, h4⟩
    rcases List.mem_append.1 h2 with h5 | h5
    · exact .inl ⟨b, h5, h3, h4⟩
    · have : b = a := by simpa using h5
      subst this
      exact .inr ⟨h3, h4⟩
  · rintro (⟨b, h2, h3, h4⟩ | ⟨h3, h4⟩)
    · exact ⟨b, List.mem_append.2 (.inl h2), h3, h4⟩
    · exact ⟨a, List.mem_append.2 (.inr (by simp)), h3, h4⟩

/-- one way more beside the best -/
theorem bestOf_tell {tog : WayD → WayD → WayD} (ht : TogOk tog) {xs : List RecD} {area src to : Int} {k : Nat} {r : RecD} {o : Option WayD} {S0 : WayD → Prop} (hS0 : ∀ d, S0 d → GoodW d ∧ d.to = to) (h : xs[k]? = some r) (hb : BestOf to (fun d => S0 d ∨ outS xs (xs.take k) area src to d) o) {d : WayD} (hd : tellsOf xs area src r d) (hto : d.to = to) :
    BestOf to (fun d => S0 d ∨ outS xs (xs.take (k + 1)) area src to d) (moreW tog o (some d)) := by
  have hg := tellsOf_good (List.mem_of_getElem? h) hd
  refine (hb.add ht (fun w hw => ?_) hto hg.asc hg.hop6).congr (fun w => ?_)
  · rcases hw with h1 | h1
    · exact (hS0 w h1).1.hop6
    · exact (outS_good (fun r hr => List.mem_of_mem_take hr) h1).1.hop6
  · rw [outS_step h]
    have huniq : ∀ w, tellsOf xs area src r w → w = d := by
      rintro w ⟨_, _, _, v, h4, _, rfl⟩
      obtain ⟨_, _, _, v', h4', _, rfl⟩ := hd
      rw [h4] at h4'
      cases h4'
      rfl
    constructor
    · rintro ((h1 | h1) | h1)
      · exact .inl h1
      · exact .inr (.inl h1)
      · subst h1; exact .inr (.inr ⟨hto, hd⟩)
    · rintro (h1 | h1 | ⟨_, h1⟩)
      · exact .inl (.inl h1)
      · exact .inl (.inr h1)
      · exact .inr (huniq w h1)

theorem bestOf_quiet {xs : List RecD} {area src to : Int} {k : Nat} {r : RecD} {o : Option WayD} {S0 : WayD → Prop} (h : xs[k]? = some r) (hb : BestOf to (fun d => S0 d ∨ outS xs (xs.take k) area src to d) o) (hn : ∀ d, d.to = to → ¬ tellsOf xs area src r d) :
    BestOf to (fun d => S0 d ∨ outS xs (xs.take (k + 1)) area src to d) o := by
  refine hb.congr (fun w => ?_)
  rw [outS_step h]
  constructor
  · rintro (h1 | h1)
    · exact .inl h1
    · exact .inr (.inl h1)
  · rintro (h1 | h1 | ⟨h1, h2⟩)
    · exact .inl h1
    · exact .inr h1
    · exact absurd h2 (hn w h1)

/-- a way in a box, its hops a row of the caller's own -/
structure BoxT (W : World) (z lo : Nat) (b : WayD) (bv : Value) : Prop where
  box : W.heap[z]? = some (.cells (wayC b bv) 93)
  own : W.ownsRow lo 3 1 bv b.hops.length (flat intE b.hops)
  len : b.hops.length ≤ 6

theorem BoxT.below {W W' : World} {z lo : Nat} {b : WayD} {bv : Value} (h : BoxT W z lo b bv) (hb : Below W.heap.size W W') : BoxT W' z lo b bv :=
  ⟨(hb.block _ (lt_of_heap h.box)).trans h.box, owns_below h.own hb (Nat.le_refl _), h.len⟩

theorem BoxT.other {W W' : World} {z g lo : Nat} {b : WayD} {bv : Value} {cs : Array Value} {T : TypeId} {fr : Nat × Nat} (h : BoxT W z lo b bv) (hg : W.grownBy W' (some g)) (hgz : z ≠ g) (hbox : W.heap[g]? = some (.cells cs T fr)) (hT : (3 : TypeId) ≠ T) : BoxT W' z lo b bv :=
  ⟨(hg.block z (lt_of_heap h.box) (by simp; omega)).trans h.box, owns_keepB h.own (fun j hj => hg.block j (h.own.lt j hj).2 (fun e => own_type_ne2 h.own hbox hT (by rw [hj]; exact e.symm))), h.len⟩

theorem BoxT.put {W : World} {z lo : Nat} {b : WayD} {bv : Value} (h : BoxT W z lo b bv) {d : WayD} {u : Value} (hu : W.ownsRow lo 3 1 u d.hops.length (flat intE d.hops)) (hl : d.hops.length ≤ 6) : BoxT (putW3 W z d u) z lo d u := by
  have hb := h.box
  unfold wayC at hb
  have hg := grownW3 W z d u
  exact ⟨finW3 d u hb, owns_keepB hu (fun j hj => hg.block j (hu.lt j hj).2 (fun e => own_type_ne2 hu h.box (by decide) (by rw [hj]; exact e.symm))), hl⟩

theorem putW3_other {W : World} {z g : Nat} {d : WayD} {u : Value} {o : Obj} (h : W.heap[g]? = some o) (hne : g ≠ z) : (putW3 W z d u).heap[g]? = some o := ((grownW3 W z d u).block g (lt_of_heap h) (by simp; omega)).trans h
end Go.Proofs.YthmmpmbnpfhloaaDoor
namespace Go.Proofs.YthmmpmbnpfhloaaDoor
open Go.RowKit

set_option linter.unusedSimpArgs false

theorem WLs.keep {W W' : World} {lo hi : Nat} {u : Value} {ls : List LP} (h : WLs W lo hi u ls) (hk : ∀ k, lo ≤ k → k < hi → k < W.heap.size → W'.heap[k]? = W.heap[k]?) : WLs W' lo hi u ls :=
  ⟨owns_keepB h.row (fun k e => hk k (h.row.lt k e).1 (h.top k e) (h.row.lt k e).2), h.top, fun p hp => (h.ways p hp).keep hk⟩

/-- the lists of ways of a list of areas -/
def AreaWays (xs : List RecD) (src : Int) (al : List Int) (ls : List LP) : Prop := ls.map (fun p => fstsW p.2) = al.map (fun a => waysD xs a src)

theorem AreaWays.at {xs : List RecD} {src : Int} {al : List Int} {ls : List LP} (h : AreaWays xs src al ls) {k : Nat} {a : Int} (ha : al[k]? = some a) : ∃ p, ls[k]? = some p ∧ fstsW p.2 = waysD xs a src := by
  have h1 := congrArg (fun l => l[k]?) h
  simp only [List.getElem?_map, ha, Option.map_some] at h1
  cases e : ls[k]? with
  | none => rw [e] at h1; cases h1
  | some p => rw [e] at h1; exact ⟨p, rfl, by simpa using h1⟩

theorem AreaWays.len {xs : List RecD} {src : Int} {al : List Int} {ls : List LP} (h : AreaWays xs src al ls) : ls.length = al.length := by
  have := congrArg List.length h
  simpa using this

theorem AreaWays.push {xs : List RecD} {src : Int} {al : List Int} {ls : List LP} {k : Nat} {a : Int} {p : LP} (h : AreaWays xs src (al.take k) ls) (ha : al[k]? = some a) (hp : fstsW p.2 = waysD xs a src) : AreaWays xs src (al.take (k + 1)) (ls ++ [p]) := by
  obtain ⟨hk, e⟩ := List.getElem?_eq_some_iff.1 ha
  unfold AreaWays
  rw [List.take_succ_eq_append_getElem hk, e, List.map_append, List.map_append, h]
  simp [hp]

theorem ways_tot {xs : List RecD} {a src : Int} {ps : List WP} (h : fstsW ps = waysD xs a src) : totW ps ≤ 42 := by
  have hw := waysD_asc xs a src
  refine good_tot ?_ (fun d hd => (hw.2 d (by rw [← h]; exact hd)).1.len)
  have := asc_tos hw.1 (fun d hd => (hw.2 d hd).1.node)
  rw [← h] at this
  simpa [fstsW] using this

theorem wls_lit (W : World) (lo : Nat) (hb : lo ≤ W.heap.size) : WLs (W.alloc (.cells #[] 88)) lo (W.alloc (.cells #[] 88)).heap.size (.slice (some ⟨W.heap.size, 0, none⟩) 0 0) [] := by
  have h : (W.alloc (.cells #[] 88)).ownsRow lo 88 1 (.slice (some ⟨W.heap.size, 0, none⟩) 0 0) 0 (flat encLP []) := World.ownsRow_lit W #[] 0 hb (by unfold maxLen; omega) (by simp)
  exact ⟨h, fun k hk => (h.lt k hk).2, by simp⟩

theorem Tryd.infoWayS : (Tryd.prog.info? 88).map (fun i => (i.zero, i.size, i.bytes)) = some (some (.slice none 0 0), 1, 24) := by kernel_rfl

/-- the box of the best way -/
structure BoxSt (V W : World) (z : Nat) (b : WayD) (bv : Value) : Prop where
  box : W.heap[z]? = some (.cells (wayC b bv) 93)
  own : W.ownsRow z 3 1 bv b.hops.length (flat intE b.hops)
  bel : Below z V W
  len : b.hops.length ≤ 6

theorem BoxSt.below {V W W' : World} {z : Nat} {b : WayD} {bv : Value} (h : BoxSt V W z b bv) (hb : Below W.heap.size W W') : BoxSt V W' z b bv :=
  ⟨(hb.block _ (lt_of_heap h.box)).trans h.box, owns_below h.own hb (Nat.le_refl _), h.bel.trans (hb.mono (by have := lt_of_heap h.box; omega)), h.len⟩

/-- another way in the box -/
theorem BoxSt.put {V W : World} {z : Nat} {b : WayD} {bv : Value} (h : BoxSt V W z b bv) (hz : V.heap.size = z) {d : WayD} {u : Value} (hu : W.ownsRow (z + 1) 3 1 u d.hops.length (flat intE d.hops)) (hl : d.hops.length ≤ 6) : BoxSt V (putW3 W z d u) z d u := by
  have hb := h.box
  unfold wayC at hb
  have hg := grownW3 W z d u
  refine ⟨finW3 d u hb, ?_, h.bel.grown hg (by have := h.bel.size; omega) (fun k hk => by simp at hk; omega), hl⟩
  refine owns_baseS (hu.kept hg ?_) (by omega)
  cases hv : u.ownBlock with
  | none => exact .inl rfl
  | some g => exact .inr (fun e => by have := (hu.lt g hv).1; simp at e; omega)

theorem BoxSt.other {V W W' : World} {z g : Nat} {b : WayD} {bv : Value} {cs : Array Value} {fr : Nat × Nat} (h : BoxSt V W z b bv) (hg : W.grownBy W' (some g)) (hgz : z < g) (hbox : W.heap[g]? = some (.cells cs 93 fr)) (hz : V.heap.size = z) : BoxSt V W' z b bv :=
  ⟨(hg.block z (lt_of_heap h.box) (by simp; omega)).trans h.box, owns_keepB h.own (fun j hj => hg.block j (h.own.lt j hj).2 (fun e => own_type_ne2 h.own hbox (by decide) (by rw [hj]; exact e.symm))), h.bel.grown hg (by have := h.bel.size; omega) (fun k hk => by simp at hk; omega), h.len⟩

theorem owns_other {W W' : World} {lo g : Nat} {u : Value} {l : List Int} (h : W.ownsRow lo 3 1 u l.length (flat intE l)) (hg : W.grownBy W' (some g)) (hlt : g < lo) : W'.ownsRow lo 3 1 u l.length (flat intE l) :=
  owns_keepB h (fun j hj => hg.block j (h.lt j hj).2 (fun e => by have := (h.lt j hj).1; simp at e; omega))
end Go.Proofs.YthmmpmbnpfhloaaDoor
