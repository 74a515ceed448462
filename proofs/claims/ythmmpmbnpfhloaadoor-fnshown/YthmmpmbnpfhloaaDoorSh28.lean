/-
  What a border tells into an area: the records, determined by the sets of ways.
  spec.l07Beyond: its contract.
-/
import Derived.Test.YthmmpmbnpfhloaaDoorSh27
namespace Go.Proofs.YthmmpmbnpfhloaaDoor
open Go.RowKit

/-- no way leads there within the area -/
def notNear (xs : List RecD) (area src to : Int) : Prop := ∀ d, d ∈ waysD xs area src → d.to ≠ to

/-- the record that tells of a node at a cost -/
def tellR (area src to c : Int) : RecD := ⟨area, 2, src, to, 0, [], c, false⟩

/-- what is told of a node -/
def toldTo (xs : List RecD) (al : List Int) (src area to c : Int) : Prop := notNear xs area src to ∧ to ≠ src ∧
  ((∃ w, BestOf to (withinS xs al src to) (some w) ∧ c = w.cost) ∨ (area ≠ 0 ∧ ∃ w, BestOf to (beyondS xs al true src to) (some w) ∧ c = w.cost))

/-- what is told into an area, in order -/
def IsTold (xs : List RecD) (al : List Int) (src area : Int) (ds : List RecD) : Prop := Asc ds ∧ ∀ r, r ∈ ds ↔ ∃ to c, r = tellR area src to c ∧ toldTo xs al src area to c

theorem asc_extR : ∀ {a b : List RecD}, Asc a → Asc b → (∀ x, x ∈ a ↔ x ∈ b) → a = b
  | [], [], _, _, _ => rfl
  | [], y :: ys, _, _, h => by have := (h y).2 (by simp); cases this
  | x :: xs, [], _, _, h => by have := (h x).1 (by simp); cases this
  | x :: xs, y :: ys, ha, hb, h => by
    have ha' := List.pairwise_cons.1 ha
    have hb' := List.pairwise_cons.1 hb
    have irr : ∀ z : RecD, beforeB z z = true → False := fun z hz => by
      have := (bef_irrefl_same (x := z) (y := z) (by simp [sameKeyB])).1
      rw [this] at hz; cases hz
    have hxy : x = y := by
      have h1 := (h x).1 (by simp)
      have h2 := (h y).2 (by simp)
      rcases List.mem_cons.1 h1 with e | e
      · exact e
      · rcases List.mem_cons.1 h2 with e2 | e2
        · exact e2.symm
        · exact (irr x (bef_trans (ha'.1 y e2) (hb'.1 x e))).elim
    subst hxy
    have : xs = ys := by
      refine asc_extR ha'.2 hb'.2 (fun z => ?_)
      have hz := h z
      constructor
      · intro hm
        have h1 := hz.1 (List.mem_cons_of_mem _ hm)
        rcases List.mem_cons.1 h1 with e | e
        · have := ha'.1 z hm; subst e; exact (irr z this).elim
        · exact e
      · intro hm
        have h1 := hz.2 (List.mem_cons_of_mem _ hm)
        rcases List.mem_cons.1 h1 with e | e
        · have := hb'.1 z hm; subst e; exact (irr z this).elim
        · exact e
    rw [this]

theorem IsTold.unique {xs : List RecD} {al : List Int} {src area : Int} {a b : List RecD} (ha : IsTold xs al src area a) (hb : IsTold xs al src area b) : a = b :=
  asc_extR ha.1 hb.1 (fun r => by rw [ha.2, hb.2])

theorem best_good {to : Int} {S : WayD → Prop} {w : WayD} (h : BestOf to S (some w)) (hS : ∀ d, S d → GoodW d ∧ d.to = to) : GoodW w ∧ w.to = to := ⟨h.good hS, h.1⟩

theorem toldTo_node {xs : List RecD} {al : List Int} {src area to c : Int} (h : toldTo xs al src area to c) : 1 ≤ to ∧ to ≤ 6 := by
  obtain ⟨_, _, ⟨w, h1, _⟩ | ⟨_, w, h1, _⟩⟩ := h
  · have hg := best_good h1 (fun d h => withinS_good h)
    rw [← hg.2]; exact hg.1.node
  · have hg := best_good h1 (fun d h => beyondS_good h)
    rw [← hg.2]; exact hg.1.node

/-- at one cost alone -/
theorem toldTo_cost {xs : List RecD} {al : List Int} {src area to c c' : Int} (h : toldTo xs al src area to c) (h' : toldTo xs al src area to c') : c = c' := by
  have hno : ∀ {w v : WayD}, BestOf to (withinS xs al src to) (some w) → BestOf to (beyondS xs al true src to) (some v) → False := by
    intro w v h1 h2
    obtain ⟨_, ⟨u, hu, _⟩, _⟩ := h1
    obtain ⟨_, ⟨u', hu', _⟩, _⟩ := h2
    exact hu'.1 u hu
  obtain ⟨_, _, ⟨w, h1, rfl⟩ | ⟨_, w, h1, rfl⟩⟩ := h
  · obtain ⟨_, _, ⟨v, h2, rfl⟩ | ⟨_, v, h2, rfl⟩⟩ := h'
    · have := h1.unique h2; cases this; rfl
    · exact (hno h1 h2).elim
  · obtain ⟨_, _, ⟨v, h2, rfl⟩ | ⟨_, v, h2, rfl⟩⟩ := h'
    · exact (hno h2 h1).elim
    · have := h1.unique h2; cases this; rfl

theorem tellR_before {area src a b c d : Int} : beforeB (tellR area src a c) (tellR area src b d) = decide (a < b) := by
  simp [beforeB, tellR]
  try exact decide_eq_decide.2 Iff.rfl

theorem IsTold.tot {xs : List RecD} {al : List Int} {src area : Int} {ds : List RecD} (h : IsTold xs al src area ds) : ds.length ≤ 6 ∧ ∀ r ∈ ds, r.near = [] := by
  constructor
  · have h1 : (ds.map (·.key)).Pairwise (· < ·) := by
      rw [List.pairwise_map]
      refine List.Pairwise.imp_of_mem ?_ h.1
      intro a b ha hb hab
      obtain ⟨to, c, rfl, _⟩ := (h.2 a).1 ha
      obtain ⟨to', c', rfl, _⟩ := (h.2 b).1 hb
      rw [tellR_before] at hab
      exact of_decide_eq_true hab
    have h2 := asc6_len h1 (fun z hz => by
      obtain ⟨r, hr, rfl⟩ := List.mem_map.1 hz
      obtain ⟨to, c, rfl, ht⟩ := (h.2 r).1 hr
      exact toldTo_node ht)
    simpa using h2
  · intro r hr
    obtain ⟨to, c, rfl, _⟩ := (h.2 r).1 hr
    rfl

/-- the areas but one: where nothing is near, the same is within -/
theorem withinS_others {xs : List RecD} {al : List Int} {src area to : Int} (hn : notNear xs area src to) (d : WayD) : withinS xs (al.filter (fun a => a != area)) src to d ↔ withinS xs al src to d := by
  constructor
  · rintro ⟨h1, a, h2, h3⟩
    exact ⟨h1, a, (List.mem_filter.1 h2).1, h3⟩
  · rintro ⟨h1, a, h2, h3⟩
    refine ⟨h1, a, List.mem_filter.2 ⟨h2, ?_⟩, h3⟩
    have : a ≠ area := fun e => by subst e; exact hn d h3 h1
    simpa using this

/-- what wayTo tells of the ways of an area -/
theorem near_has (xs : List RecD) (area src to : Int) : (wayToB (waysD xs area src) to = true ∧ ¬ notNear xs area src to) ∨ (wayToB (waysD xs area src) to = false ∧ notNear xs area src to) := by
  rcases wayTo_find (waysD xs area src) to with ⟨h1, h2⟩ | ⟨h1, h2⟩
  · have h3 := findW_some h2
    exact .inl ⟨h1, fun h => h _ h3.1 h3.2⟩
  · exact .inr ⟨h1, fun d hd => findW_none h2 d hd⟩

/-- what wayTo tells of a list of best ways -/
theorem best_has {S : Int → WayD → Prop} {ds : List WayD} (h : IsBest S ds) (to : Int) : (wayToB ds to = true ∧ BestOf to (S to) (some (wayToD ds to))) ∨ (wayToB ds to = false ∧ ∀ d, ¬ S to d) := by
  have hb := h.2 to
  rcases wayTo_find ds to with ⟨h1, h2⟩ | ⟨h1, h2⟩
  · rw [h2] at hb
    exact .inl ⟨h1, hb⟩
  · rw [h2] at hb
    exact .inr ⟨h1, hb⟩

theorem not_best {to : Int} {S : WayD → Prop} {w : WayD} (h : ∀ d, ¬ S d) : ¬ BestOf to S (some w) := fun ⟨_, ⟨u, hu, _⟩, _⟩ => h u hu

/-- those that are told of the nodes below t -/
def ToldBelow (xs : List RecD) (al : List Int) (src area : Int) (t : Int) (ds : List RecD) : Prop := Asc ds ∧ ∀ r, r ∈ ds ↔ ∃ to c, r = tellR area src to c ∧ to < t ∧ toldTo xs al src area to c

theorem ToldBelow.skip {xs : List RecD} {al : List Int} {src area t : Int} {ds : List RecD} (h : ToldBelow xs al src area t ds) (hn : ∀ c, ¬ toldTo xs al src area t c) : ToldBelow xs al src area (t + 1) ds := by
  refine ⟨h.1, fun r => ?_⟩
  rw [h.2]
  constructor
  · rintro ⟨to, c, h1, h2, h3⟩
    exact ⟨to, c, h1, by omega, h3⟩
  · rintro ⟨to, c, h1, h2, h3⟩
    refine ⟨to, c, h1, ?_, h3⟩
    by_cases e : to = t
    · subst e; exact absurd h3 (hn c)
    · omega

theorem ToldBelow.push {xs : List RecD} {al : List Int} {src area t c : Int} {ds : List RecD} (h : ToldBelow xs al src area t ds) (ht : toldTo xs al src area t c) : ToldBelow xs al src area (t + 1) (ds ++ [tellR area src t c]) := by
  refine ⟨?_, fun r => ?_⟩
  · unfold Asc
    rw [List.pairwise_append]
    refine ⟨h.1, by simp, fun a ha b hb => ?_⟩
    have : b = tellR area src t c := by simpa using hb
    subst this
    obtain ⟨to, c', rfl, h2, _⟩ := (h.2 a).1 ha
    rw [tellR_before]
    simpa using h2
  · rw [List.mem_append, h.2]
    constructor
    · rintro (⟨to, c', h1, h2, h3⟩ | h1)
      · exact ⟨to, c', h1, by omega, h3⟩
      · exact ⟨t, c, by simpa using h1, by omega, ht⟩
    · rintro ⟨to, c', h1, h2, h3⟩
      by_cases e : to = t
      · subst e
        rw [toldTo_cost h3 ht] at h1
        exact .inr (by simpa using h1)
      · exact .inl ⟨to, c', h1, by omega, h3⟩

theorem ToldBelow.all {xs : List RecD} {al : List Int} {src area : Int} {ds : List RecD} (h : ToldBelow xs al src area 7 ds) : IsTold xs al src area ds := by
  refine ⟨h.1, fun r => ?_⟩
  rw [h.2]
  constructor
  · rintro ⟨to, c, h1, _, h3⟩
    exact ⟨to, c, h1, h3⟩
  · rintro ⟨to, c, h1, h3⟩
    exact ⟨to, c, h1, by have := toldTo_node h3; omega, h3⟩

theorem ToldBelow.none {xs : List RecD} {al : List Int} {src area : Int} : ToldBelow xs al src area 1 [] := by
  refine ⟨List.Pairwise.nil, fun r => ?_⟩
  constructor
  · intro h; cases h
  · rintro ⟨to, c, _, h2, h3⟩
    have := toldTo_node h3
    omega

theorem ToldBelow.len {xs : List RecD} {al : List Int} {src area t : Int} {ds : List RecD} (h : ToldBelow xs al src area t ds) : ds.length ≤ 6 ∧ ∀ r ∈ ds, r.near = [] := by
  constructor
  · have h1 : (ds.map (·.key)).Pairwise (· < ·) := by
      rw [List.pairwise_map]
      refine List.Pairwise.imp_of_mem ?_ h.1
      intro a b ha hb hab
      obtain ⟨to, c, rfl, _⟩ := (h.2 a).1 ha
      obtain ⟨to', c', rfl, _⟩ := (h.2 b).1 hb
      rw [tellR_before] at hab
      exact of_decide_eq_true hab
    have h2 := asc6_len h1 (fun z hz => by
      obtain ⟨r, hr, rfl⟩ := List.mem_map.1 hz
      obtain ⟨to, c, rfl, _, ht⟩ := (h.2 r).1 hr
      exact toldTo_node ht)
    simpa using h2
  · intro r hr
    obtain ⟨to, c, rfl, _⟩ := (h.2 r).1 hr
    rfl

theorem told_store {xs : List RecD} {al : List Int} {src area to c : Int} (h : toldTo xs al src area to c) : storeB xs = true := by
  obtain ⟨_, _, ⟨w, ⟨_, ⟨u, hu, _⟩, _⟩, _⟩ | ⟨_, w, ⟨_, ⟨u, hu, _⟩, _⟩, _⟩⟩ := h
  · obtain ⟨_, a, _, h3⟩ := hu
    exact (waysD_area h3).1
  · obtain ⟨_, a, _, _, h3⟩ := hu
    exact (outS_area h3).1
end Go.Proofs.YthmmpmbnpfhloaaDoor
namespace Go.Proofs.YthmmpmbnpfhloaaDoor
open Go.RowKit

set_option linter.unusedSimpArgs false

/-- the best way E, where the flag says that there is one -/
def BestV (to : Int) (S : WayD → Prop) (E : WayD) (fv : Value) : Prop := ∃ F : Bool, fv = .bool F ∧ BestOf to S (if F then some E else none)

theorem BestV.of {to : Int} {S : WayD → Prop} {E : WayD} {F : Bool} (h : BestOf to S (if F then some E else none)) : BestV to S E (.bool F) := ⟨F, rfl, h⟩

set_option maxRecDepth 100000 in
set_option maxHeartbeats 8000000 in
theorem sl07_any (v uw : Value) (ps : List RP) (ws : List WP) (hi lo2 hi2 lo : Nat) (area src to : Int) (b0 : WayD) (bv0 : Value) (F0 : Bool) (w : World) (S0 : WayD → Prop) (hv : RecsIn w hi v ps) (hhi : hi ≤ w.heap.size) (hn : tot ps ≤ 1048576)
    (hw : WaysOwn w lo2 hi2 uw ws) (hhi2 : hi2 ≤ w.heap.size) (hws : fstsW ws = waysD (fsts ps) area src) (hst : storeB (fsts ps) = true) (hbo : BestOf to S0 (if F0 then some b0 else none)) (hS0 : ∀ d, S0 d → GoodW d ∧ d.to = to) (hb0 : w.ownsRow lo 3 1 bv0 b0.hops.length (flat intE b0.hops)) (hlo : lo ≤ w.heap.size) (hl0 : b0.hops.length ≤ 6) :
    Calls Tryd.prog 59 #[v, uw, .int .i64 area, .int .i64 src, .int .i64 to, .agg (wayC b0 bv0), .bool F0] w fun e w' => ∃ (E : WayD) (u fv : Value), e = .returned (.tuple #[.agg (wayC E u), fv]) ∧ BestV to (fun d => S0 d ∨ outS (fsts ps) (fsts ps) area src to d) E fv ∧ w'.ownsRow lo 3 1 u E.hops.length (flat intE E.hops) ∧ E.hops.length ≤ 6 ∧ Below w.heap.size w w' := by
  have hnl := tot_len ps
  obtain ⟨a1, c1, rfl⟩ := owns_lenS hv.row
  obtain ⟨a2, c2, rfl⟩ := owns_lenS hw.row
  obtain ⟨a3, c3, rfl⟩ := owns_lenS hb0
  have hwt : totW ws ≤ 1048576 := by have := ways_tot hws; omega
  have BX : Below w.heap.size w ((w.alloc (.cells #[.int .i64 b0.to, .int .i64 b0.cost, .slice a3 b0.hops.length c3] 93)).alloc (.cells #[.int .i64 0, .int .i64 0, .slice none 0 0] 93)) := below_two _ _
  have q0 : ((w.alloc (.cells #[.int .i64 b0.to, .int .i64 b0.cost, .slice a3 b0.hops.length c3] 93)).alloc (.cells #[.int .i64 0, .int .i64 0, .slice none 0 0] 93)).heap[w.heap.size]? = some (.cells #[.int .i64 b0.to, .int .i64 b0.cost, .slice a3 b0.hops.length c3] 93) := by
    rw [Below.heap_alloc _ _ _ (by simp), heap_alloc_new]
  have q1 : ((w.alloc (.cells #[.int .i64 b0.to, .int .i64 b0.cost, .slice a3 b0.hops.length c3] 93)).alloc (.cells #[.int .i64 0, .int .i64 0, .slice none 0 0] 93)).heap[w.heap.size + 1]? = some (.cells #[.int .i64 0, .int .i64 0, .slice none 0 0] 93) := by
    have e := heap_alloc_new (w.alloc (.cells #[.int .i64 b0.to, .int .i64 b0.cost, .slice a3 b0.hops.length c3] 93)) (.cells #[.int .i64 0, .int .i64 0, .slice none 0 0] 93)
    rw [show (w.alloc (.cells #[.int .i64 b0.to, .int .i64 b0.cost, .slice a3 b0.hops.length c3] 93)).heap.size = w.heap.size + 1 by simp] at e
    exact e
  have hs2 : ((w.alloc (.cells #[.int .i64 b0.to, .int .i64 b0.cost, .slice a3 b0.hops.length c3] 93)).alloc (.cells #[.int .i64 0, .int .i64 0, .slice none 0 0] 93)).heap.size = w.heap.size + 2 := by simp
  obtain ⟨w0, hw0⟩ : ∃ W, W = ((w.alloc (.cells #[.int .i64 b0.to, .int .i64 b0.cost, .slice a3 b0.hops.length c3] 93)).alloc (.cells #[.int .i64 0, .int .i64 0, .slice none 0 0] 93)) := ⟨_, rfl⟩
  rw [← hw0] at BX q0 q1 hs2
  have HBX0 := hide (show BoxT w0 w.heap.size lo b0 (.slice a3 b0.hops.length c3) from ⟨q0, owns_below hb0 BX (Nat.le_refl _), hl0⟩)
  have HQ1 := hide q1
  have HV := hide hv
  have HWT := hide (fun (z : Int) (W : World) (hb : Below w.heap.size w W) => swayTo_any (.slice a2 ws.length c2) ws lo2 hi2 z W (hw.below hb hhi2) (Nat.le_trans hhi2 hb.size) hwt)
  have HB0 := hide (show BestOf to (fun d => S0 d ∨ outS (fsts ps) ((fsts ps).take 0) area src to d) (if F0 then some b0 else none) from hbo.congr (fun d => ⟨.inl, by rintro (h | ⟨_, r, h, _⟩); exact h; simp at h⟩))
  have HS2 := hide hs2
  unfold wayC
  clear hv hw hb0 q0 q1 hbo hs2
  go_enter Tryd.func59, Tryd.ntmps59
  go_wp2
  rw [← hw0]
  clear hw0
  go_loopw [16, 6] (fun i f wr => ∃ (k : Nat) (F : Bool) (b : WayD) (bv : Value), k ≤ ps.length ∧ i = .int .i64 (k : Int) ∧ f = .bool F ∧ BoxT wr w.heap.size lo b bv ∧ wr.heap[w.heap.size + 1]? = some (.cells #[.int .i64 0, .int .i64 0, .slice none 0 0] 93) ∧ Hid (BestOf to (fun d => S0 d ∨ outS (fsts ps) ((fsts ps).take k) area src to d) (if F then some b else none)) ∧ Below w.heap.size w wr ∧ w.heap.size + 2 ≤ wr.heap.size) (fun i _ _ => ps.length - (intOf i).toNat)
  case atStart => exact ⟨0, F0, b0, _, by omega, rfl, rfl, HBX0.out, HQ1.out, HB0, BX, by have := HS2.out; omega⟩
  case round =>
    obtain ⟨k, F, b, bv, hk, rfl, rfl, hbx, hrz, HBO, hnx, hsz⟩ := hrel
    clear HBX0 HQ1 HB0 HS2 BX
    obtain ⟨ba, bc, rfl⟩ := owns_lenS hbx.own
    by_cases hlt : k < ps.length
    · obtain ⟨p, hp⟩ : ∃ p, ps[k]? = some p := ⟨ps[k], List.getElem?_eq_getElem hlt⟩
      obtain ⟨bb, off, cap', hve, hbb, c0, c1, c2, c3, c4, c5, c6, c7, hnr⟩ := HV.out.at.cells k p hp
      cases hve
      obtain ⟨pa, pc, hpn⟩ := NearsAt.shape hnr
      rw [hpn] at c5
      rw [← hnx.cell (p := ⟨bb, off + k * 8, none⟩) (Nat.lt_of_lt_of_le hbb hhi)] at c0
      rw [← hnx.cell (p := ⟨bb, off + k * 8 + 1, none⟩) (Nat.lt_of_lt_of_le hbb hhi)] at c1
      rw [← hnx.cell (p := ⟨bb, off + k * 8 + 2, none⟩) (Nat.lt_of_lt_of_le hbb hhi)] at c2
      rw [← hnx.cell (p := ⟨bb, off + k * 8 + 3, none⟩) (Nat.lt_of_lt_of_le hbb hhi)] at c3
      rw [← hnx.cell (p := ⟨bb, off + k * 8 + 4, none⟩) (Nat.lt_of_lt_of_le hbb hhi)] at c4
      rw [← hnx.cell (p := ⟨bb, off + k * 8 + 5, none⟩) (Nat.lt_of_lt_of_le hbb hhi)] at c5
      rw [← hnx.cell (p := ⟨bb, off + k * 8 + 6, none⟩) (Nat.lt_of_lt_of_le hbb hhi)] at c6
      rw [← hnx.cell (p := ⟨bb, off + k * 8 + 7, none⟩) (Nat.lt_of_lt_of_le hbb hhi)] at c7
      have HPP := hide (fsts_at hp)
      have hpm : p.1 ∈ fsts ps := List.mem_of_getElem? (fsts_at hp)
      have BAL : Below wr.heap.size wr (wr.alloc (.cells #[.int .i64 p.1.area, .int .i64 p.1.kind, .int .i64 p.1.owner, .int .i64 p.1.key, .int .i64 p.1.seq, .slice pa p.1.near.length pc, .int .i64 p.1.cost, .bool p.1.far] 81)) := (Below.refl _ _).alloc (Nat.le_refl _) _
      have hxl := heap_alloc_new wr (.cells #[.int .i64 p.1.area, .int .i64 p.1.kind, .int .i64 p.1.owner, .int .i64 p.1.key, .int .i64 p.1.seq, .slice pa p.1.near.length pc, .int .i64 p.1.cost, .bool p.1.far] 81)
      obtain ⟨wl, hwl⟩ : ∃ W, W = (wr.alloc (.cells #[.int .i64 p.1.area, .int .i64 p.1.kind, .int .i64 p.1.owner, .int .i64 p.1.key, .int .i64 p.1.seq, .slice pa p.1.near.length pc, .int .i64 p.1.cost, .bool p.1.far] 81)) := ⟨_, rfl⟩
      rw [← hwl] at BAL hxl
      have hki : (0 : Int) ≤ (k : Int) := by omega
      have hkj : (k : Int) < (ps.length : Int) := by omega
      clear hp hnr hpn
      by_cases hK : p.1.kind = 2
      case neg =>
        have hd : (p.1.kind != 2) = true := by simpa using hK
        have HhK := hide hK
        clear hK
        have HN := hide (bestOf_quiet HPP.out HBO.out (fun d hdt ht => HhK.out ht.1))
        have HBX := hide (hbx.below BAL)
        have HRZ := hide ((BAL.block _ (by have := lt_of_heap hrz; omega)).trans hrz)
        have BN := hide (hnx.trans (BAL.mono hnx.size))
        rw [hwl] at HBX HRZ BN
        have hszn : w.heap.size + 2 ≤ (wr.alloc (.cells #[.int .i64 p.1.area, .int .i64 p.1.kind, .int .i64 p.1.owner, .int .i64 p.1.key, .int .i64 p.1.seq, .slice pa p.1.near.length pc, .int .i64 p.1.cost, .bool p.1.far] 81)).heap.size := by simp; omega
        clear hbx hrz HBO HPP HWT BAL hwl
        go_wp2
        go_roundw
        case rel => exact ⟨k + 1, F, b, _, by omega, by go_num, rfl, HBX.out, HRZ.out, HN, BN.out, hszn⟩
        case measure => simp [intOf]; omega
      have hdK : (p.1.kind != 2) = false := by simpa using hK
      have HhK := hide hK
      clear hK
      by_cases hA : p.1.area = area
      case neg =>
        have hd : (p.1.area != area) = true := by simpa using hA
        have HhA := hide hA
        clear hA
        have HN := hide (bestOf_quiet HPP.out HBO.out (fun d hdt ht => HhA.out ht.2.1))
        have HBX := hide (hbx.below BAL)
        have HRZ := hide ((BAL.block _ (by have := lt_of_heap hrz; omega)).trans hrz)
        have BN := hide (hnx.trans (BAL.mono hnx.size))
        rw [hwl] at HBX HRZ BN
        have hszn : w.heap.size + 2 ≤ (wr.alloc (.cells #[.int .i64 p.1.area, .int .i64 p.1.kind, .int .i64 p.1.owner, .int .i64 p.1.key, .int .i64 p.1.seq, .slice pa p.1.near.length pc, .int .i64 p.1.cost, .bool p.1.far] 81)).heap.size := by simp; omega
        clear hbx hrz HBO HPP HWT BAL hwl
        go_wp2
        go_roundw
        case rel => exact ⟨k + 1, F, b, _, by omega, by go_num, rfl, HBX.out, HRZ.out, HN, BN.out, hszn⟩
        case measure => simp [intOf]; omega
      have hdA : (p.1.area != area) = false := by simpa using hA
      have HhA := hide hA
      clear hA
      by_cases hY : p.1.key = to
      case neg =>
        have hd : (p.1.key != to) = true := by simpa using hY
        have HhY := hide hY
        clear hY
        have HN := hide (bestOf_quiet HPP.out HBO.out (fun d hdt ht => HhY.out (by obtain ⟨_, _, _, v, _, _, rfl⟩ := ht; exact hdt)))
        have HBX := hide (hbx.below BAL)
        have HRZ := hide ((BAL.block _ (by have := lt_of_heap hrz; omega)).trans hrz)
        have BN := hide (hnx.trans (BAL.mono hnx.size))
        rw [hwl] at HBX HRZ BN
        have hszn : w.heap.size + 2 ≤ (wr.alloc (.cells #[.int .i64 p.1.area, .int .i64 p.1.kind, .int .i64 p.1.owner, .int .i64 p.1.key, .int .i64 p.1.seq, .slice pa p.1.near.length pc, .int .i64 p.1.cost, .bool p.1.far] 81)).heap.size := by simp; omega
        clear hbx hrz HBO HPP HWT BAL hwl
        go_wp2
        go_roundw
        case rel => exact ⟨k + 1, F, b, _, by omega, by go_num, rfl, HBX.out, HRZ.out, HN, BN.out, hszn⟩
        case measure => simp [intOf]; omega
      have hdY : (p.1.key != to) = false := by simpa using hY
      have HhY := hide hY
      clear hY
      by_cases hO : p.1.owner = src
      case pos =>
        have hd : (p.1.owner == src) = true := by simpa using hO
        have HhO := hide hO
        clear hO
        have HN := hide (bestOf_quiet HPP.out HBO.out (fun d hdt ht => ht.2.2.1 HhO.out))
        have HBX := hide (hbx.below BAL)
        have HRZ := hide ((BAL.block _ (by have := lt_of_heap hrz; omega)).trans hrz)
        have BN := hide (hnx.trans (BAL.mono hnx.size))
        rw [hwl] at HBX HRZ BN
        have hszn : w.heap.size + 2 ≤ (wr.alloc (.cells #[.int .i64 p.1.area, .int .i64 p.1.kind, .int .i64 p.1.owner, .int .i64 p.1.key, .int .i64 p.1.seq, .slice pa p.1.near.length pc, .int .i64 p.1.cost, .bool p.1.far] 81)).heap.size := by simp; omega
        clear hbx hrz HBO HPP HWT BAL hwl
        go_wp2
        go_roundw
        case rel => exact ⟨k + 1, F, b, _, by omega, by go_num, rfl, HBX.out, HRZ.out, HN, BN.out, hszn⟩
        case measure => simp [intOf]; omega
      have hdO : (p.1.owner == src) = false := by simpa using hO
      have HhO := hide hO
      clear hO
      have hrb := rec_beyond hst hpm HhK.out
      by_cases hC : 60000 ≤ p.1.cost
      case pos =>
        have HN := hide (bestOf_quiet HPP.out HBO.out (fun d hdt ht => by obtain ⟨_, _, _, v, h4, h5, _⟩ := ht; have := ((waysD_asc (fsts ps) area src).2 v (findW_some h4).1).1.cost; omega))
        have HBX := hide (hbx.below BAL)
        have HRZ := hide ((BAL.block _ (by have := lt_of_heap hrz; omega)).trans hrz)
        have BN := hide (hnx.trans (BAL.mono hnx.size))
        rw [hwl] at HBX HRZ BN
        have hszn : w.heap.size + 2 ≤ (wr.alloc (.cells #[.int .i64 p.1.area, .int .i64 p.1.kind, .int .i64 p.1.owner, .int .i64 p.1.key, .int .i64 p.1.seq, .slice pa p.1.near.length pc, .int .i64 p.1.cost, .bool p.1.far] 81)).heap.size := by simp; omega
        clear hbx hrz HBO HPP HWT BAL hwl
        go_wp2
        go_roundw
        case rel => exact ⟨k + 1, F, b, _, by omega, by go_num, rfl, HBX.out, HRZ.out, HN, BN.out, hszn⟩
        case measure => simp [intOf]; omega
      have hfd := wayTo_find (fstsW ws) p.1.owner
      rw [hws] at hfd
      have HW := HWT.out p.1.owner wl (hnx.trans (BAL.mono hnx.size))
      rw [hws] at HW
      obtain ⟨D, hD⟩ : ∃ D, D = wayToD (waysD (fsts ps) area src) p.1.owner := ⟨_, rfl⟩
      obtain ⟨FB, hFB⟩ : ∃ F, F = wayToB (waysD (fsts ps) area src) p.1.owner := ⟨_, rfl⟩
      rw [← hD, ← hFB] at HW hfd
      have hx2 := cells_at hxl 2
      simp at hx2
      have HXL := hide hxl
      rw [hwl] at hx2
      have HWW := hide HW
      have HFD := hide hfd
      have HBX := hide (hbx.below BAL)
      have HRZ := hide ((BAL.block _ (by have := lt_of_heap hrz; omega)).trans hrz)
      have HBL := hide BAL
      have hsl := BAL.size
      unfold wayC at HWW
      clear HW hfd hD hFB hbx hrz hxl BAL
      go_wp2_with fail
      rw [← hwl]
      clear hwl hx2
      refine HWW.out.mono ?_
      rintro e w3 ⟨du, rfl, hdu, b3⟩
      obtain ⟨da, dc, rfl⟩ := owns_lenS hdu
      have hb3 := b3.size
      have BW3 : Below w.heap.size w w3 := hnx.trans ((HBL.out.mono hnx.size).trans (b3.mono (by have := hnx.size; omega)))
      have hbx3 := HBX.out.below b3
      have hrz3 := (b3.block _ (lt_of_heap HRZ.out)).trans HRZ.out
      have hxl3 := (b3.block _ (lt_of_heap HXL.out)).trans HXL.out
      have hwl3 := lt_of_heap HXL.out
      have HBA := hide (fun o => hbx3.below ((Below.refl w3.heap.size w3).alloc (Nat.le_refl _) o))
      have HZA := hide (fun o => (((Below.refl w3.heap.size w3).alloc (Nat.le_refl _) o).block _ (lt_of_heap hrz3)).trans hrz3)
      have HWA := hide (fun o => BW3.trans (((Below.refl w3.heap.size w3).alloc (Nat.le_refl _) o).mono BW3.size))
      have HDA := hide (fun o => owns_below hdu ((Below.refl w3.heap.size w3).alloc (Nat.le_refl _) o) (Nat.le_refl _))
      have HXA := hide (fun o => by
        have h := cells_at ((((Below.refl w3.heap.size w3).alloc (Nat.le_refl _) o).block _ (lt_of_heap hxl3)).trans hxl3) 6
        simp at h
        exact h)
      have HB3 := hide hbx3
      have HZ3 := hide hrz3
      have HD3 := hide hdu
      have HW3 := hide BW3
      have hz3 : w.heap.size < w3.heap.size := lt_of_heap hbx3.box
      have hzne : w.heap.size ≠ w3.heap.size := by omega
      clear hdu b3 hbx3 hrz3 hxl3 HWW HBX HRZ HXL HBL BW3
      cases FB
      · have HN := hide (bestOf_quiet HPP.out HBO.out (fun d hdt ht => by
          obtain ⟨_, _, _, v, h4, _⟩ := ht
          rcases HFD.out with ⟨h1, _⟩ | ⟨_, h2⟩
          · cases h1
          · rw [h2] at h4; cases h4))
        have N1 := hide (HBA.out (.cells #[.int .i64 D.to, .int .i64 D.cost, .slice da D.hops.length dc] 93))
        have N2 := hide (HZA.out (.cells #[.int .i64 D.to, .int .i64 D.cost, .slice da D.hops.length dc] 93))
        have N3 := hide (HWA.out (.cells #[.int .i64 D.to, .int .i64 D.cost, .slice da D.hops.length dc] 93))
        have hszn : w.heap.size + 2 ≤ (w3.alloc (.cells #[.int .i64 D.to, .int .i64 D.cost, .slice da D.hops.length dc] 93)).heap.size := by simp; omega
        clear HBA HZA HWA HDA HXA HBO HPP HFD HWT
        go_wp2
        go_roundw
        case rel => exact ⟨k + 1, F, b, _, by omega, by go_num, rfl, N1.out, N2.out, HN, N3.out, hszn⟩
        case measure => simp [intOf]; omega
      · have hfound : findW (waysD (fsts ps) area src) p.1.owner = some D := by
          rcases HFD.out with ⟨_, h2⟩ | ⟨h1, _⟩
          · exact h2
          · cases h1
        have hDg := (waysD_asc (fsts ps) area src).2 D (findW_some hfound).1
        have hD0 := hDg.1.cost
        have hD6 := hDg.1.len
        have hDc := hDg.2
        have x1 := HXA.out (.cells #[.int .i64 D.to, .int .i64 D.cost, .slice da D.hops.length dc] 93)
        by_cases hsum : 60000 ≤ D.cost + p.1.cost
        · have HN := hide (bestOf_quiet HPP.out HBO.out (fun d hdt ht => by
            obtain ⟨_, _, _, v, h4, h5, _⟩ := ht
            rw [hfound] at h4
            cases h4
            omega))
          have N1 := hide (HBA.out (.cells #[.int .i64 D.to, .int .i64 D.cost, .slice da D.hops.length dc] 93))
          have N2 := hide (HZA.out (.cells #[.int .i64 D.to, .int .i64 D.cost, .slice da D.hops.length dc] 93))
          have N3 := hide (HWA.out (.cells #[.int .i64 D.to, .int .i64 D.cost, .slice da D.hops.length dc] 93))
          have hszn : w.heap.size + 2 ≤ (w3.alloc (.cells #[.int .i64 D.to, .int .i64 D.cost, .slice da D.hops.length dc] 93)).heap.size := by simp; omega
          clear HBA HZA HWA HDA HXA HBO HPP HFD HWT hfound hDg
          go_wp2
          go_roundw
          case rel => exact ⟨k + 1, F, b, _, by omega, by go_num, rfl, N1.out, N2.out, HN, N3.out, hszn⟩
          case measure => simp [intOf]; omega
        · have htell : tellsOf (fsts ps) area src p.1 ⟨to, D.cost + p.1.cost, D.hops⟩ := ⟨HhK.out, HhA.out, HhO.out, D, hfound, by omega, by rw [HhY.out]⟩
          have HBN := hide (bestOf_tell togOk_D hS0 HPP.out HBO.out htell rfl)
          have x2 := HXA.out (.cells #[.int .i64 to, .int .i64 D.cost, .slice da D.hops.length dc] 93)
          have N1 := HBA.out (.cells #[.int .i64 to, .int .i64 (D.cost + p.1.cost), .slice da D.hops.length dc] 93)
          have N2 := HZA.out (.cells #[.int .i64 to, .int .i64 (D.cost + p.1.cost), .slice da D.hops.length dc] 93)
          have N3 := HWA.out (.cells #[.int .i64 to, .int .i64 (D.cost + p.1.cost), .slice da D.hops.length dc] 93)
          have N4 := HDA.out (.cells #[.int .i64 to, .int .i64 (D.cost + p.1.cost), .slice da D.hops.length dc] 93)
          have hx4 := heap_alloc_new w3 (.cells #[.int .i64 to, .int .i64 (D.cost + p.1.cost), .slice da D.hops.length dc] 93)
          have hs4 : (w3.alloc (.cells #[.int .i64 to, .int .i64 (D.cost + p.1.cost), .slice da D.hops.length dc] 93)).heap.size = w3.heap.size + 1 := by simp
          have hsm : D.cost + p.1.cost < 60000 := by omega
          clear htell hfound hDg HFD HWT HPP HBO HBA HZA HWA HDA HXA hsum
          have hzb := N1.box
          unfold wayC at hzb
          have e0 := cells_at hzb 0
          have e1 := cells_at hzb 1
          have e2 := cells_at hzb 2
          simp at e0 e1 e2
          have fe := frozen_at hzb
          cases F
          · have HN := hide (show BestOf to (fun d => S0 d ∨ outS (fsts ps) ((fsts ps).take (k + 1)) area src to d) (if true then some (⟨to, D.cost + p.1.cost, D.hops⟩ : WayD) else none) from HBN.out)
            have P3 := (HB3.out.put (d := ⟨to, D.cost + p.1.cost, D.hops⟩) (owns_baseS (b0 := lo) HD3.out (by omega)) hD6)
            have B3 := HW3.out.grown (grownW3 w3 w.heap.size ⟨to, D.cost + p.1.cost, D.hops⟩ (.slice da D.hops.length dc)) HW3.out.size (fun j hj => by simp at hj; omega)
            have Z3 := putW3_other (z := w.heap.size) (d := ⟨to, D.cost + p.1.cost, D.hops⟩) (u := .slice da D.hops.length dc) HZ3.out (by omega)
            have M1 := hide (P3.below ((Below.refl _ _).alloc (Nat.le_refl _) (.cells #[.int .i64 to, .int .i64 (D.cost + p.1.cost), .slice da D.hops.length dc] 93)))
            have M2 := hide ((((Below.refl _ _).alloc (Nat.le_refl _) (.cells #[.int .i64 to, .int .i64 (D.cost + p.1.cost), .slice da D.hops.length dc] 93)).block _ (lt_of_heap Z3)).trans Z3)
            have M3 := hide (B3.trans (((Below.refl _ _).alloc (Nat.le_refl _) (.cells #[.int .i64 to, .int .i64 (D.cost + p.1.cost), .slice da D.hops.length dc] 93)).mono B3.size))
            have hszn : w.heap.size + 2 ≤ ((putW3 w3 w.heap.size ⟨to, D.cost + p.1.cost, D.hops⟩ (.slice da D.hops.length dc)).alloc (.cells #[.int .i64 to, .int .i64 (D.cost + p.1.cost), .slice da D.hops.length dc] 93)).heap.size := by simp; omega
            have hzb3 := HB3.out.box
            unfold wayC at hzb3
            clear e0 e1 e2 fe
            have e0 := cells_at hzb3 0
            have e1 := cells_at hzb3 1
            have e2 := cells_at hzb3 2
            simp at e0 e1 e2
            have fe := frozen_at hzb3
            clear N1 N2 N3 N4 HBN hzb hx4 P3 B3 Z3 HB3 HZ3 HD3 HW3 hzb3 hs4
            go_wp2
            go_roundw
            case rel => exact ⟨k + 1, true, ⟨to, D.cost + p.1.cost, D.hops⟩, _, by omega, by go_num, rfl, M1.out, M2.out, HN, M3.out, hszn⟩
            case measure => simp [intOf]; omega
          · have HTG := stog_any b ⟨to, D.cost + p.1.cost, D.hops⟩ (.slice ba b.hops.length bc) (.slice da D.hops.length dc) lo wl.heap.size _ N1.own N4 (by have := N1.len; omega) (by show D.hops.length ≤ 1048576; omega)
            unfold wayC at HTG
            simp only [] at HTG
            obtain ⟨E, hE⟩ : ∃ E, E = togD b ⟨to, D.cost + p.1.cost, D.hops⟩ := ⟨_, rfl⟩
            rw [← hE] at HTG
            have hE6 : E.hops.length ≤ 6 := by rw [hE]; exact tog_len N1.len hD6 (by omega)
            have HN := hide (show BestOf to (fun d => S0 d ∨ outS (fsts ps) ((fsts ps).take (k + 1)) area src to d) (if true then some E else none) by
              have h := HBN.out
              rw [hE]
              exact h)
            have HT := hide HTG
            clear HB3 HZ3 HD3 HW3
            have HN1 := hide N1
            have HN2 := hide N2
            have HN3 := hide N3
            have HX4 := hide hx4
            clear HTG HBN hE N1 N2 N3 N4 hzb hx4
            go_wp2_with fail
            refine HT.out.mono ?_
            rintro e w5 ⟨eu, rfl, heu, b5⟩
            obtain ⟨ea, ec, rfl⟩ := owns_lenS heu
            have hb5 := b5.size
            have hx5 := (b5.block _ (lt_of_heap HX4.out)).trans HX4.out
            have hbx5 := HN1.out.below b5
            have hrz5 := (b5.block _ (lt_of_heap HN2.out)).trans HN2.out
            have B5 : Below w.heap.size w w5 := HN3.out.trans (b5.mono HN3.out.size)
            have hzb5 := hbx5.box
            unfold wayC at hzb5
            clear e0 e1 e2 fe x1 x2
            have d0 := cells_at hx5 0
            have d1 := cells_at hx5 1
            have d2 := cells_at hx5 2
            simp at d0 d1 d2
            have e0 := cells_at hzb5 0
            have e1 := cells_at hzb5 1
            have e2 := cells_at hzb5 2
            simp at e0 e1 e2
            have fd := frozen_at hx5
            have fe := frozen_at hzb5
            have hg14 := grownW3 w5 w3.heap.size E (.slice ea E.hops.length ec)
            have heu2 : (putW3 w5 w3.heap.size E (.slice ea E.hops.length ec)).ownsRow lo 3 1 (.slice ea E.hops.length ec) E.hops.length (flat intE E.hops) := owns_baseS (owns_other heu hg14 (by rw [hs4]; omega)) (by rw [hs4]; omega)
            have M1 := hide ((hbx5.other hg14 (by omega) hx5 (by decide)).put heu2 hE6)
            have M2 := hide (putW3_other (z := w.heap.size) (d := E) (u := .slice ea E.hops.length ec) (putW3_other (z := w3.heap.size) (d := E) (u := .slice ea E.hops.length ec) hrz5 (by omega)) (by omega))
            have M3 := hide ((B5.grown hg14 B5.size (fun j hj => by simp at hj; omega)).grown (grownW3 _ w.heap.size E (.slice ea E.hops.length ec)) (by have := hg14.size; omega) (fun j hj => by simp at hj; omega))
            have hszn : w.heap.size + 2 ≤ (putW3 (putW3 w5 w3.heap.size E (.slice ea E.hops.length ec)) w.heap.size E (.slice ea E.hops.length ec)).heap.size := by rw [hs4] at hb5; simp; omega
            clear HN1 HN2 HN3 HX4 HT hx5 hbx5 hrz5 hzb5 heu b5 hg14 heu2 B5 hs4 hb5
            go_wp2
            go_roundw
            case rel => exact ⟨k + 1, true, E, _, by omega, by go_num, rfl, M1.out, M2.out, HN, M3.out, hszn⟩
            case measure => simp [intOf]; omega
    · have hkn : ¬ (k : Int) < (ps.length : Int) := by omega
      have HBF := hide (show BestOf to (fun d => S0 d ∨ outS (fsts ps) (fsts ps) area src to d) (if F then some b else none) by
        have h := HBO.out
        rw [List.take_of_length_le (by simp [fsts]; omega)] at h
        exact h)
      have hzb := hbx.box
      unfold wayC at hzb
      have e0 := cells_at hzb 0
      have e1 := cells_at hzb 1
      have e2 := cells_at hzb 2
      simp at e0 e1 e2
      have y0 := cells_at hrz 0
      have y1 := cells_at hrz 1
      have y2 := cells_at hrz 2
      simp at y0 y1 y2
      have fy := frozen_at hrz
      have FF := hide (finW3 b (.slice ba b.hops.length bc) hrz)
      have hg := grownW3 wr (w.heap.size + 1) b (.slice ba b.hops.length bc)
      have hbx2 := hbx.other hg (by omega) hrz (by decide)
      have HO := hide hbx2.own
      have HL := hide hbx2.len
      have HB := hide (hnx.grown hg hnx.size (fun j hj => by simp at hj; omega))
      clear hbx hrz hbx2 hg hzb HBO
      go_wp2_with fail
      (try simp only [Exit.inBlock, Exit.then])
      refine bodyPost_ret (results_cell_row_tmpW rfl _ _ (w.heap.size + 1) 93 (wayC b (.slice ba b.hops.length bc)) (0, 0) _ rfl FF.out Tryd.underlying93 rfl (by kernel_rfl)) rfl ?_
      exact ⟨b, _, .bool F, rfl, BestV.of HBF.out, HO.out, HL.out, HB.out⟩
end Go.Proofs.YthmmpmbnpfhloaaDoor
