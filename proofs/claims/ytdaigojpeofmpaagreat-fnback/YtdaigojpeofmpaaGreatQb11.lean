/-
  What a border tells into an area: the records, determined by the sets of ways.
  The drawn region of spec.RoutesBeyond, in every order.
  One way more at the end of a list of the caller's own.
  append of one struct, with word on the block of what comes out.
-/
import Derived.Test.YtdaigojpeofmpaaGreatQb10
import Derived.Test.YtdaigojpeofmpaaGreatQb7
import Derived.Test.YtdaigojpeofmpaaGreatQb2
import Derived.Test.YtdaigojpeofmpaaGreatQb8
import Derived.Maps.AppendAt
namespace Go.Proofs.YtdaigojpeofmpaaGreat
open Go.RowKit

/-- no way leads there within the area -/
def notNear (xs : List RecD) (area src to : Int) : Prop := ∀ d, d ∈ waysD xs area src → d.to ≠ to

/-- the record that tells of a node at a cost -/
def tellR (area src to c : Int) : RecD := ⟨area, 2, src, to, 0, [], c, false⟩

/-- what is told of a node -/
def toldTo (xs : List RecD) (al : List Int) (src area to c : Int) : Prop := notNear xs area src to ∧ to ≠ src ∧
  ((∃ w, BestOf to (withinS xs al src to) (some w) ∧ c = w.cost) ∨ (area ≠ 0 ∧ ∃ w, BestOf to (beyondS xs al true src to) (some w) ∧ c = w.cost))

/-- what is told into an area, in order -/
def IsTold (xs : List RecD) (al : List Int) (src area : Int) (ds : List RecD) : Prop := Asc ds ∧ ∀ r, r ∈ ds ↔ ∃ to c, r = tellR area src to c ∧ toldTo xs al src area to c

theorem asc_extR : ∀ {a b : List RecD}, Asc a → Asc b → (∀ x, x ∈ a ↔ x ∈ b) → a = b
  | [], [], _, _, _ => rfl
  | [], y :: ys, _, _, h => by have := (h y).2 (by simp); cases this
  | x :: xs, [], _, _, h => by have := (h x).1 (by simp); cases this
  | x :: xs, y :: ys, ha, hb, h => by
    have ha' := List.pairwise_cons.1 ha
    have hb' := List.pairwise_cons.1 hb
    have irr : ∀ z : RecD, beforeB z z = true → False := fun z hz => by
      have := (bef_irrefl_same (x := z) (y := z) (by simp [sameKeyB])).1
      rw [this] at hz; cases hz
    have hxy : x = y := by
      have h1 := (h x).1 (by simp)
      have h2 := (h y).2 (by simp)
      rcases List.mem_cons.1 h1 with e | e
      · exact e
      · rcases List.mem_cons.1 h2 with e2 | e2
        · exact e2.symm
        · exact (irr x (bef_trans (ha'.1 y e2) (hb'.1 x e))).elim
    subst hxy
    have : xs = ys := by
      refine asc_extR ha'.2 hb'.2 (fun z => ?_)
      have hz := h z
      constructor
      · intro hm
        have h1 := hz.1 (List.mem_cons_of_mem _ hm)
        rcases List.mem_cons.1 h1 with e | e
        · have := ha'.1 z hm; subst e; exact (irr z this).elim
        · exact e
      · intro hm
        have h1 := hz.2 (List.mem_cons_of_mem _ hm)
        rcases List.mem_cons.1 h1 with e | e
        · have := hb'.1 z hm; subst e; exact (irr z this).elim
        · exact e
    rw [this]

theorem IsTold.unique {xs : List RecD} {al : List Int} {src area : Int} {a b : List RecD} (ha : IsTold xs al src area a) (hb : IsTold xs al src area b) : a = b :=
  asc_extR ha.1 hb.1 (fun r => by rw [ha.2, hb.2])

theorem best_good {to : Int} {S : WayD → Prop} {w : WayD} (h : BestOf to S (some w)) (hS : ∀ d, S d → GoodW d ∧ d.to = to) : GoodW w ∧ w.to = to := ⟨h.good hS, h.1⟩

theorem toldTo_node {xs : List RecD} {al : List Int} {src area to c : Int} (h : toldTo xs al src area to c) : 1 ≤ to ∧ to ≤ 6 := by
  obtain ⟨_, _, ⟨w, h1, _⟩ | ⟨_, w, h1, _⟩⟩ := h
  · have hg := best_good h1 (fun d h => withinS_good h)
    rw [← hg.2]; exact hg.1.node
  · have hg := best_good h1 (fun d h => beyondS_good h)
    rw [← hg.2]; exact hg.1.node

/-- at one cost alone -/
theorem toldTo_cost {xs : List RecD} {al : List Int} {src area to c c' : Int} (h : toldTo xs al src area to c) (h' : toldTo xs al src area to c') : c = c' := by
  have hno : ∀ {w v : WayD}, BestOf to (withinS xs al src to) (some w) → BestOf to (beyondS xs al true src to) (some v) → False := by
    intro w v h1 h2
    obtain ⟨_, ⟨u, hu, _⟩, _⟩ := h1
    obtain ⟨_, ⟨u', hu', _⟩, _⟩ := h2
    exact hu'.1 u hu
  obtain ⟨_, _, ⟨w, h1, rfl⟩ | ⟨_, w, h1, rfl⟩⟩ := h
  · obtain ⟨_, _, ⟨v, h2, rfl⟩ | ⟨_, v, h2, rfl⟩⟩ := h'
    · have := h1.unique h2; cases this; rfl
    · exact (hno h1 h2).elim
  · obtain ⟨_, _, ⟨v, h2, rfl⟩ | ⟨_, v, h2, rfl⟩⟩ := h'
    · exact (hno h2 h1).elim
    · have := h1.unique h2; cases this; rfl

theorem tellR_before {area src a b c d : Int} : beforeB (tellR area src a c) (tellR area src b d) = decide (a < b) := by
  simp [beforeB, tellR]
  try exact decide_eq_decide.2 Iff.rfl

theorem IsTold.tot {xs : List RecD} {al : List Int} {src area : Int} {ds : List RecD} (h : IsTold xs al src area ds) : ds.length ≤ 6 ∧ ∀ r ∈ ds, r.near = [] := by
  constructor
  · have h1 : (ds.map (·.key)).Pairwise (· < ·) := by
      rw [List.pairwise_map]
      refine List.Pairwise.imp_of_mem ?_ h.1
      intro a b ha hb hab
      obtain ⟨to, c, rfl, _⟩ := (h.2 a).1 ha
      obtain ⟨to', c', rfl, _⟩ := (h.2 b).1 hb
      rw [tellR_before] at hab
      exact of_decide_eq_true hab
    have h2 := asc6_len h1 (fun z hz => by
      obtain ⟨r, hr, rfl⟩ := List.mem_map.1 hz
      obtain ⟨to, c, rfl, ht⟩ := (h.2 r).1 hr
      exact toldTo_node ht)
    simpa using h2
  · intro r hr
    obtain ⟨to, c, rfl, _⟩ := (h.2 r).1 hr
    rfl

/-- the areas but one: where nothing is near, the same is within -/
theorem withinS_others {xs : List RecD} {al : List Int} {src area to : Int} (hn : notNear xs area src to) (d : WayD) : withinS xs (al.filter (fun a => a != area)) src to d ↔ withinS xs al src to d := by
  constructor
  · rintro ⟨h1, a, h2, h3⟩
    exact ⟨h1, a, (List.mem_filter.1 h2).1, h3⟩
  · rintro ⟨h1, a, h2, h3⟩
    refine ⟨h1, a, List.mem_filter.2 ⟨h2, ?_⟩, h3⟩
    have : a ≠ area := fun e => by subst e; exact hn d h3 h1
    simpa using this

/-- what wayTo tells of the ways of an area -/
theorem near_has (xs : List RecD) (area src to : Int) : (wayToB (waysD xs area src) to = true ∧ ¬ notNear xs area src to) ∨ (wayToB (waysD xs area src) to = false ∧ notNear xs area src to) := by
  rcases wayTo_find (waysD xs area src) to with ⟨h1, h2⟩ | ⟨h1, h2⟩
  · have h3 := findW_some h2
    exact .inl ⟨h1, fun h => h _ h3.1 h3.2⟩
  · exact .inr ⟨h1, fun d hd => findW_none h2 d hd⟩

/-- what wayTo tells of a list of best ways -/
theorem best_has {S : Int → WayD → Prop} {ds : List WayD} (h : IsBest S ds) (to : Int) : (wayToB ds to = true ∧ BestOf to (S to) (some (wayToD ds to))) ∨ (wayToB ds to = false ∧ ∀ d, ¬ S to d) := by
  have hb := h.2 to
  rcases wayTo_find ds to with ⟨h1, h2⟩ | ⟨h1, h2⟩
  · rw [h2] at hb
    exact .inl ⟨h1, hb⟩
  · rw [h2] at hb
    exact .inr ⟨h1, hb⟩

theorem not_best {to : Int} {S : WayD → Prop} {w : WayD} (h : ∀ d, ¬ S d) : ¬ BestOf to S (some w) := fun ⟨_, ⟨u, hu, _⟩, _⟩ => h u hu

/-- those that are told of the nodes below t -/
def ToldBelow (xs : List RecD) (al : List Int) (src area : Int) (t : Int) (ds : List RecD) : Prop := Asc ds ∧ ∀ r, r ∈ ds ↔ ∃ to c, r = tellR area src to c ∧ to < t ∧ toldTo xs al src area to c

theorem ToldBelow.skip {xs : List RecD} {al : List Int} {src area t : Int} {ds : List RecD} (h : ToldBelow xs al src area t ds) (hn : ∀ c, ¬ toldTo xs al src area t c) : ToldBelow xs al src area (t + 1) ds := by
  refine ⟨h.1, fun r => ?_⟩
  rw [h.2]
  constructor
  · rintro ⟨to, c, h1, h2, h3⟩
    exact ⟨to, c, h1, by omega, h3⟩
  · rintro ⟨to, c, h1, h2, h3⟩
    refine ⟨to, c, h1, ?_, h3⟩
    by_cases e : to = t
    · subst e; exact absurd h3 (hn c)
    · omega

theorem ToldBelow.push {xs : List RecD} {al : List Int} {src area t c : Int} {ds : List RecD} (h : ToldBelow xs al src area t ds) (ht : toldTo xs al src area t c) : ToldBelow xs al src area (t + 1) (ds ++ [tellR area src t c]) := by
  refine ⟨?_, fun r => ?_⟩
  · unfold Asc
    rw [List.pairwise_append]
    refine ⟨h.1, by simp, fun a ha b hb => ?_⟩
    have : b = tellR area src t c := by simpa using hb
    subst this
    obtain ⟨to, c', rfl, h2, _⟩ := (h.2 a).1 ha
    rw [tellR_before]
    simpa using h2
  · rw [List.mem_append, h.2]
    constructor
    · rintro (⟨to, c', h1, h2, h3⟩ | h1)
      · exact ⟨to, c', h1, by omega, h3⟩
      · exact ⟨t, c, by simpa using h1, by omega, ht⟩
    · rintro ⟨to, c', h1, h2, h3⟩
      by_cases e : to = t
      · subst e
        rw [toldTo_cost h3 ht] at h1
        exact .inr (by simpa using h1)
      · exact .inl ⟨to, c', h1, by omega, h3⟩

theorem ToldBelow.all {xs : List RecD} {al : List Int} {src area : Int} {ds : List RecD} (h : ToldBelow xs al src area 7 ds) : IsTold xs al src area ds := by
  refine ⟨h.1, fun r => ?_⟩
  rw [h.2]
  constructor
  · rintro ⟨to, c, h1, _, h3⟩
    exact ⟨to, c, h1, h3⟩
  · rintro ⟨to, c, h1, h3⟩
    exact ⟨to, c, h1, by have := toldTo_node h3; omega, h3⟩

theorem ToldBelow.none {xs : List RecD} {al : List Int} {src area : Int} : ToldBelow xs al src area 1 [] := by
  refine ⟨List.Pairwise.nil, fun r => ?_⟩
  constructor
  · intro h; cases h
  · rintro ⟨to, c, _, h2, h3⟩
    have := toldTo_node h3
    omega

theorem ToldBelow.len {xs : List RecD} {al : List Int} {src area t : Int} {ds : List RecD} (h : ToldBelow xs al src area t ds) : ds.length ≤ 6 ∧ ∀ r ∈ ds, r.near = [] := by
  constructor
  · have h1 : (ds.map (·.key)).Pairwise (· < ·) := by
      rw [List.pairwise_map]
      refine List.Pairwise.imp_of_mem ?_ h.1
      intro a b ha hb hab
      obtain ⟨to, c, rfl, _⟩ := (h.2 a).1 ha
      obtain ⟨to', c', rfl, _⟩ := (h.2 b).1 hb
      rw [tellR_before] at hab
      exact of_decide_eq_true hab
    have h2 := asc6_len h1 (fun z hz => by
      obtain ⟨r, hr, rfl⟩ := List.mem_map.1 hz
      obtain ⟨to, c, rfl, _, ht⟩ := (h.2 r).1 hr
      exact toldTo_node ht)
    simpa using h2
  · intro r hr
    obtain ⟨to, c, rfl, _⟩ := (h.2 r).1 hr
    rfl

theorem told_store {xs : List RecD} {al : List Int} {src area to c : Int} (h : toldTo xs al src area to c) : storeB xs = true := by
  obtain ⟨_, _, ⟨w, ⟨_, ⟨u, hu, _⟩, _⟩, _⟩ | ⟨_, w, ⟨_, ⟨u, hu, _⟩, _⟩, _⟩⟩ := h
  · obtain ⟨_, a, _, h3⟩ := hu
    exact (waysD_area h3).1
  · obtain ⟨_, a, _, _, h3⟩ := hu
    exact (outS_area h3).1
end Go.Proofs.YtdaigojpeofmpaaGreat
namespace Go.Proofs.YtdaigojpeofmpaaGreat
open Go.RowKit

set_option linter.unusedSimpArgs false

def opsRB : Array Oper := #[{ dst := some 72, op := Op.move (Operand.tmp 0), type := 29, pos := "l07_route.go:75", after := #[], guard := none }, { dst := some 73, op := Op.move (Operand.tmp 11), type := 217, pos := "l07_route.go:75", after := #[], guard := none }, { dst := some 74, op := Op.move (Operand.tmp 18), type := 3, pos := "l07_route.go:75", after := #[], guard := none }, { dst := some 75, op := Op.indexAddr 217 (Operand.tmp 73) (Operand.tmp 74), type := 0, pos := "l07_route.go:75", after := #[{ on := 1, ground := Ground.data }, { on := 2, ground := Ground.data }], guard := none }, { dst := some 76, op := Op.load 70 (Operand.tmp 75), type := 70, pos := "l07_route.go:75", after := #[{ on := 3, ground := Ground.data }], guard := none }, { dst := some 77, op := Op.move (Operand.tmp 1), type := 28, pos := "l07_route.go:75", after := #[], guard := none }, { dst := some 78, op := Op.move (Operand.tmp 18), type := 3, pos := "l07_route.go:75", after := #[], guard := none }, { dst := some 79, op := Op.indexAddr 28 (Operand.tmp 77) (Operand.tmp 78), type := 0, pos := "l07_route.go:75", after := #[{ on := 5, ground := Ground.data }, { on := 6, ground := Ground.data }], guard := none }, { dst := some 80, op := Op.load 3 (Operand.tmp 79), type := 3, pos := "l07_route.go:75", after := #[{ on := 7, ground := Ground.data }], guard := none }, { dst := some 81, op := Op.move (Operand.tmp 3), type := 3, pos := "l07_route.go:75", after := #[], guard := none }, { dst := some 82, op := Op.move (Operand.tmp 13), type := 3, pos := "l07_route.go:75", after := #[], guard := none }, { dst := some 83, op := Op.load 73 (Operand.tmp 16), type := 73, pos := "l07_route.go:75", after := #[], guard := none }, { dst := some 84, op := Op.move (Operand.tmp 17), type := 4, pos := "l07_route.go:75", after := #[], guard := none }, { dst := some 85, op := Op.call { callee := Callee.value (Operand.func 206), args := #[Operand.tmp 72, Operand.tmp 76, Operand.tmp 80, Operand.tmp 81, Operand.tmp 82, Operand.tmp 83, Operand.tmp 84], argTypes := #[29, 70, 3, 3, 3, 73, 4] }, type := 75, pos := "l07_route.go:75", after := #[{ on := 0, ground := Ground.data }, { on := 4, ground := Ground.data }, { on := 8, ground := Ground.data }, { on := 9, ground := Ground.data }, { on := 10, ground := Ground.data }, { on := 11, ground := Ground.data }, { on := 12, ground := Ground.data }], guard := none }, { dst := some 71, op := Op.move (Operand.tmp 85), type := 75, pos := "l07_route.go:75", after := #[{ on := 13, ground := Ground.data }], guard := none }, { dst := some 86, op := Op.extract (Operand.tmp 71) 0, type := 73, pos := "l07_route.go:75", after := #[{ on := 14, ground := Ground.data }], guard := none }, { dst := some 87, op := Op.extract (Operand.tmp 71) 1, type := 4, pos := "l07_route.go:75", after := #[{ on := 14, ground := Ground.data }, { on := 17, ground := Ground.gcOnly Departure.lateStores }], guard := none }, { dst := none, op := Op.store 73 (Operand.tmp 16) (Operand.tmp 86), type := 0, pos := "l07_route.go:75", after := #[{ on := 15, ground := Ground.data }, { on := 13, ground := Ground.chain }, { on := 0, ground := Ground.phase }, { on := 1, ground := Ground.phase }, { on := 2, ground := Ground.phase }, { on := 3, ground := Ground.phase }, { on := 4, ground := Ground.phase }, { on := 5, ground := Ground.phase }, { on := 6, ground := Ground.phase }, { on := 7, ground := Ground.phase }, { on := 8, ground := Ground.phase }, { on := 9, ground := Ground.phase }, { on := 10, ground := Ground.phase }, { on := 11, ground := Ground.phase }, { on := 12, ground := Ground.phase }, { on := 13, ground := Ground.phase }, { on := 14, ground := Ground.phase }, { on := 15, ground := Ground.phase }, { on := 16, ground := Ground.textOnly Departure.lateStores }], guard := none }, { dst := some 17, op := Op.assign (Operand.tmp 87), type := 4, pos := "l07_route.go:75", after := #[{ on := 16, ground := Ground.data }, { on := 17, ground := Ground.chain }, { on := 0, ground := Ground.phase }, { on := 1, ground := Ground.phase }, { on := 2, ground := Ground.phase }, { on := 3, ground := Ground.phase }, { on := 4, ground := Ground.phase }, { on := 5, ground := Ground.phase }, { on := 6, ground := Ground.phase }, { on := 7, ground := Ground.phase }, { on := 8, ground := Ground.phase }, { on := 9, ground := Ground.phase }, { on := 10, ground := Ground.phase }, { on := 11, ground := Ground.phase }, { on := 12, ground := Ground.phase }, { on := 13, ground := Ground.phase }, { on := 14, ground := Ground.phase }, { on := 15, ground := Ground.phase }, { on := 16, ground := Ground.phase }, { on := 17, ground := Ground.phase }], guard := none }]

theorem putW3_cell (W : World) (z : Nat) (q : WayD) (u : Value) (b j : Nat) (h : b ≠ z) : (putW3 W z q u).cell? ⟨b, j, none⟩ = W.cell? ⟨b, j, none⟩ := by
  have e : (putW3 W z q u).heap[b]? = W.heap[b]? := by
    unfold putW3
    rw [heap_setCell_other _ ⟨z, 2, none⟩ _ _ h, heap_setCell_other _ ⟨z, 1, none⟩ _ _ h, heap_setCell_other _ ⟨z, 0, none⟩ _ _ h]
  simp only [World.cell?, e]

set_option maxRecDepth 100000 in
set_option maxHeartbeats 2000000 in
theorem bey_dag (t2 t4 t5 t6 t7 t8 t9 t10 t12 t14 t15 t19 t20 t21 t22 t23 t24 t25 t26 t27 t28 t29 t30 t31 t32 t33 t34 t35 t36 t37 t38 t39 t40 t41 t42 t43 t44 t45 t46 t47 t48 t49 t50 t51 t52 t53 t54 t55 t56 t57 t58 t59 t60 t61 t62 t63 t64 t65 t66 t67 t68 t69 t70 t71 t72 t73 t74 t75 t76 t77 t78 t79 t80 t81 t82 t83 t84 t85 t86 t87 t88 t89 t90 t91 t92 t93 : Value) (W0 : World) (rv wv fv0 : Value) (g n cap b off m acap z k : Nat) (area src to : Int) (x : WayD) (xa : Option Addr) (xl xc : Nat) (RR : World → WayD → Value → Value → Prop) (Q : Exit → Act → World → Prop) (ops : Array Oper) (hops : Hid (ops = opsRB)) (hpan : ∀ c a1 a2 w, Q (.panic c) a1 w → Q (.panic c) a2 w)
    (hk0 : (0 : Int) ≤ (k : Int)) (hkn : (k : Int) < (n : Int)) (hkm : (k : Int) < (m : Int))
    (hS : (fun W => W.cell? ⟨g, k, none⟩ = some wv ∧ W.cell? ⟨b, off + k, none⟩ = some (.int .i64 area)) W0)
    (d0 : W0.cell? ⟨z, 0, none⟩ = some (.int .i64 x.to)) (d1 : W0.cell? ⟨z, 1, none⟩ = some (.int .i64 x.cost)) (d2 : W0.cell? ⟨z, 2, none⟩ = some (.slice xa xl xc))
    (hgz : g ≠ z) (hbz : b ≠ z)
    (HT : Hid (Calls Tryz.prog 206 #[rv, wv, .int .i64 area, .int .i64 src, .int .i64 to, .agg #[.int .i64 x.to, .int .i64 x.cost, .slice xa xl xc], fv0] W0 fun e w' => ∃ (q : WayD) (ua : Option Addr) (ul uc : Nat) (fv : Value), e = .returned (.tuple #[.agg #[.int .i64 q.to, .int .i64 q.cost, .slice ua ul uc], fv]) ∧ RR w' q (.slice ua ul uc) fv))
    (hSR : ∀ W q u fv, RR W q u fv → (fun W => W.cell? ⟨g, k, none⟩ = some wv ∧ W.cell? ⟨b, off + k, none⟩ = some (.int .i64 area)) W)
    (hcell : ∀ W q u fv, RR W q u fv → ∃ y0 y1 y2, W.cell? ⟨z, 0, none⟩ = some y0 ∧ W.cell? ⟨z, 1, none⟩ = some y1 ∧ W.cell? ⟨z, 2, none⟩ = some y2)
    (hfz : ∀ W q u fv, RR W q u fv → ∀ j, W.frozen? ⟨z, j, none⟩ = false)
    (hend : ∀ (W : World) (q : WayD) ua ul uc fv, RR W q (.slice ua ul uc) fv → Q .normal { tmps := #[rv, .slice (some ⟨b, off, none⟩) m acap, t2, .int .i64 src, t4, t5, t6, t7, t8, t9, t10, .slice (some ⟨g, 0, none⟩) n cap, t12, .int .i64 to, t14, t15, .pointer (some ⟨z, 0, none⟩), fv, .int .i64 (k : Int), t19, t20, t21, t22, t23, t24, t25, t26, t27, t28, t29, t30, t31, t32, t33, t34, t35, t36, t37, t38, t39, t40, t41, t42, t43, t44, t45, t46, t47, t48, t49, t50, t51, t52, t53, t54, t55, t56, t57, t58, t59, t60, t61, t62, t63, t64, t65, t66, t67, t68, t69, t70, .tuple #[.agg #[.int .i64 q.to, .int .i64 q.cost, .slice ua ul uc], fv], rv, .slice (some ⟨g, 0, none⟩) n cap, .int .i64 (k : Int), .pointer (some ⟨g, k, none⟩), wv, .slice (some ⟨b, off, none⟩) m acap, .int .i64 (k : Int), .pointer (some ⟨b, off + k, none⟩), .int .i64 area, .int .i64 src, .int .i64 to, .agg #[.int .i64 x.to, .int .i64 x.cost, .slice xa xl xc], fv0, .tuple #[.agg #[.int .i64 q.to, .int .i64 q.cost, .slice ua ul uc], fv], .agg #[.int .i64 q.to, .int .i64 q.cost, .slice ua ul uc], fv, t88, t89, t90, t91, t92, t93], defers := [] } (putW3 W z q (.slice ua ul uc))) :
    wpAnyH Tryz.prog .any ops Q (fun W => W.cell? ⟨g, k, none⟩ = some wv ∧ W.cell? ⟨b, off + k, none⟩ = some (.int .i64 area)) 19 (Array.replicate 19 false) { tmps := #[rv, .slice (some ⟨b, off, none⟩) m acap, t2, .int .i64 src, t4, t5, t6, t7, t8, t9, t10, .slice (some ⟨g, 0, none⟩) n cap, t12, .int .i64 to, t14, t15, .pointer (some ⟨z, 0, none⟩), fv0, .int .i64 (k : Int), t19, t20, t21, t22, t23, t24, t25, t26, t27, t28, t29, t30, t31, t32, t33, t34, t35, t36, t37, t38, t39, t40, t41, t42, t43, t44, t45, t46, t47, t48, t49, t50, t51, t52, t53, t54, t55, t56, t57, t58, t59, t60, t61, t62, t63, t64, t65, t66, t67, t68, t69, t70, t71, t72, t73, t74, t75, t76, t77, t78, t79, t80, t81, t82, t83, t84, t85, t86, t87, t88, t89, t90, t91, t92, t93], defers := [] } W0 := by
  have h13 : ∀ W (q : WayD) ua ul uc fv, RR W q (.slice ua ul uc) fv → wpAnyH Tryz.prog .any ops Q (fun W => W.cell? ⟨g, k, none⟩ = some wv ∧ W.cell? ⟨b, off + k, none⟩ = some (.int .i64 area)) 5 #[true, true, true, true, true, true, true, true, true, true, true, true, true, true, false, false, false, false, false] { tmps := #[rv, .slice (some ⟨b, off, none⟩) m acap, t2, .int .i64 src, t4, t5, t6, t7, t8, t9, t10, .slice (some ⟨g, 0, none⟩) n cap, t12, .int .i64 to, t14, t15, .pointer (some ⟨z, 0, none⟩), fv0, .int .i64 (k : Int), t19, t20, t21, t22, t23, t24, t25, t26, t27, t28, t29, t30, t31, t32, t33, t34, t35, t36, t37, t38, t39, t40, t41, t42, t43, t44, t45, t46, t47, t48, t49, t50, t51, t52, t53, t54, t55, t56, t57, t58, t59, t60, t61, t62, t63, t64, t65, t66, t67, t68, t69, t70, t71, rv, .slice (some ⟨g, 0, none⟩) n cap, .int .i64 (k : Int), .pointer (some ⟨g, k, none⟩), wv, .slice (some ⟨b, off, none⟩) m acap, .int .i64 (k : Int), .pointer (some ⟨b, off + k, none⟩), .int .i64 area, .int .i64 src, .int .i64 to, .agg #[.int .i64 x.to, .int .i64 x.cost, .slice xa xl xc], fv0, .tuple #[.agg #[.int .i64 q.to, .int .i64 q.cost, .slice ua ul uc], fv], t86, t87, t88, t89, t90, t91, t92, t93], defers := [] } W := by
    intro W q ua ul uc fv hr
    have hS := hSR W _ _ _ hr
    obtain ⟨y0, y1, y2, f0, f1, f2⟩ := hcell W _ _ _ hr
    have fz := hfz W _ _ _ hr
    refine take_do 14 (oi := ?_) (v := ?_) ?_ (by rw [hops.out]; kernel_rfl) ?_ ?_ ?_ hS ?_
    rotate_left 2
    · rw [hops.out]; unfold opsRB; simp only [List.getElem?_toArray, List.getElem?_cons_succ, List.getElem?_cons_zero]; rfl
    · rw [hops.out]; kernel_rfl
    · intro W hW; obtain ⟨g1, g2⟩ := hW; go_simp <;> with_reducible rfl
    · exact fun c _ w h => hpan c _ _ w h
    try simp only [Act.put, List.setIfInBounds_toArray, List.set_cons_zero, List.set_cons_succ]
    refine take_do 15 (oi := ?_) (v := ?_) ?_ (by rw [hops.out]; kernel_rfl) ?_ ?_ ?_ hS ?_
    rotate_left 2
    · rw [hops.out]; unfold opsRB; simp only [List.getElem?_toArray, List.getElem?_cons_succ, List.getElem?_cons_zero]; rfl
    · rw [hops.out]; kernel_rfl
    · intro W hW; obtain ⟨g1, g2⟩ := hW; go_simp <;> with_reducible rfl
    · exact fun c _ w h => hpan c _ _ w h
    try simp only [Act.put, List.setIfInBounds_toArray, List.set_cons_zero, List.set_cons_succ]
    refine take_do 16 (oi := ?_) (v := ?_) ?_ (by rw [hops.out]; kernel_rfl) ?_ ?_ ?_ hS ?_
    rotate_left 2
    · rw [hops.out]; unfold opsRB; simp only [List.getElem?_toArray, List.getElem?_cons_succ, List.getElem?_cons_zero]; rfl
    · rw [hops.out]; kernel_rfl
    · intro W hW; obtain ⟨g1, g2⟩ := hW; go_simp <;> with_reducible rfl
    · exact fun c _ w h => hpan c _ _ w h
    try simp only [Act.put, List.setIfInBounds_toArray, List.set_cons_zero, List.set_cons_succ]
    refine wpAnyH_ready (rs := [17]) (by rw [hops.out]; kernel_rfl) (by simp) ?_
    refine AllReadyH.cons (o := ?_) ?_ (fun K hK => ?_) ?_
    rotate_left 1
    · rw [hops.out]; unfold opsRB; simp only [List.getElem?_toArray, List.getElem?_cons_succ, List.getElem?_cons_zero]; rfl
    · rw [if_pos (by rfl)]
      go_simp
      have hS2 : (fun W => W.cell? ⟨g, k, none⟩ = some wv ∧ W.cell? ⟨b, off + k, none⟩ = some (.int .i64 area)) (putW3 W z q (.slice ua ul uc)) := by
        refine ⟨?_, ?_⟩
        · show (putW3 W z q (.slice ua ul uc)).cell? _ = _
          rw [putW3_cell W z q _ _ _ hgz]; exact hS.1
        · show (putW3 W z q (.slice ua ul uc)).cell? _ = _
          rw [putW3_cell W z q _ _ _ hbz]; exact hS.2
      refine hK.out _ _ hS2 (fun _ => ?_)
      refine wpAnyH_ready (rs := [18]) (by rw [hops.out]; kernel_rfl) (by simp) ?_
      refine AllReadyH.cons (o := ?_) ?_ (fun K hK => ?_) ?_
      rotate_left 1
      · rw [hops.out]; unfold opsRB; simp only [List.getElem?_toArray, List.getElem?_cons_succ, List.getElem?_cons_zero]; rfl
      · rw [if_pos (by rfl)]
        go_simp
        refine hK.out _ _ hS2 (fun _ => ?_)
        refine wpAnyH_done (by rw [hops.out]; kernel_rfl) ?_ _
        exact hend W q ua ul uc fv hr
      exact AllReadyH.nil
    exact AllReadyH.nil
  have h11 : wpAnyH Tryz.prog .any ops Q (fun W => W.cell? ⟨g, k, none⟩ = some wv ∧ W.cell? ⟨b, off + k, none⟩ = some (.int .i64 area)) 6 #[true, true, true, true, true, true, true, true, true, true, true, true, true, false, false, false, false, false, false] { tmps := #[rv, .slice (some ⟨b, off, none⟩) m acap, t2, .int .i64 src, t4, t5, t6, t7, t8, t9, t10, .slice (some ⟨g, 0, none⟩) n cap, t12, .int .i64 to, t14, t15, .pointer (some ⟨z, 0, none⟩), fv0, .int .i64 (k : Int), t19, t20, t21, t22, t23, t24, t25, t26, t27, t28, t29, t30, t31, t32, t33, t34, t35, t36, t37, t38, t39, t40, t41, t42, t43, t44, t45, t46, t47, t48, t49, t50, t51, t52, t53, t54, t55, t56, t57, t58, t59, t60, t61, t62, t63, t64, t65, t66, t67, t68, t69, t70, t71, rv, .slice (some ⟨g, 0, none⟩) n cap, .int .i64 (k : Int), .pointer (some ⟨g, k, none⟩), wv, .slice (some ⟨b, off, none⟩) m acap, .int .i64 (k : Int), .pointer (some ⟨b, off + k, none⟩), .int .i64 area, .int .i64 src, .int .i64 to, .agg #[.int .i64 x.to, .int .i64 x.cost, .slice xa xl xc], fv0, t85, t86, t87, t88, t89, t90, t91, t92, t93], defers := [] } W0 := by
    refine wpAnyH_ready (rs := [13]) (by rw [hops.out]; kernel_rfl) (by simp) ?_
    refine AllReadyH.cons (o := ?_) ?_ (fun K hK => ?_) ?_
    rotate_left 1
    · rw [hops.out]; unfold opsRB; simp only [List.getElem?_toArray, List.getElem?_cons_succ, List.getElem?_cons_zero]; rfl
    · rw [if_pos (by rfl)]
      go_simp
      refine HT.out.mono ?_
      rintro e w2 ⟨q, ua, ul, uc, fv, rfl, hr⟩
      refine hK.out _ _ (hSR w2 _ _ _ hr) (fun _ => ?_)
      exact h13 w2 q ua ul uc fv hr
    exact AllReadyH.nil
  show wpAnyH Tryz.prog .any ops Q (fun W => W.cell? ⟨g, k, none⟩ = some wv ∧ W.cell? ⟨b, off + k, none⟩ = some (.int .i64 area)) 19 #[false, false, false, false, false, false, false, false, false, false, false, false, false, false, false, false, false, false, false] _ W0
  refine take_do 0 (oi := ?_) (v := ?_) ?_ (by rw [hops.out]; kernel_rfl) ?_ ?_ ?_ hS ?_
  rotate_left 2
  · rw [hops.out]; unfold opsRB; simp only [List.getElem?_toArray, List.getElem?_cons_succ, List.getElem?_cons_zero]; rfl
  · rw [hops.out]; kernel_rfl
  · intro W hW; obtain ⟨g1, g2⟩ := hW; go_simp <;> with_reducible rfl
  · exact fun c _ w h => hpan c _ _ w h
  try simp only [Act.put, List.setIfInBounds_toArray, List.set_cons_zero, List.set_cons_succ]
  refine take_do 1 (oi := ?_) (v := ?_) ?_ (by rw [hops.out]; kernel_rfl) ?_ ?_ ?_ hS ?_
  rotate_left 2
  · rw [hops.out]; unfold opsRB; simp only [List.getElem?_toArray, List.getElem?_cons_succ, List.getElem?_cons_zero]; rfl
  · rw [hops.out]; kernel_rfl
  · intro W hW; obtain ⟨g1, g2⟩ := hW; go_simp <;> with_reducible rfl
  · exact fun c _ w h => hpan c _ _ w h
  try simp only [Act.put, List.setIfInBounds_toArray, List.set_cons_zero, List.set_cons_succ]
  refine take_do 2 (oi := ?_) (v := ?_) ?_ (by rw [hops.out]; kernel_rfl) ?_ ?_ ?_ hS ?_
  rotate_left 2
  · rw [hops.out]; unfold opsRB; simp only [List.getElem?_toArray, List.getElem?_cons_succ, List.getElem?_cons_zero]; rfl
  · rw [hops.out]; kernel_rfl
  · intro W hW; obtain ⟨g1, g2⟩ := hW; go_simp <;> with_reducible rfl
  · exact fun c _ w h => hpan c _ _ w h
  try simp only [Act.put, List.setIfInBounds_toArray, List.set_cons_zero, List.set_cons_succ]
  refine take_do 3 (oi := ?_) (v := ?_) ?_ (by rw [hops.out]; kernel_rfl) ?_ ?_ ?_ hS ?_
  rotate_left 2
  · rw [hops.out]; unfold opsRB; simp only [List.getElem?_toArray, List.getElem?_cons_succ, List.getElem?_cons_zero]; rfl
  · rw [hops.out]; kernel_rfl
  · intro W hW; obtain ⟨g1, g2⟩ := hW; go_simp <;> with_reducible rfl
  · exact fun c _ w h => hpan c _ _ w h
  try simp only [Act.put, List.setIfInBounds_toArray, List.set_cons_zero, List.set_cons_succ]
  refine take_do 4 (oi := ?_) (v := ?_) ?_ (by rw [hops.out]; kernel_rfl) ?_ ?_ ?_ hS ?_
  rotate_left 2
  · rw [hops.out]; unfold opsRB; simp only [List.getElem?_toArray, List.getElem?_cons_succ, List.getElem?_cons_zero]; rfl
  · rw [hops.out]; kernel_rfl
  · intro W hW; obtain ⟨g1, g2⟩ := hW; go_simp <;> with_reducible rfl
  · exact fun c _ w h => hpan c _ _ w h
  try simp only [Act.put, List.setIfInBounds_toArray, List.set_cons_zero, List.set_cons_succ]
  refine take_do 5 (oi := ?_) (v := ?_) ?_ (by rw [hops.out]; kernel_rfl) ?_ ?_ ?_ hS ?_
  rotate_left 2
  · rw [hops.out]; unfold opsRB; simp only [List.getElem?_toArray, List.getElem?_cons_succ, List.getElem?_cons_zero]; rfl
  · rw [hops.out]; kernel_rfl
  · intro W hW; obtain ⟨g1, g2⟩ := hW; go_simp <;> with_reducible rfl
  · exact fun c _ w h => hpan c _ _ w h
  try simp only [Act.put, List.setIfInBounds_toArray, List.set_cons_zero, List.set_cons_succ]
  refine take_do 6 (oi := ?_) (v := ?_) ?_ (by rw [hops.out]; kernel_rfl) ?_ ?_ ?_ hS ?_
  rotate_left 2
  · rw [hops.out]; unfold opsRB; simp only [List.getElem?_toArray, List.getElem?_cons_succ, List.getElem?_cons_zero]; rfl
  · rw [hops.out]; kernel_rfl
  · intro W hW; obtain ⟨g1, g2⟩ := hW; go_simp <;> with_reducible rfl
  · exact fun c _ w h => hpan c _ _ w h
  try simp only [Act.put, List.setIfInBounds_toArray, List.set_cons_zero, List.set_cons_succ]
  refine take_do 7 (oi := ?_) (v := ?_) ?_ (by rw [hops.out]; kernel_rfl) ?_ ?_ ?_ hS ?_
  rotate_left 2
  · rw [hops.out]; unfold opsRB; simp only [List.getElem?_toArray, List.getElem?_cons_succ, List.getElem?_cons_zero]; rfl
  · rw [hops.out]; kernel_rfl
  · intro W hW; obtain ⟨g1, g2⟩ := hW; go_simp <;> with_reducible rfl
  · exact fun c _ w h => hpan c _ _ w h
  try simp only [Act.put, List.setIfInBounds_toArray, List.set_cons_zero, List.set_cons_succ]
  refine take_do 8 (oi := ?_) (v := ?_) ?_ (by rw [hops.out]; kernel_rfl) ?_ ?_ ?_ hS ?_
  rotate_left 2
  · rw [hops.out]; unfold opsRB; simp only [List.getElem?_toArray, List.getElem?_cons_succ, List.getElem?_cons_zero]; rfl
  · rw [hops.out]; kernel_rfl
  · intro W hW; obtain ⟨g1, g2⟩ := hW; go_simp <;> with_reducible rfl
  · exact fun c _ w h => hpan c _ _ w h
  try simp only [Act.put, List.setIfInBounds_toArray, List.set_cons_zero, List.set_cons_succ]
  refine take_do 9 (oi := ?_) (v := ?_) ?_ (by rw [hops.out]; kernel_rfl) ?_ ?_ ?_ hS ?_
  rotate_left 2
  · rw [hops.out]; unfold opsRB; simp only [List.getElem?_toArray, List.getElem?_cons_succ, List.getElem?_cons_zero]; rfl
  · rw [hops.out]; kernel_rfl
  · intro W hW; obtain ⟨g1, g2⟩ := hW; go_simp <;> with_reducible rfl
  · exact fun c _ w h => hpan c _ _ w h
  try simp only [Act.put, List.setIfInBounds_toArray, List.set_cons_zero, List.set_cons_succ]
  refine take_do 10 (oi := ?_) (v := ?_) ?_ (by rw [hops.out]; kernel_rfl) ?_ ?_ ?_ hS ?_
  rotate_left 2
  · rw [hops.out]; unfold opsRB; simp only [List.getElem?_toArray, List.getElem?_cons_succ, List.getElem?_cons_zero]; rfl
  · rw [hops.out]; kernel_rfl
  · intro W hW; obtain ⟨g1, g2⟩ := hW; go_simp <;> with_reducible rfl
  · exact fun c _ w h => hpan c _ _ w h
  try simp only [Act.put, List.setIfInBounds_toArray, List.set_cons_zero, List.set_cons_succ]
  refine take_do 12 (oi := ?_) (v := ?_) ?_ (by rw [hops.out]; kernel_rfl) ?_ ?_ ?_ hS ?_
  rotate_left 2
  · rw [hops.out]; unfold opsRB; simp only [List.getElem?_toArray, List.getElem?_cons_succ, List.getElem?_cons_zero]; rfl
  · rw [hops.out]; kernel_rfl
  · intro W hW; obtain ⟨g1, g2⟩ := hW; go_simp <;> with_reducible rfl
  · exact fun c _ w h => hpan c _ _ w h
  try simp only [Act.put, List.setIfInBounds_toArray, List.set_cons_zero, List.set_cons_succ]
  refine wpAnyH_ready (rs := [11]) (by rw [hops.out]; kernel_rfl) (by simp) ?_
  refine AllReadyH.cons (o := ?_) ?_ (fun K hK => ?_) ?_
  rotate_left 1
  · rw [hops.out]; unfold opsRB; simp only [List.getElem?_toArray, List.getElem?_cons_succ, List.getElem?_cons_zero]; rfl
  · rw [if_pos (by rfl)]
    go_simp
    refine hK.out _ _ hS (fun _ => ?_)
    exact h11
  exact AllReadyH.nil
end Go.Proofs.YtdaigojpeofmpaaGreat
namespace Go.Proofs.YtdaigojpeofmpaaGreat
open Go.RowKit

theorem encW_one (x : WayD) (a : Option Addr) (n c : Nat) : ∀ u ∈ encW (x, .slice a n c), u.oneCell' = true := by
  intro u hu
  simp only [encW, List.mem_cons, List.not_mem_nil, or_false] at hu
  rcases hu with rfl | rfl | rfl <;> rfl

theorem hop_row_ne {W : World} {lo lo2 hi n size2 : Nat} {v : Value} {xs : List Value} {q : WP} (hq : HopOwn W lo hi q) (hr : W.ownsRow lo2 73 size2 v n xs) (j : Nat) (hj : q.2.ownBlock = some j) : some j ≠ v.ownBlock := by
  intro e
  rcases hr.2 with ⟨h0, _⟩ | ⟨g, cap, cur, hv, _, hh, _⟩
  · rw [h0] at e; simp [Value.ownBlock] at e
  · rw [hv] at e
    simp [Value.ownBlock] at e
    subst e
    exact own_type_ne2 hq.1 hh (by decide) hj.symm

/-- one more way, its row behind all that was there -/
theorem WaysOwn.push {W Wa W2 : World} {lo : Nat} {v v' : Value} {qs : List WP} {p : WP} (h : WaysOwn W lo W.heap.size v qs) (hb : Below W.heap.size W Wa) (hlo : lo ≤ W.heap.size) (hp : HopOwn Wa W.heap.size Wa.heap.size p)
    (row : W2.ownsRow lo 73 3 v' (qs.length + 1) (flat encW (qs ++ [p]))) (hg : Wa.grownBy W2 v.ownBlock) : WaysOwn W2 lo W2.heap.size v' (qs ++ [p]) where
  row := by simpa using row
  top := fun k hk => (row.lt k hk).2
  apart := apartW_add h.apart h.nears (fun k hk => (hp.1.lt k hk).1)
  nears := by
    have rowa := owns_below h.row hb (Nat.le_refl _)
    have key : ∀ q, HopOwn Wa lo Wa.heap.size q → HopOwn W2 lo W2.heap.size q := fun q hq =>
      ⟨owns_keepB hq.1 (fun j hj => hg.block j (hq.2 j hj) (hop_row_ne hq rowa j hj)), fun k hk => Nat.lt_of_lt_of_le (hq.2 k hk) hg.size⟩
    intro q hq
    rcases List.mem_append.1 hq with h1 | h1
    · exact key q (((h.nears q h1).keep (W' := Wa) (fun j _ h2 _ => hb.block j h2)).wide (Nat.le_refl _) hb.size)
    · have : q = p := by simpa using h1
      subst this
      exact key q (hp.wide hlo (Nat.le_refl _))
end Go.Proofs.YtdaigojpeofmpaaGreat
namespace Go.Proofs.YtdaigojpeofmpaaGreat
open Go.RowKit

theorem append_struct6 {α : Type} {enc : α → List Value} {sz bytes : Nat} (hlen : ∀ a, (enc a).length = sz) (hpos : 0 < sz) (hbb : bytes ≤ 100) {P : Program} (w : World) {ops : Array Oper} {rest : List Oper} {o : Oper} {a : Act} {Q : Exit → Act → World → Prop} (hgd : o.guard = none) (s x : Operand) (t : TypeId)
    (ho : o.op = .call { callee := .builtin .append, args := #[s, x], argTypes := #[t, t] }) (base : Nat) (e : TypeId) (ht : P.underlying t = some (.slice e)) (zv : Value) (hzv : zv.cells.size = sz)
    (hinfo : (P.info? e).map (fun i => (i.zero, i.size, i.bytes)) = some (some zv, sz, bytes))
    (v : Value) (l : List α) (y : α) (hone : ∀ u ∈ enc y, u.oneCell' = true) (hs : a.eval s = v) (hown : w.ownsRow base e sz v l.length (flat enc l))
    (ad : Addr) (c : Nat) (hx : a.eval x = .slice (some ad) 1 c) (hnews : ∀ j u, (enc y)[j]? = some u → w.cell? (ad.add j) = some u)
    (hl : l.length + 1 ≤ 1000000000) (hbase : base ≤ w.heap.size)
    (h : ∀ v' w', w'.ownsRow base e sz v' (l ++ [y]).length (flat enc (l ++ [y])) → w.grownBy w' v.ownBlock → (v'.ownBlock = v.ownBlock ∨ v'.ownBlock = some w.heap.size) → wpList P ops Q rest (a.put o.dst v') w') : wpList P ops Q (o :: rest) a w := by
  obtain ⟨i0, hi, hz0, hz1, hz2⟩ := info_parts hinfo
  refine wpList_append_own_at w hgd s x t ho base e i0 zv sz bytes ht hi hz0 hz1 hz2 hzv hpos v l.length (flat enc l) hs hown ad 1 c (enc y) hx (by rw [hlen]; omega) hnews hone (by unfold maxLen; omega) ?_ hbase ?_
  · have : (l.length + 1) * bytes ≤ 1000000000 * 100 := Nat.mul_le_mul hl hbb
    omega
  · intro v' w' h1 h2 _ h4
    have e1 : flat enc l ++ enc y = flat enc (l ++ [y]) := by rw [flat_append]; simp [flat]
    rw [e1] at h1
    exact h v' w' (by simpa using h1) h2 h4
end Go.Proofs.YtdaigojpeofmpaaGreat
