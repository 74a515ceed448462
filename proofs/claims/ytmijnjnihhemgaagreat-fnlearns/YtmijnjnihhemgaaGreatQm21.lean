/-
  What a border tells into an area: the records, determined by the sets of ways.
  The drawn region of spec.RoutesBeyond, in every order.
  One way more at the end of a list of the caller's own.
  append of one struct, with word on the block of what comes out.
  spec.WaysIn: the region that puts a way to the answer.
  Rows of lists of ways.
-/
import Derived.Test.YtmijnjnihhemgaaGreatQm20
import Derived.Test.YtmijnjnihhemgaaGreatQm16
import Derived.Test.YtmijnjnihhemgaaGreatQm3
import Derived.Test.YtmijnjnihhemgaaGreatQm10
import Derived.Test.YtmijnjnihhemgaaGreatQm6
import Derived.Maps.AppendAt
import Derived.Test.YtmijnjnihhemgaaGreatQm19
namespace Go.Proofs.YtmijnjnihhemgaaGreat
open Go.RowKit
set_option linter.unusedSimpArgs false
set_option linter.unusedVariables false
set_option maxRecDepth 100000
set_option maxHeartbeats 8000000
def notNear (xs : List RecD) (area src to : Int) : Prop := ∀ d, d ∈ waysD xs area src → d.to ≠ to
def tellR (area src to c : Int) : RecD := ⟨area, 2, src, to, 0, [], c, false⟩
def toldTo (xs : List RecD) (al : List Int) (src area to c : Int) : Prop := notNear xs area src to ∧ to ≠ src ∧
 ((∃ w, BestOf to (withinS xs al src to) (some w) ∧ c = w.cost) ∨ (area ≠ 0 ∧ ∃ w, BestOf to (beyondS xs al true src to) (some w) ∧ c = w.cost))
def IsTold (xs : List RecD) (al : List Int) (src area : Int) (ds : List RecD) : Prop := Asc ds ∧ ∀ r, r ∈ ds ↔ ∃ to c, r = tellR area src to c ∧ toldTo xs al src area to c
theorem asc_extR : ∀ {a b : List RecD}, Asc a → Asc b → (∀ x, x ∈ a ↔ x ∈ b) → a = b
 | [], [], _, _, _ => rfl
 | [], y :: ys, _, _, h => by have := (h y).2 (by simp); cases this
 | x :: xs, [], _, _, h => by have := (h x).1 (by simp); cases this
 | x :: xs, y :: ys, ha, hb, h => by
  have ha' := List.pairwise_cons.1 ha
  have hb' := List.pairwise_cons.1 hb
  have irr : ∀ z : RecD, beforeB z z = true → False := fun z hz => by
   have := (bef_irrefl_same (x := z) (y := z) (by simp [sameKeyB])).1
   rw [this] at hz; cases hz
  have hxy : x = y := by
   have h1 := (h x).1 (by simp)
   have h2 := (h y).2 (by simp)
   rcases List.mem_cons.1 h1 with e | e
   ·exact e
   ·rcases List.mem_cons.1 h2 with e2 | e2
    ·exact e2.symm
    ·exact (irr x (bef_trans (ha'.1 y e2) (hb'.1 x e))).elim
  subst hxy
  have : xs = ys := by
   refine asc_extR ha'.2 hb'.2 (fun z => ?_)
   have hz := h z
   constructor
   ·intro hm
    have h1 := hz.1 (List.mem_cons_of_mem _ hm)
    rcases List.mem_cons.1 h1 with e | e
    ·have := ha'.1 z hm; subst e; exact (irr z this).elim
    ·exact e
   ·intro hm
    have h1 := hz.2 (List.mem_cons_of_mem _ hm)
    rcases List.mem_cons.1 h1 with e | e
    ·have := hb'.1 z hm; subst e; exact (irr z this).elim
    ·exact e
  rw [this]
theorem IsTold.unique {xs : List RecD} {al : List Int} {src area : Int} {a b : List RecD} (ha : IsTold xs al src area a) (hb : IsTold xs al src area b) : a = b :=
 asc_extR ha.1 hb.1 (fun r => by rw [ha.2, hb.2])
theorem best_good {to : Int} {S : WayD → Prop} {w : WayD} (h : BestOf to S (some w)) (hS : ∀ d, S d → GoodW d ∧ d.to = to) : GoodW w ∧ w.to = to := ⟨h.good hS, h.1⟩
theorem toldTo_node {xs : List RecD} {al : List Int} {src area to c : Int} (h : toldTo xs al src area to c) : 1 ≤ to ∧ to ≤ 6 := by
 obtain ⟨_, _, ⟨w, h1, _⟩ | ⟨_, w, h1, _⟩⟩ := h
 ·have hg := best_good h1 (fun d h => withinS_good h)
  rw [← hg.2]; exact hg.1.node
 ·have hg := best_good h1 (fun d h => beyondS_good h)
  rw [← hg.2]; exact hg.1.node
theorem toldTo_cost {xs : List RecD} {al : List Int} {src area to c c' : Int} (h : toldTo xs al src area to c) (h' : toldTo xs al src area to c') : c = c' := by
 have hno : ∀ {w v : WayD}, BestOf to (withinS xs al src to) (some w) → BestOf to (beyondS xs al true src to) (some v) → False := by
  intro w v h1 h2
  obtain ⟨_, ⟨u, hu, _⟩, _⟩ := h1
  obtain ⟨_, ⟨u', hu', _⟩, _⟩ := h2
  exact hu'.1 u hu
 obtain ⟨_, _, ⟨w, h1, rfl⟩ | ⟨_, w, h1, rfl⟩⟩ := h
 ·obtain ⟨_, _, ⟨v, h2, rfl⟩ | ⟨_, v, h2, rfl⟩⟩ := h'
  ·have := h1.unique h2; cases this; rfl
  ·exact (hno h1 h2).elim
 ·obtain ⟨_, _, ⟨v, h2, rfl⟩ | ⟨_, v, h2, rfl⟩⟩ := h'
  ·exact (hno h2 h1).elim
  ·have := h1.unique h2; cases this; rfl
theorem tellR_before {area src a b c d : Int} : beforeB (tellR area src a c) (tellR area src b d) = decide (a < b) := by
 simp [beforeB, tellR]
 try exact decide_eq_decide.2 Iff.rfl
theorem IsTold.tot {xs : List RecD} {al : List Int} {src area : Int} {ds : List RecD} (h : IsTold xs al src area ds) : ds.length ≤ 6 ∧ ∀ r ∈ ds, r.near = [] := by
 constructor
 ·have h1 : (ds.map (·.key)).Pairwise (· < ·) := by
   rw [List.pairwise_map]
   refine List.Pairwise.imp_of_mem ?_ h.1
   intro a b ha hb hab
   obtain ⟨to, c, rfl, _⟩ := (h.2 a).1 ha
   obtain ⟨to', c', rfl, _⟩ := (h.2 b).1 hb
   rw [tellR_before] at hab
   exact of_decide_eq_true hab
  have h2 := asc6_len h1 (fun z hz => by
   obtain ⟨r, hr, rfl⟩ := List.mem_map.1 hz
   obtain ⟨to, c, rfl, ht⟩ := (h.2 r).1 hr
   exact toldTo_node ht)
  simpa using h2
 ·intro r hr
  obtain ⟨to, c, rfl, _⟩ := (h.2 r).1 hr
  rfl
theorem withinS_others {xs : List RecD} {al : List Int} {src area to : Int} (hn : notNear xs area src to) (d : WayD) : withinS xs (al.filter (fun a => a != area)) src to d ↔ withinS xs al src to d := by
 constructor
 ·rintro ⟨h1, a, h2, h3⟩
  exact ⟨h1, a, (List.mem_filter.1 h2).1, h3⟩
 ·rintro ⟨h1, a, h2, h3⟩
  refine ⟨h1, a, List.mem_filter.2 ⟨h2, ?_⟩, h3⟩
  have : a ≠ area := fun e => by subst e; exact hn d h3 h1
  simpa using this
theorem near_has (xs : List RecD) (area src to : Int) : (wayToB (waysD xs area src) to = true ∧ ¬ notNear xs area src to) ∨ (wayToB (waysD xs area src) to = false ∧ notNear xs area src to) := by
 rcases wayTo_find (waysD xs area src) to with ⟨h1, h2⟩ | ⟨h1, h2⟩
 ·have h3 := findW_some h2
  exact .inl ⟨h1, fun h => h _ h3.1 h3.2⟩
 ·exact .inr ⟨h1, fun d hd => findW_none h2 d hd⟩
theorem best_has {S : Int → WayD → Prop} {ds : List WayD} (h : IsBest S ds) (to : Int) : (wayToB ds to = true ∧ BestOf to (S to) (some (wayToD ds to))) ∨ (wayToB ds to = false ∧ ∀ d, ¬ S to d) := by
 have hb := h.2 to
 rcases wayTo_find ds to with ⟨h1, h2⟩ | ⟨h1, h2⟩
 ·rw [h2] at hb
  exact .inl ⟨h1, hb⟩
 ·rw [h2] at hb
  exact .inr ⟨h1, hb⟩
theorem not_best {to : Int} {S : WayD → Prop} {w : WayD} (h : ∀ d, ¬ S d) : ¬ BestOf to S (some w) := fun ⟨_, ⟨u, hu, _⟩, _⟩ => h u hu
def ToldBelow (xs : List RecD) (al : List Int) (src area : Int) (t : Int) (ds : List RecD) : Prop := Asc ds ∧ ∀ r, r ∈ ds ↔ ∃ to c, r = tellR area src to c ∧ to < t ∧ toldTo xs al src area to c
theorem ToldBelow.skip {xs : List RecD} {al : List Int} {src area t : Int} {ds : List RecD} (h : ToldBelow xs al src area t ds) (hn : ∀ c, ¬ toldTo xs al src area t c) : ToldBelow xs al src area (t + 1) ds := by
 refine ⟨h.1, fun r => ?_⟩
 rw [h.2]
 constructor
 ·rintro ⟨to, c, h1, h2, h3⟩
  exact ⟨to, c, h1, by omega, h3⟩
 ·rintro ⟨to, c, h1, h2, h3⟩
  refine ⟨to, c, h1, ?_, h3⟩
  by_cases e : to = t
  ·subst e; exact absurd h3 (hn c)
  ·omega
theorem ToldBelow.push {xs : List RecD} {al : List Int} {src area t c : Int} {ds : List RecD} (h : ToldBelow xs al src area t ds) (ht : toldTo xs al src area t c) : ToldBelow xs al src area (t + 1) (ds ++ [tellR area src t c]) := by
 refine ⟨?_, fun r => ?_⟩
 ·unfold Asc
  rw [List.pairwise_append]
  refine ⟨h.1, by simp, fun a ha b hb => ?_⟩
  have : b = tellR area src t c := by simpa using hb
  subst this
  obtain ⟨to, c', rfl, h2, _⟩ := (h.2 a).1 ha
  rw [tellR_before]
  simpa using h2
 ·rw [List.mem_append, h.2]
  constructor
  ·rintro (⟨to, c', h1, h2, h3⟩ | h1)
   ·exact ⟨to, c', h1, by omega, h3⟩
   ·exact ⟨t, c, by simpa using h1, by omega, ht⟩
  ·rintro ⟨to, c', h1, h2, h3⟩
   by_cases e : to = t
   ·subst e
    rw [toldTo_cost h3 ht] at h1
    exact .inr (by simpa using h1)
   ·exact .inl ⟨to, c', h1, by omega, h3⟩
theorem ToldBelow.all {xs : List RecD} {al : List Int} {src area : Int} {ds : List RecD} (h : ToldBelow xs al src area 7 ds) : IsTold xs al src area ds := by
 refine ⟨h.1, fun r => ?_⟩
 rw [h.2]
 constructor
 ·rintro ⟨to, c, h1, _, h3⟩
  exact ⟨to, c, h1, h3⟩
 ·rintro ⟨to, c, h1, h3⟩
  exact ⟨to, c, h1, by have := toldTo_node h3; omega, h3⟩
theorem ToldBelow.none {xs : List RecD} {al : List Int} {src area : Int} : ToldBelow xs al src area 1 [] := by
 refine ⟨List.Pairwise.nil, fun r => ?_⟩
 constructor
 ·intro h; cases h
 ·rintro ⟨to, c, _, h2, h3⟩
  have := toldTo_node h3
  omega
theorem ToldBelow.len {xs : List RecD} {al : List Int} {src area t : Int} {ds : List RecD} (h : ToldBelow xs al src area t ds) : ds.length ≤ 6 ∧ ∀ r ∈ ds, r.near = [] := by
 constructor
 ·have h1 : (ds.map (·.key)).Pairwise (· < ·) := by
   rw [List.pairwise_map]
   refine List.Pairwise.imp_of_mem ?_ h.1
   intro a b ha hb hab
   obtain ⟨to, c, rfl, _⟩ := (h.2 a).1 ha
   obtain ⟨to', c', rfl, _⟩ := (h.2 b).1 hb
   rw [tellR_before] at hab
   exact of_decide_eq_true hab
  have h2 := asc6_len h1 (fun z hz => by
   obtain ⟨r, hr, rfl⟩ := List.mem_map.1 hz
   obtain ⟨to, c, rfl, _, ht⟩ := (h.2 r).1 hr
   exact toldTo_node ht)
  simpa using h2
 ·intro r hr
  obtain ⟨to, c, rfl, _⟩ := (h.2 r).1 hr
  rfl
theorem told_store {xs : List RecD} {al : List Int} {src area to c : Int} (h : toldTo xs al src area to c) : storeB xs = true := by
 obtain ⟨_, _, ⟨w, ⟨_, ⟨u, hu, _⟩, _⟩, _⟩ | ⟨_, w, ⟨_, ⟨u, hu, _⟩, _⟩, _⟩⟩ := h
 ·obtain ⟨_, a, _, h3⟩ := hu
  exact (waysD_area h3).1
 ·obtain ⟨_, a, _, _, h3⟩ := hu
  exact (outS_area h3).1
def opsRB : Array Oper := #[{ dst := some 72, op := Op.move (Operand.tmp 0), type := 29, pos := "l07_route.go:75", after := #[], guard := none }, { dst := some 73, op := Op.move (Operand.tmp 11), type := 188, pos := "l07_route.go:75", after := #[], guard := none }, { dst := some 74, op := Op.move (Operand.tmp 18), type := 3, pos := "l07_route.go:75", after := #[], guard := none }, { dst := some 75, op := Op.indexAddr 188 (Operand.tmp 73) (Operand.tmp 74), type := 0, pos := "l07_route.go:75", after := #[{ on := 1, ground := Ground.data }, { on := 2, ground := Ground.data }], guard := none }, { dst := some 76, op := Op.load 70 (Operand.tmp 75), type := 70, pos := "l07_route.go:75", after := #[{ on := 3, ground := Ground.data }], guard := none }, { dst := some 77, op := Op.move (Operand.tmp 1), type := 28, pos := "l07_route.go:75", after := #[], guard := none }, { dst := some 78, op := Op.move (Operand.tmp 18), type := 3, pos := "l07_route.go:75", after := #[], guard := none }, { dst := some 79, op := Op.indexAddr 28 (Operand.tmp 77) (Operand.tmp 78), type := 0, pos := "l07_route.go:75", after := #[{ on := 5, ground := Ground.data }, { on := 6, ground := Ground.data }], guard := none }, { dst := some 80, op := Op.load 3 (Operand.tmp 79), type := 3, pos := "l07_route.go:75", after := #[{ on := 7, ground := Ground.data }], guard := none }, { dst := some 81, op := Op.move (Operand.tmp 3), type := 3, pos := "l07_route.go:75", after := #[], guard := none }, { dst := some 82, op := Op.move (Operand.tmp 13), type := 3, pos := "l07_route.go:75", after := #[], guard := none }, { dst := some 83, op := Op.load 77 (Operand.tmp 16), type := 77, pos := "l07_route.go:75", after := #[], guard := none }, { dst := some 84, op := Op.move (Operand.tmp 17), type := 4, pos := "l07_route.go:75", after := #[], guard := none }, { dst := some 85, op := Op.call { callee := Callee.value (Operand.func 185), args := #[Operand.tmp 72, Operand.tmp 76, Operand.tmp 80, Operand.tmp 81, Operand.tmp 82, Operand.tmp 83, Operand.tmp 84], argTypes := #[29, 70, 3, 3, 3, 77, 4] }, type := 78, pos := "l07_route.go:75", after := #[{ on := 0, ground := Ground.data }, { on := 4, ground := Ground.data }, { on := 8, ground := Ground.data }, { on := 9, ground := Ground.data }, { on := 10, ground := Ground.data }, { on := 11, ground := Ground.data }, { on := 12, ground := Ground.data }], guard := none }, { dst := some 71, op := Op.move (Operand.tmp 85), type := 78, pos := "l07_route.go:75", after := #[{ on := 13, ground := Ground.data }], guard := none }, { dst := some 86, op := Op.extract (Operand.tmp 71) 0, type := 77, pos := "l07_route.go:75", after := #[{ on := 14, ground := Ground.data }], guard := none }, { dst := some 87, op := Op.extract (Operand.tmp 71) 1, type := 4, pos := "l07_route.go:75", after := #[{ on := 14, ground := Ground.data }, { on := 17, ground := Ground.gcOnly Departure.lateStores }], guard := none }, { dst := none, op := Op.store 77 (Operand.tmp 16) (Operand.tmp 86), type := 0, pos := "l07_route.go:75", after := #[{ on := 15, ground := Ground.data }, { on := 13, ground := Ground.chain }, { on := 0, ground := Ground.phase }, { on := 1, ground := Ground.phase }, { on := 2, ground := Ground.phase }, { on := 3, ground := Ground.phase }, { on := 4, ground := Ground.phase }, { on := 5, ground := Ground.phase }, { on := 6, ground := Ground.phase }, { on := 7, ground := Ground.phase }, { on := 8, ground := Ground.phase }, { on := 9, ground := Ground.phase }, { on := 10, ground := Ground.phase }, { on := 11, ground := Ground.phase }, { on := 12, ground := Ground.phase }, { on := 13, ground := Ground.phase }, { on := 14, ground := Ground.phase }, { on := 15, ground := Ground.phase }, { on := 16, ground := Ground.textOnly Departure.lateStores }], guard := none }, { dst := some 17, op := Op.assign (Operand.tmp 87), type := 4, pos := "l07_route.go:75", after := #[{ on := 16, ground := Ground.data }, { on := 17, ground := Ground.chain }, { on := 0, ground := Ground.phase }, { on := 1, ground := Ground.phase }, { on := 2, ground := Ground.phase }, { on := 3, ground := Ground.phase }, { on := 4, ground := Ground.phase }, { on := 5, ground := Ground.phase }, { on := 6, ground := Ground.phase }, { on := 7, ground := Ground.phase }, { on := 8, ground := Ground.phase }, { on := 9, ground := Ground.phase }, { on := 10, ground := Ground.phase }, { on := 11, ground := Ground.phase }, { on := 12, ground := Ground.phase }, { on := 13, ground := Ground.phase }, { on := 14, ground := Ground.phase }, { on := 15, ground := Ground.phase }, { on := 16, ground := Ground.phase }, { on := 17, ground := Ground.phase }], guard := none }]
theorem putW3_cell (W : World) (z : Nat) (q : WayD) (u : Value) (b j : Nat) (h : b ≠ z) : (putW3 W z q u).cell? ⟨b, j, none⟩ = W.cell? ⟨b, j, none⟩ := by
 have e : (putW3 W z q u).heap[b]? = W.heap[b]? := by
  unfold putW3
  rw [heap_setCell_other _ ⟨z, 2, none⟩ _ _ h, heap_setCell_other _ ⟨z, 1, none⟩ _ _ h, heap_setCell_other _ ⟨z, 0, none⟩ _ _ h]
 simp only [World.cell?, e]
theorem bey_dag (t2 t4 t5 t6 t7 t8 t9 t10 t12 t14 t15 t19 t20 t21 t22 t23 t24 t25 t26 t27 t28 t29 t30 t31 t32 t33 t34 t35 t36 t37 t38 t39 t40 t41 t42 t43 t44 t45 t46 t47 t48 t49 t50 t51 t52 t53 t54 t55 t56 t57 t58 t59 t60 t61 t62 t63 t64 t65 t66 t67 t68 t69 t70 t71 t72 t73 t74 t75 t76 t77 t78 t79 t80 t81 t82 t83 t84 t85 t86 t87 t88 t89 t90 t91 t92 t93 : Value) (W0 : World) (rv wv fv0 : Value) (g n cap b off m acap z k : Nat) (area src to : Int) (x : WayD) (xa : Option Addr) (xl xc : Nat) (RR : World → WayD → Value → Value → Prop) (Q : Exit → Act → World → Prop) (ops : Array Oper) (hops : Hid (ops = opsRB)) (hpan : ∀ c a1 a2 w, Q (.panic c) a1 w → Q (.panic c) a2 w)
  (hk0 : (0 : Int) ≤ (k : Int)) (hkn : (k : Int) < (n : Int)) (hkm : (k : Int) < (m : Int))
  (hS : (fun W => W.cell? ⟨g, k, none⟩ = some wv ∧ W.cell? ⟨b, off + k, none⟩ = some (.int .i64 area)) W0)
  (d0 : W0.cell? ⟨z, 0, none⟩ = some (.int .i64 x.to)) (d1 : W0.cell? ⟨z, 1, none⟩ = some (.int .i64 x.cost)) (d2 : W0.cell? ⟨z, 2, none⟩ = some (.slice xa xl xc))
  (hgz : g ≠ z) (hbz : b ≠ z)
  (HT : Hid (Calls Tryz.prog 185 #[rv, wv, .int .i64 area, .int .i64 src, .int .i64 to, .agg #[.int .i64 x.to, .int .i64 x.cost, .slice xa xl xc], fv0] W0 fun e w' => ∃ (q : WayD) (ua : Option Addr) (ul uc : Nat) (fv : Value), e = .returned (.tuple #[.agg #[.int .i64 q.to, .int .i64 q.cost, .slice ua ul uc], fv]) ∧ RR w' q (.slice ua ul uc) fv))
  (hSR : ∀ W q u fv, RR W q u fv → (fun W => W.cell? ⟨g, k, none⟩ = some wv ∧ W.cell? ⟨b, off + k, none⟩ = some (.int .i64 area)) W)
  (hcell : ∀ W q u fv, RR W q u fv → ∃ y0 y1 y2, W.cell? ⟨z, 0, none⟩ = some y0 ∧ W.cell? ⟨z, 1, none⟩ = some y1 ∧ W.cell? ⟨z, 2, none⟩ = some y2)
  (hfz : ∀ W q u fv, RR W q u fv → ∀ j, W.frozen? ⟨z, j, none⟩ = false)
  (hend : ∀ (W : World) (q : WayD) ua ul uc fv, RR W q (.slice ua ul uc) fv → Q .normal { tmps := #[rv, .slice (some ⟨b, off, none⟩) m acap, t2, .int .i64 src, t4, t5, t6, t7, t8, t9, t10, .slice (some ⟨g, 0, none⟩) n cap, t12, .int .i64 to, t14, t15, .pointer (some ⟨z, 0, none⟩), fv, .int .i64 (k : Int), t19, t20, t21, t22, t23, t24, t25, t26, t27, t28, t29, t30, t31, t32, t33, t34, t35, t36, t37, t38, t39, t40, t41, t42, t43, t44, t45, t46, t47, t48, t49, t50, t51, t52, t53, t54, t55, t56, t57, t58, t59, t60, t61, t62, t63, t64, t65, t66, t67, t68, t69, t70, .tuple #[.agg #[.int .i64 q.to, .int .i64 q.cost, .slice ua ul uc], fv], rv, .slice (some ⟨g, 0, none⟩) n cap, .int .i64 (k : Int), .pointer (some ⟨g, k, none⟩), wv, .slice (some ⟨b, off, none⟩) m acap, .int .i64 (k : Int), .pointer (some ⟨b, off + k, none⟩), .int .i64 area, .int .i64 src, .int .i64 to, .agg #[.int .i64 x.to, .int .i64 x.cost, .slice xa xl xc], fv0, .tuple #[.agg #[.int .i64 q.to, .int .i64 q.cost, .slice ua ul uc], fv], .agg #[.int .i64 q.to, .int .i64 q.cost, .slice ua ul uc], fv, t88, t89, t90, t91, t92, t93], defers := [] } (putW3 W z q (.slice ua ul uc))) :
  wpAnyH Tryz.prog .any ops Q (fun W => W.cell? ⟨g, k, none⟩ = some wv ∧ W.cell? ⟨b, off + k, none⟩ = some (.int .i64 area)) 19 (Array.replicate 19 false) { tmps := #[rv, .slice (some ⟨b, off, none⟩) m acap, t2, .int .i64 src, t4, t5, t6, t7, t8, t9, t10, .slice (some ⟨g, 0, none⟩) n cap, t12, .int .i64 to, t14, t15, .pointer (some ⟨z, 0, none⟩), fv0, .int .i64 (k : Int), t19, t20, t21, t22, t23, t24, t25, t26, t27, t28, t29, t30, t31, t32, t33, t34, t35, t36, t37, t38, t39, t40, t41, t42, t43, t44, t45, t46, t47, t48, t49, t50, t51, t52, t53, t54, t55, t56, t57, t58, t59, t60, t61, t62, t63, t64, t65, t66, t67, t68, t69, t70, t71, t72, t73, t74, t75, t76, t77, t78, t79, t80, t81, t82, t83, t84, t85, t86, t87, t88, t89, t90, t91, t92, t93], defers := [] } W0 := by
 have h13 : ∀ W (q : WayD) ua ul uc fv, RR W q (.slice ua ul uc) fv → wpAnyH Tryz.prog .any ops Q (fun W => W.cell? ⟨g, k, none⟩ = some wv ∧ W.cell? ⟨b, off + k, none⟩ = some (.int .i64 area)) 5 #[true, true, true, true, true, true, true, true, true, true, true, true, true, true, false, false, false, false, false] { tmps := #[rv, .slice (some ⟨b, off, none⟩) m acap, t2, .int .i64 src, t4, t5, t6, t7, t8, t9, t10, .slice (some ⟨g, 0, none⟩) n cap, t12, .int .i64 to, t14, t15, .pointer (some ⟨z, 0, none⟩), fv0, .int .i64 (k : Int), t19, t20, t21, t22, t23, t24, t25, t26, t27, t28, t29, t30, t31, t32, t33, t34, t35, t36, t37, t38, t39, t40, t41, t42, t43, t44, t45, t46, t47, t48, t49, t50, t51, t52, t53, t54, t55, t56, t57, t58, t59, t60, t61, t62, t63, t64, t65, t66, t67, t68, t69, t70, t71, rv, .slice (some ⟨g, 0, none⟩) n cap, .int .i64 (k : Int), .pointer (some ⟨g, k, none⟩), wv, .slice (some ⟨b, off, none⟩) m acap, .int .i64 (k : Int), .pointer (some ⟨b, off + k, none⟩), .int .i64 area, .int .i64 src, .int .i64 to, .agg #[.int .i64 x.to, .int .i64 x.cost, .slice xa xl xc], fv0, .tuple #[.agg #[.int .i64 q.to, .int .i64 q.cost, .slice ua ul uc], fv], t86, t87, t88, t89, t90, t91, t92, t93], defers := [] } W := by
  intro W q ua ul uc fv hr
  have hS := hSR W _ _ _ hr
  obtain ⟨y0, y1, y2, f0, f1, f2⟩ := hcell W _ _ _ hr
  have fz := hfz W _ _ _ hr
  refine take_do 14 (oi := ?_) (v := ?_) ?_ (by rw [hops.out]; kernel_rfl) ?_ ?_ ?_ hS ?_
  rotate_left 2
  ·rw [hops.out]; unfold opsRB; simp only [getS]; rfl
  ·rw [hops.out]; kernel_rfl
  ·intro W hW; obtain ⟨g1, g2⟩ := hW; go_simp <;> with_reducible rfl
  ·exact fun c _ w h => hpan c _ _ w h
  try simp only [putS]
  refine take_do 15 (oi := ?_) (v := ?_) ?_ (by rw [hops.out]; kernel_rfl) ?_ ?_ ?_ hS ?_
  rotate_left 2
  ·rw [hops.out]; unfold opsRB; simp only [getS]; rfl
  ·rw [hops.out]; kernel_rfl
  ·intro W hW; obtain ⟨g1, g2⟩ := hW; go_simp <;> with_reducible rfl
  ·exact fun c _ w h => hpan c _ _ w h
  try simp only [putS]
  refine take_do 16 (oi := ?_) (v := ?_) ?_ (by rw [hops.out]; kernel_rfl) ?_ ?_ ?_ hS ?_
  rotate_left 2
  ·rw [hops.out]; unfold opsRB; simp only [getS]; rfl
  ·rw [hops.out]; kernel_rfl
  ·intro W hW; obtain ⟨g1, g2⟩ := hW; go_simp <;> with_reducible rfl
  ·exact fun c _ w h => hpan c _ _ w h
  try simp only [putS]
  refine wpAnyH_ready (rs := [17]) (by rw [hops.out]; kernel_rfl) (by simp) ?_
  refine AllReadyH.cons (o := ?_) ?_ (fun K hK => ?_) ?_
  rotate_left 1
  ·rw [hops.out]; unfold opsRB; simp only [getS]; rfl
  ·rw [if_pos (by rfl)]
   go_simp
   have hS2 : (fun W => W.cell? ⟨g, k, none⟩ = some wv ∧ W.cell? ⟨b, off + k, none⟩ = some (.int .i64 area)) (putW3 W z q (.slice ua ul uc)) := by
    refine ⟨?_, ?_⟩
    ·show (putW3 W z q (.slice ua ul uc)).cell? _ = _
     rw [putW3_cell W z q _ _ _ hgz]; exact hS.1
    ·show (putW3 W z q (.slice ua ul uc)).cell? _ = _
     rw [putW3_cell W z q _ _ _ hbz]; exact hS.2
   refine hK.out _ _ hS2 (fun _ => ?_)
   refine wpAnyH_ready (rs := [18]) (by rw [hops.out]; kernel_rfl) (by simp) ?_
   refine AllReadyH.cons (o := ?_) ?_ (fun K hK => ?_) ?_
   rotate_left 1
   ·rw [hops.out]; unfold opsRB; simp only [getS]; rfl
   ·rw [if_pos (by rfl)]
    go_simp
    refine hK.out _ _ hS2 (fun _ => ?_)
    refine wpAnyH_done (by rw [hops.out]; kernel_rfl) ?_ _
    exact hend W q ua ul uc fv hr
   exact AllReadyH.nil
  exact AllReadyH.nil
 have h11 : wpAnyH Tryz.prog .any ops Q (fun W => W.cell? ⟨g, k, none⟩ = some wv ∧ W.cell? ⟨b, off + k, none⟩ = some (.int .i64 area)) 6 #[true, true, true, true, true, true, true, true, true, true, true, true, true, false, false, false, false, false, false] { tmps := #[rv, .slice (some ⟨b, off, none⟩) m acap, t2, .int .i64 src, t4, t5, t6, t7, t8, t9, t10, .slice (some ⟨g, 0, none⟩) n cap, t12, .int .i64 to, t14, t15, .pointer (some ⟨z, 0, none⟩), fv0, .int .i64 (k : Int), t19, t20, t21, t22, t23, t24, t25, t26, t27, t28, t29, t30, t31, t32, t33, t34, t35, t36, t37, t38, t39, t40, t41, t42, t43, t44, t45, t46, t47, t48, t49, t50, t51, t52, t53, t54, t55, t56, t57, t58, t59, t60, t61, t62, t63, t64, t65, t66, t67, t68, t69, t70, t71, rv, .slice (some ⟨g, 0, none⟩) n cap, .int .i64 (k : Int), .pointer (some ⟨g, k, none⟩), wv, .slice (some ⟨b, off, none⟩) m acap, .int .i64 (k : Int), .pointer (some ⟨b, off + k, none⟩), .int .i64 area, .int .i64 src, .int .i64 to, .agg #[.int .i64 x.to, .int .i64 x.cost, .slice xa xl xc], fv0, t85, t86, t87, t88, t89, t90, t91, t92, t93], defers := [] } W0 := by
  refine wpAnyH_ready (rs := [13]) (by rw [hops.out]; kernel_rfl) (by simp) ?_
  refine AllReadyH.cons (o := ?_) ?_ (fun K hK => ?_) ?_
  rotate_left 1
  ·rw [hops.out]; unfold opsRB; simp only [getS]; rfl
  ·rw [if_pos (by rfl)]
   go_simp
   refine HT.out.mono ?_
   rintro e w2 ⟨q, ua, ul, uc, fv, rfl, hr⟩
   refine hK.out _ _ (hSR w2 _ _ _ hr) (fun _ => ?_)
   exact h13 w2 q ua ul uc fv hr
  exact AllReadyH.nil
 show wpAnyH Tryz.prog .any ops Q (fun W => W.cell? ⟨g, k, none⟩ = some wv ∧ W.cell? ⟨b, off + k, none⟩ = some (.int .i64 area)) 19 #[false, false, false, false, false, false, false, false, false, false, false, false, false, false, false, false, false, false, false] _ W0
 refine take_do 0 (oi := ?_) (v := ?_) ?_ (by rw [hops.out]; kernel_rfl) ?_ ?_ ?_ hS ?_
 rotate_left 2
 ·rw [hops.out]; unfold opsRB; simp only [getS]; rfl
 ·rw [hops.out]; kernel_rfl
 ·intro W hW; obtain ⟨g1, g2⟩ := hW; go_simp <;> with_reducible rfl
 ·exact fun c _ w h => hpan c _ _ w h
 try simp only [putS]
 refine take_do 1 (oi := ?_) (v := ?_) ?_ (by rw [hops.out]; kernel_rfl) ?_ ?_ ?_ hS ?_
 rotate_left 2
 ·rw [hops.out]; unfold opsRB; simp only [getS]; rfl
 ·rw [hops.out]; kernel_rfl
 ·intro W hW; obtain ⟨g1, g2⟩ := hW; go_simp <;> with_reducible rfl
 ·exact fun c _ w h => hpan c _ _ w h
 try simp only [putS]
 refine take_do 2 (oi := ?_) (v := ?_) ?_ (by rw [hops.out]; kernel_rfl) ?_ ?_ ?_ hS ?_
 rotate_left 2
 ·rw [hops.out]; unfold opsRB; simp only [getS]; rfl
 ·rw [hops.out]; kernel_rfl
 ·intro W hW; obtain ⟨g1, g2⟩ := hW; go_simp <;> with_reducible rfl
 ·exact fun c _ w h => hpan c _ _ w h
 try simp only [putS]
 refine take_do 3 (oi := ?_) (v := ?_) ?_ (by rw [hops.out]; kernel_rfl) ?_ ?_ ?_ hS ?_
 rotate_left 2
 ·rw [hops.out]; unfold opsRB; simp only [getS]; rfl
 ·rw [hops.out]; kernel_rfl
 ·intro W hW; obtain ⟨g1, g2⟩ := hW; go_simp <;> with_reducible rfl
 ·exact fun c _ w h => hpan c _ _ w h
 try simp only [putS]
 refine take_do 4 (oi := ?_) (v := ?_) ?_ (by rw [hops.out]; kernel_rfl) ?_ ?_ ?_ hS ?_
 rotate_left 2
 ·rw [hops.out]; unfold opsRB; simp only [getS]; rfl
 ·rw [hops.out]; kernel_rfl
 ·intro W hW; obtain ⟨g1, g2⟩ := hW; go_simp <;> with_reducible rfl
 ·exact fun c _ w h => hpan c _ _ w h
 try simp only [putS]
 refine take_do 5 (oi := ?_) (v := ?_) ?_ (by rw [hops.out]; kernel_rfl) ?_ ?_ ?_ hS ?_
 rotate_left 2
 ·rw [hops.out]; unfold opsRB; simp only [getS]; rfl
 ·rw [hops.out]; kernel_rfl
 ·intro W hW; obtain ⟨g1, g2⟩ := hW; go_simp <;> with_reducible rfl
 ·exact fun c _ w h => hpan c _ _ w h
 try simp only [putS]
 refine take_do 6 (oi := ?_) (v := ?_) ?_ (by rw [hops.out]; kernel_rfl) ?_ ?_ ?_ hS ?_
 rotate_left 2
 ·rw [hops.out]; unfold opsRB; simp only [getS]; rfl
 ·rw [hops.out]; kernel_rfl
 ·intro W hW; obtain ⟨g1, g2⟩ := hW; go_simp <;> with_reducible rfl
 ·exact fun c _ w h => hpan c _ _ w h
 try simp only [putS]
 refine take_do 7 (oi := ?_) (v := ?_) ?_ (by rw [hops.out]; kernel_rfl) ?_ ?_ ?_ hS ?_
 rotate_left 2
 ·rw [hops.out]; unfold opsRB; simp only [getS]; rfl
 ·rw [hops.out]; kernel_rfl
 ·intro W hW; obtain ⟨g1, g2⟩ := hW; go_simp <;> with_reducible rfl
 ·exact fun c _ w h => hpan c _ _ w h
 try simp only [putS]
 refine take_do 8 (oi := ?_) (v := ?_) ?_ (by rw [hops.out]; kernel_rfl) ?_ ?_ ?_ hS ?_
 rotate_left 2
 ·rw [hops.out]; unfold opsRB; simp only [getS]; rfl
 ·rw [hops.out]; kernel_rfl
 ·intro W hW; obtain ⟨g1, g2⟩ := hW; go_simp <;> with_reducible rfl
 ·exact fun c _ w h => hpan c _ _ w h
 try simp only [putS]
 refine take_do 9 (oi := ?_) (v := ?_) ?_ (by rw [hops.out]; kernel_rfl) ?_ ?_ ?_ hS ?_
 rotate_left 2
 ·rw [hops.out]; unfold opsRB; simp only [getS]; rfl
 ·rw [hops.out]; kernel_rfl
 ·intro W hW; obtain ⟨g1, g2⟩ := hW; go_simp <;> with_reducible rfl
 ·exact fun c _ w h => hpan c _ _ w h
 try simp only [putS]
 refine take_do 10 (oi := ?_) (v := ?_) ?_ (by rw [hops.out]; kernel_rfl) ?_ ?_ ?_ hS ?_
 rotate_left 2
 ·rw [hops.out]; unfold opsRB; simp only [getS]; rfl
 ·rw [hops.out]; kernel_rfl
 ·intro W hW; obtain ⟨g1, g2⟩ := hW; go_simp <;> with_reducible rfl
 ·exact fun c _ w h => hpan c _ _ w h
 try simp only [putS]
 refine take_do 12 (oi := ?_) (v := ?_) ?_ (by rw [hops.out]; kernel_rfl) ?_ ?_ ?_ hS ?_
 rotate_left 2
 ·rw [hops.out]; unfold opsRB; simp only [getS]; rfl
 ·rw [hops.out]; kernel_rfl
 ·intro W hW; obtain ⟨g1, g2⟩ := hW; go_simp <;> with_reducible rfl
 ·exact fun c _ w h => hpan c _ _ w h
 try simp only [putS]
 refine wpAnyH_ready (rs := [11]) (by rw [hops.out]; kernel_rfl) (by simp) ?_
 refine AllReadyH.cons (o := ?_) ?_ (fun K hK => ?_) ?_
 rotate_left 1
 ·rw [hops.out]; unfold opsRB; simp only [getS]; rfl
 ·rw [if_pos (by rfl)]
  go_simp
  refine hK.out _ _ hS (fun _ => ?_)
  exact h11
 exact AllReadyH.nil
theorem encW_one (x : WayD) (a : Option Addr) (n c : Nat) : ∀ u ∈ encW (x, .slice a n c), u.oneCell' = true := by
 intro u hu
 simp only [encW, List.mem_cons, List.not_mem_nil, or_false] at hu
 rcases hu with rfl | rfl | rfl <;> rfl
theorem hop_row_ne {W : World} {lo lo2 hi n size2 : Nat} {v : Value} {xs : List Value} {q : WP} (hq : HopOwn W lo hi q) (hr : W.ownsRow lo2 77 size2 v n xs) (j : Nat) (hj : q.2.ownBlock = some j) : some j ≠ v.ownBlock := by
 intro e
 rcases hr.2 with ⟨h0, _⟩ | ⟨g, cap, cur, hv, _, hh, _⟩
 ·rw [h0] at e; simp [Value.ownBlock] at e
 ·rw [hv] at e
  simp [Value.ownBlock] at e
  subst e
  exact own_type_ne2 hq.1 hh (by decide) hj.symm
theorem WaysOwn.push {W Wa W2 : World} {lo : Nat} {v v' : Value} {qs : List WP} {p : WP} (h : WaysOwn W lo W.heap.size v qs) (hb : Below W.heap.size W Wa) (hlo : lo ≤ W.heap.size) (hp : HopOwn Wa W.heap.size Wa.heap.size p)
  (row : W2.ownsRow lo 77 3 v' (qs.length + 1) (flat encW (qs ++ [p]))) (hg : Wa.grownBy W2 v.ownBlock) : WaysOwn W2 lo W2.heap.size v' (qs ++ [p]) where
 row := by simpa using row
 top := fun k hk => (row.lt k hk).2
 apart := apartW_add h.apart h.nears (fun k hk => (hp.1.lt k hk).1)
 nears := by
  have rowa := owns_below h.row hb (Nat.le_refl _)
  have key : ∀ q, HopOwn Wa lo Wa.heap.size q → HopOwn W2 lo W2.heap.size q := fun q hq =>
   ⟨owns_keepB hq.1 (fun j hj => hg.block j (hq.2 j hj) (hop_row_ne hq rowa j hj)), fun k hk => Nat.lt_of_lt_of_le (hq.2 k hk) hg.size⟩
  intro q hq
  rcases List.mem_append.1 hq with h1 | h1
  ·exact key q (((h.nears q h1).keep (W' := Wa) (fun j _ h2 _ => hb.block j h2)).wide (Nat.le_refl _) hb.size)
  ·have : q = p := by simpa using h1
   subst this
   exact key q (hp.wide hlo (Nat.le_refl _))
theorem append_struct6 {α : Type} {enc : α → List Value} {sz bytes : Nat} (hlen : ∀ a, (enc a).length = sz) (hpos : 0 < sz) (hbb : bytes ≤ 100) {P : Program} (w : World) {ops : Array Oper} {rest : List Oper} {o : Oper} {a : Act} {Q : Exit → Act → World → Prop} (hgd : o.guard = none) (s x : Operand) (t : TypeId)
  (ho : o.op = .call { callee := .builtin .append, args := #[s, x], argTypes := #[t, t] }) (base : Nat) (e : TypeId) (ht : P.underlying t = some (.slice e)) (zv : Value) (hzv : zv.cells.size = sz)
  (hinfo : (P.info? e).map (fun i => (i.zero, i.size, i.bytes)) = some (some zv, sz, bytes))
  (v : Value) (l : List α) (y : α) (hone : ∀ u ∈ enc y, u.oneCell' = true) (hs : a.eval s = v) (hown : w.ownsRow base e sz v l.length (flat enc l))
  (ad : Addr) (c : Nat) (hx : a.eval x = .slice (some ad) 1 c) (hnews : ∀ j u, (enc y)[j]? = some u → w.cell? (ad.add j) = some u)
  (hl : l.length + 1 ≤ 1000000000) (hbase : base ≤ w.heap.size)
  (h : ∀ v' w', w'.ownsRow base e sz v' (l ++ [y]).length (flat enc (l ++ [y])) → w.grownBy w' v.ownBlock → (v'.ownBlock = v.ownBlock ∨ v'.ownBlock = some w.heap.size) → wpList P ops Q rest (a.put o.dst v') w') : wpList P ops Q (o :: rest) a w := by
 obtain ⟨i0, hi, hz0, hz1, hz2⟩ := info_parts hinfo
 refine wpList_append_own_at w hgd s x t ho base e i0 zv sz bytes ht hi hz0 hz1 hz2 hzv hpos v l.length (flat enc l) hs hown ad 1 c (enc y) hx (by rw [hlen]; omega) hnews hone (by unfold maxLen; omega) ?_ hbase ?_
 ·have : (l.length + 1) * bytes ≤ 1000000000 * 100 := Nat.mul_le_mul hl hbb
  omega
 ·intro v' w' h1 h2 _ h4
  have e1 : flat enc l ++ enc y = flat enc (l ++ [y]) := by rw [flat_append]; simp [flat]
  rw [e1] at h1
  exact h v' w' (by simpa using h1) h2 h4
theorem alloc_keeps (W : World) (o : Obj) (k : Nat) (hk : k < W.heap.size) : (W.alloc o).heap[k]? = W.heap[k]? := Below.heap_alloc _ _ _ hk
theorem wp_append_own_none {P : Program} {w : World} {o : Oper} {a : Act} {K : Act → World → Prop} {Q : Exit → Act → World → Prop} (s x : Operand) (t : TypeId)
  (ho : o.op = .call { callee := .builtin .append, args := #[s, x], argTypes := #[t, t] })
  (base : Nat) (e : TypeId) (i : TypeInfo) (size : Nat) (ht : P.underlying t = some (.slice e)) (hi : P.info? e = some i)
  (v : Value) (n : Nat) (xs : List Value) (hs : a.eval s = v) (hown : w.ownsRow base e size v n xs) (hx : a.eval x = .slice none 0 0)
  (h : K (a.put o.dst v) w) : o.wp P a w K Q := by
 have hrun := run_append_owned_none (P := P) (w := w) base t o.type e i size ht hi v n xs hown
 unfold Oper.wp
 simp [execOp, ho, resolve, invoke, builtin, hs, hx, hrun, Result.andThen]
 exact h
theorem wp_append_rowW {α : Type} {enc : α → List Value} {sz bytes : Nat} (hlen : ∀ l : List α, (flat enc l).length = l.length * sz) (hpos : 0 < sz) (hone : ∀ a, ∀ u ∈ enc a, u.oneCell' = true) (hbb : bytes ≤ 100) {P : Program} (w : World) {o : Oper} {a : Act} {K : Act → World → Prop} {Q : Exit → Act → World → Prop} (s x : Operand) (t : TypeId)
  (ho : o.op = .call { callee := .builtin .append, args := #[s, x], argTypes := #[t, t] }) (base : Nat) (e : TypeId) (ht : P.underlying t = some (.slice e)) (zv : Value) (hzv : zv.cells.size = sz)
  (hinfo : (P.info? e).map (fun i => (i.zero, i.size, i.bytes)) = some (some zv, sz, bytes))
  (v : Value) (l : List α) (hs : a.eval s = v) (hown : w.ownsRow base e sz v l.length (flat enc l))
  (base2 : Nat) (v2 : Value) (l2 : List α) (hx : a.eval x = v2) (hown2 : w.ownsRow base2 e sz v2 l2.length (flat enc l2))
  (hl : l.length + l2.length ≤ 1000000000) (hbase : base ≤ w.heap.size)
  (h : ∀ v' w', w'.ownsRow base e sz v' (l ++ l2).length (flat enc (l ++ l2)) → w.grownBy w' v.ownBlock → K (a.put o.dst v') w') : o.wp P a w K Q := by
 obtain ⟨i0, hi, hz0, hz1, hz2⟩ := info_parts hinfo
 rcases hown2.2 with ⟨e1, e2⟩ | ⟨g, cap, cur, e1, _⟩
 ·have e3 : l2 = [] := List.eq_nil_of_length_eq_zero e2
  subst e3
  refine wp_append_own_none s x t ho base e i0 sz ht hi v l.length (flat enc l) hs hown (hx.trans e1) ?_
  exact h v w (by simpa using hown) (grown_refl w _)
 ·refine wp_append_own w s x t ho base e i0 zv sz bytes ht hi hz0 hz1 hz2 hzv hpos v l.length (flat enc l) hs hown ⟨g, 0, none⟩ l2.length cap (flat enc l2) (hx.trans e1) (hlen l2) (hown2.cells (by rw [e1]; rfl)) ?_ (by unfold maxLen; omega) ?_ hbase ?_
  ·intro u hu
   simp only [flat, List.mem_flatMap] at hu
   obtain ⟨b, _, hb⟩ := hu
   exact hone b u hb
  ·have : (l.length + l2.length) * bytes ≤ 1000000000 * 100 := Nat.mul_le_mul hl hbb
   omega
  ·intro v' w' h1 h2 _
   have e1 : flat enc l ++ flat enc l2 = flat enc (l ++ l2) := by rw [flat_append]
   rw [e1] at h1
   exact h v' w' (by simpa using h1) h2
theorem wp_append_structW {α : Type} {enc : α → List Value} {sz bytes : Nat} (hlen : ∀ a, (enc a).length = sz) (hpos : 0 < sz) (y0 : α) (hone : ∀ u ∈ enc y0, u.oneCell' = true) (hbb : bytes ≤ 100) {P : Program} (w : World) {o : Oper} {a : Act} {K : Act → World → Prop} {Q : Exit → Act → World → Prop} (s x : Operand) (t : TypeId)
  (ho : o.op = .call { callee := .builtin .append, args := #[s, x], argTypes := #[t, t] }) (base : Nat) (e : TypeId) (ht : P.underlying t = some (.slice e)) (zv : Value) (hzv : zv.cells.size = sz)
  (hinfo : (P.info? e).map (fun i => (i.zero, i.size, i.bytes)) = some (some zv, sz, bytes))
  (v : Value) (l : List α) (hs : a.eval s = v) (hown : w.ownsRow base e sz v l.length (flat enc l))
  (ad : Addr) (c : Nat) (hx : a.eval x = .slice (some ad) 1 c) (hnews : ∀ j u, (enc y0)[j]? = some u → w.cell? (ad.add j) = some u)
  (hl : l.length + 1 ≤ 1000000000) (hbase : base ≤ w.heap.size)
  (h : ∀ v' w' l', Hid (l' = l ++ [y0]) → w'.ownsRow base e sz v' l'.length (flat enc l') → w.grownBy w' v.ownBlock → K (a.put o.dst v') w') : Oper.wp P o a w K Q := by
 obtain ⟨i0, hi, hz0, hz1, hz2⟩ := info_parts hinfo
 refine wp_append_own w s x t ho base e i0 zv sz bytes ht hi hz0 hz1 hz2 hzv hpos v l.length (flat enc l) hs hown ad 1 c (enc y0) hx (by rw [hlen]; omega) hnews (hone) (by unfold maxLen; omega) ?_ hbase ?_
 ·have : (l.length + 1) * bytes ≤ 1000000000 * 100 := Nat.mul_le_mul hl hbb
  omega
 ·intro v' w' h1 h2 _
  have e1 : flat enc l ++ enc y0 = flat enc (l ++ [y0]) := by rw [flat_append]; simp [flat]
  rw [e1] at h1
  exact h v' w' (l ++ [y0]) rfl (by simpa using h1) h2
def wOps : Array Oper := #[{ dst := some 181, op := Go.Op.move (Go.Operand.tmp 7), type := 70, pos := "l06_way.go:102", after := #[], guard := none }, { dst := some 182, op := Go.Op.move (Go.Operand.tmp 22), type := 3, pos := "l06_way.go:102", after := #[], guard := none }, { dst := some 183, op := Go.Op.move (Go.Operand.tmp 11), type := 28, pos := "l06_way.go:102", after := #[], guard := none }, { dst := some 184, op := Go.Op.move (Go.Operand.tmp 22), type := 3, pos := "l06_way.go:102", after := #[], guard := none }, { dst := some 185, op := Go.Op.indexAddr 28 (Go.Operand.tmp 183) (Go.Operand.tmp 184), type := 0, pos := "l06_way.go:102", after := #[{ on := 2, ground := Go.Ground.data }, { on := 3, ground := Go.Ground.data }], guard := none }, { dst := some 186, op := Go.Op.load 3 (Go.Operand.tmp 185), type := 3, pos := "l06_way.go:102", after := #[{ on := 4, ground := Go.Ground.data }], guard := none }, { dst := some 187, op := Go.Op.buildSlice 28 0 #[], type := 28, pos := "l06_way.go:102", after := #[], guard := none }, { dst := some 188, op := Go.Op.move (Go.Operand.tmp 12), type := 140, pos := "l06_way.go:102", after := #[], guard := none }, { dst := some 189, op := Go.Op.move (Go.Operand.tmp 22), type := 3, pos := "l06_way.go:102", after := #[], guard := none }, { dst := some 190, op := Go.Op.indexAddr 140 (Go.Operand.tmp 188) (Go.Operand.tmp 189), type := 0, pos := "l06_way.go:102", after := #[{ on := 7, ground := Go.Ground.data }, { on := 8, ground := Go.Ground.data }], guard := none }, { dst := some 191, op := Go.Op.load 28 (Go.Operand.tmp 190), type := 28, pos := "l06_way.go:102", after := #[{ on := 9, ground := Go.Ground.data }], guard := none }, { dst := some 192, op := Go.Op.call { callee := Go.Callee.builtin Go.Builtin.append, args := #[Go.Operand.tmp 187, Go.Operand.tmp 191], argTypes := #[28, 28] }, type := 28, pos := "l06_way.go:102", after := #[{ on := 6, ground := Go.Ground.data }, { on := 10, ground := Go.Ground.data }], guard := none }, { dst := some 193, op := Go.Op.build 77 #[(0, Go.Operand.tmp 182), (1, Go.Operand.tmp 186), (2, Go.Operand.tmp 192)], type := 77, pos := "l06_way.go:102", after := #[{ on := 1, ground := Go.Ground.data }, { on := 5, ground := Go.Ground.data }, { on := 11, ground := Go.Ground.data }], guard := none }, { dst := some 194, op := Go.Op.buildSlice 70 1 #[(0, Go.Operand.tmp 193)], type := 70, pos := "l06_way.go:102", after := #[{ on := 12, ground := Go.Ground.data }], guard := none }, { dst := some 195, op := Go.Op.call { callee := Go.Callee.builtin Go.Builtin.append, args := #[Go.Operand.tmp 181, Go.Operand.tmp 194], argTypes := #[70, 70] }, type := 70, pos := "l06_way.go:102", after := #[{ on := 0, ground := Go.Ground.data }, { on := 13, ground := Go.Ground.data }, { on := 11, ground := Go.Ground.chain }], guard := none }, { dst := some 7, op := Go.Op.assign (Go.Operand.tmp 195), type := 70, pos := "l06_way.go:102", after := #[{ on := 14, ground := Go.Ground.data }, { on := 14, ground := Go.Ground.chain }, { on := 0, ground := Go.Ground.phase }, { on := 1, ground := Go.Ground.phase }, { on := 2, ground := Go.Ground.phase }, { on := 3, ground := Go.Ground.phase }, { on := 4, ground := Go.Ground.phase }, { on := 5, ground := Go.Ground.phase }, { on := 6, ground := Go.Ground.phase }, { on := 7, ground := Go.Ground.phase }, { on := 8, ground := Go.Ground.phase }, { on := 9, ground := Go.Ground.phase }, { on := 10, ground := Go.Ground.phase }, { on := 11, ground := Go.Ground.phase }, { on := 12, ground := Go.Ground.phase }, { on := 13, ground := Go.Ground.phase }, { on := 14, ground := Go.Ground.phase }], guard := none }]
theorem way_reg (t0 t1 t2 t3 t4 t5 t6 t8 t9 t10 t13 t14 t15 t16 t17 t18 t19 t20 t21 t23 t24 t25 t26 t27 t28 t29 t30 t31 t32 t33 t34 t35 t36 t37 t38 t39 t40 t41 t42 t43 t44 t45 t46 t47 t48 t49 t50 t51 t52 t53 t54 t55 t56 t57 t58 t59 t60 t61 t62 t63 t64 t65 t66 t67 t68 t69 t70 t71 t72 t73 t74 t75 t76 t77 t78 t79 t80 t81 t82 t83 t84 t85 t86 t87 t88 t89 t90 t91 t92 t93 t94 t95 t96 t97 t98 t99 t100 t101 t102 t103 t104 t105 t106 t107 t108 t109 t110 t111 t112 t113 t114 t115 t116 t117 t118 t119 t120 t121 t122 t123 t124 t125 t126 t127 t128 t129 t130 t131 t132 t133 t134 t135 t136 t137 t138 t139 t140 t141 t142 t143 t144 t145 t146 t147 t148 t149 t150 t151 t152 t153 t154 t155 t156 t157 t158 t159 t160 t161 t162 t163 t164 t165 t166 t167 t168 t169 t170 t171 t172 t173 t174 t175 t176 t177 t178 t179 t180 t181 t182 t183 t184 t185 t186 t187 t188 t189 t190 t191 t192 t193 t194 t195 t196 : Value) (W0 : World) (lo b v : Nat) (cv : Int) (hl : List Int) (pv : Option Addr) (qv : Nat) (ua : Option Addr) (uc : Nat) (qs : List WP) (cb ch : Array Value) (Q : Exit → Act → World → Prop) (ops : Array Oper) (hops : Hid (ops = wOps)) (hpan : ∀ c a1 a2 w, Q (.panic c) a1 w → Q (.panic c) a2 w)
  (hv : v ≤ 6) (hll : hl.length ≤ 6) (hql : qs.length ≤ 6) (hlo : lo ≤ W0.heap.size)
  (hb : W0.heap[b]? = some (.cells cb 3)) (hh : W0.heap[b + 1]? = some (.cells ch 28)) (h1 : W0.cell? ⟨b, v, none⟩ = some (.int .i64 cv)) (h2 : W0.cell? ⟨b + 1, v, none⟩ = some (.slice pv hl.length qv))
  (hRV : W0.ownsRow 0 3 1 (.slice pv hl.length qv) hl.length (flat intE hl)) (hWO : WaysOwn W0 lo W0.heap.size (.slice ua qs.length uc) qs)
  (hend : ∀ (W4 : World) (xa : Option Addr) (xc : Nat) (na : Option Addr) (nc N : Nat), WaysOwn W4 lo W4.heap.size (.slice xa (qs.length + 1) xc) (qs ++ [(⟨(v : Int), cv, hl⟩, .slice na hl.length nc)]) → (∀ k, k < W0.heap.size → some k ≠ (Value.slice ua qs.length uc).ownBlock → W4.heap[k]? = W0.heap[k]?) → Below lo W0 W4 → Q .normal { tmps := #[t0, t1, t2, t3, t4, t5, t6, .slice xa (qs.length + 1) xc, t8, t9, t10, .slice (some ⟨b, 0, none⟩) 7 7, .slice (some ⟨b + 1, 0, none⟩) 7 7, t13, t14, t15, t16, t17, t18, t19, t20, t21, .int .i64 (v : Int), t23, t24, t25, t26, t27, t28, t29, t30, t31, t32, t33, t34, t35, t36, t37, t38, t39, t40, t41, t42, t43, t44, t45, t46, t47, t48, t49, t50, t51, t52, t53, t54, t55, t56, t57, t58, t59, t60, t61, t62, t63, t64, t65, t66, t67, t68, t69, t70, t71, t72, t73, t74, t75, t76, t77, t78, t79, t80, t81, t82, t83, t84, t85, t86, t87, t88, t89, t90, t91, t92, t93, t94, t95, t96, t97, t98, t99, t100, t101, t102, t103, t104, t105, t106, t107, t108, t109, t110, t111, t112, t113, t114, t115, t116, t117, t118, t119, t120, t121, t122, t123, t124, t125, t126, t127, t128, t129, t130, t131, t132, t133, t134, t135, t136, t137, t138, t139, t140, t141, t142, t143, t144, t145, t146, t147, t148, t149, t150, t151, t152, t153, t154, t155, t156, t157, t158, t159, t160, t161, t162, t163, t164, t165, t166, t167, t168, t169, t170, t171, t172, t173, t174, t175, t176, t177, t178, t179, t180, .slice ua qs.length uc, .int .i64 (v : Int), .slice (some ⟨b, 0, none⟩) 7 7, .int .i64 (v : Int), .pointer (some ⟨b, v, none⟩), .int .i64 cv, .slice (some ⟨W0.heap.size, 0, none⟩) 0 0, .slice (some ⟨b + 1, 0, none⟩) 7 7, .int .i64 (v : Int), .pointer (some ⟨b + 1, v, none⟩), .slice pv hl.length qv, .slice na hl.length nc, .agg #[.int .i64 (v : Int), .int .i64 cv, .slice na hl.length nc], .slice (some ⟨N, 0, none⟩) 1 1, .slice xa (qs.length + 1) xc, t196], defers := [] } W4) :
  wpAnyH Tryz.prog .any ops Q (fun W => W.cell? ⟨b, v, none⟩ = some (.int .i64 cv) ∧ W.cell? ⟨b + 1, v, none⟩ = some (.slice pv hl.length qv)) 16 (Array.replicate 16 false) { tmps := #[t0, t1, t2, t3, t4, t5, t6, .slice ua qs.length uc, t8, t9, t10, .slice (some ⟨b, 0, none⟩) 7 7, .slice (some ⟨b + 1, 0, none⟩) 7 7, t13, t14, t15, t16, t17, t18, t19, t20, t21, .int .i64 (v : Int), t23, t24, t25, t26, t27, t28, t29, t30, t31, t32, t33, t34, t35, t36, t37, t38, t39, t40, t41, t42, t43, t44, t45, t46, t47, t48, t49, t50, t51, t52, t53, t54, t55, t56, t57, t58, t59, t60, t61, t62, t63, t64, t65, t66, t67, t68, t69, t70, t71, t72, t73, t74, t75, t76, t77, t78, t79, t80, t81, t82, t83, t84, t85, t86, t87, t88, t89, t90, t91, t92, t93, t94, t95, t96, t97, t98, t99, t100, t101, t102, t103, t104, t105, t106, t107, t108, t109, t110, t111, t112, t113, t114, t115, t116, t117, t118, t119, t120, t121, t122, t123, t124, t125, t126, t127, t128, t129, t130, t131, t132, t133, t134, t135, t136, t137, t138, t139, t140, t141, t142, t143, t144, t145, t146, t147, t148, t149, t150, t151, t152, t153, t154, t155, t156, t157, t158, t159, t160, t161, t162, t163, t164, t165, t166, t167, t168, t169, t170, t171, t172, t173, t174, t175, t176, t177, t178, t179, t180, t181, t182, t183, t184, t185, t186, t187, t188, t189, t190, t191, t192, t193, t194, t195, t196], defers := [] } W0 := by
 have hS0 : W0.cell? ⟨b, v, none⟩ = some (.int .i64 cv) ∧ W0.cell? ⟨b + 1, v, none⟩ = some (.slice pv hl.length qv) := ⟨h1, h2⟩
 have hS1 : ∀ W : World, (∀ k, k < W0.heap.size → W.heap[k]? = W0.heap[k]?) → W.cell? ⟨b, v, none⟩ = some (.int .i64 cv) ∧ W.cell? ⟨b + 1, v, none⟩ = some (.slice pv hl.length qv) := fun W hk => ⟨(World.cell?_of_block (hk b (lt_of_heap hb))).trans h1, (World.cell?_of_block (hk (b + 1) (lt_of_heap hh))).trans h2⟩
 have hvi : (0 : Int) ≤ (v : Int) := by omega
 have hvj : (v : Int) < 7 := by omega
 show wpAnyH Tryz.prog .any ops Q _ 16 #[false, false, false, false, false, false, false, false, false, false, false, false, false, false, false, false] _ W0
 refine take_d 0 ?_ ?_ ?_ (by rw [hops.out]; kernel_rfl) ?_ ?_ (by assumption) ?_
 rotate_left 2
 ·rw [hops.out]; unfold wOps; simp only [getS]; rfl
 ·intro W hW; obtain ⟨k1, k2⟩ := hW; go_simp <;> with_reducible rfl
 ·exact fun c _ w h => hpan c _ _ w h
 try simp only [putS]
 refine take_d 1 ?_ ?_ ?_ (by rw [hops.out]; kernel_rfl) ?_ ?_ (by assumption) ?_
 rotate_left 2
 ·rw [hops.out]; unfold wOps; simp only [getS]; rfl
 ·intro W hW; obtain ⟨k1, k2⟩ := hW; go_simp <;> with_reducible rfl
 ·exact fun c _ w h => hpan c _ _ w h
 try simp only [putS]
 refine take_d 2 ?_ ?_ ?_ (by rw [hops.out]; kernel_rfl) ?_ ?_ (by assumption) ?_
 rotate_left 2
 ·rw [hops.out]; unfold wOps; simp only [getS]; rfl
 ·intro W hW; obtain ⟨k1, k2⟩ := hW; go_simp <;> with_reducible rfl
 ·exact fun c _ w h => hpan c _ _ w h
 try simp only [putS]
 refine take_d 3 ?_ ?_ ?_ (by rw [hops.out]; kernel_rfl) ?_ ?_ (by assumption) ?_
 rotate_left 2
 ·rw [hops.out]; unfold wOps; simp only [getS]; rfl
 ·intro W hW; obtain ⟨k1, k2⟩ := hW; go_simp <;> with_reducible rfl
 ·exact fun c _ w h => hpan c _ _ w h
 try simp only [putS]
 refine take_d 4 ?_ ?_ ?_ (by rw [hops.out]; kernel_rfl) ?_ ?_ (by assumption) ?_
 rotate_left 2
 ·rw [hops.out]; unfold wOps; simp only [getS]; rfl
 ·intro W hW; obtain ⟨k1, k2⟩ := hW; go_simp <;> with_reducible rfl
 ·exact fun c _ w h => hpan c _ _ w h
 try simp only [putS]
 refine take_d 5 ?_ ?_ ?_ (by rw [hops.out]; kernel_rfl) ?_ ?_ (by assumption) ?_
 rotate_left 2
 ·rw [hops.out]; unfold wOps; simp only [getS]; rfl
 ·intro W hW; obtain ⟨k1, k2⟩ := hW; go_simp <;> with_reducible rfl
 ·exact fun c _ w h => hpan c _ _ w h
 try simp only [putS]
 refine take_d 7 ?_ ?_ ?_ (by rw [hops.out]; kernel_rfl) ?_ ?_ (by assumption) ?_
 rotate_left 2
 ·rw [hops.out]; unfold wOps; simp only [getS]; rfl
 ·intro W hW; obtain ⟨k1, k2⟩ := hW; go_simp <;> with_reducible rfl
 ·exact fun c _ w h => hpan c _ _ w h
 try simp only [putS]
 refine take_d 8 ?_ ?_ ?_ (by rw [hops.out]; kernel_rfl) ?_ ?_ (by assumption) ?_
 rotate_left 2
 ·rw [hops.out]; unfold wOps; simp only [getS]; rfl
 ·intro W hW; obtain ⟨k1, k2⟩ := hW; go_simp <;> with_reducible rfl
 ·exact fun c _ w h => hpan c _ _ w h
 try simp only [putS]
 refine take_d 9 ?_ ?_ ?_ (by rw [hops.out]; kernel_rfl) ?_ ?_ (by assumption) ?_
 rotate_left 2
 ·rw [hops.out]; unfold wOps; simp only [getS]; rfl
 ·intro W hW; obtain ⟨k1, k2⟩ := hW; go_simp <;> with_reducible rfl
 ·exact fun c _ w h => hpan c _ _ w h
 try simp only [putS]
 refine take_d 10 ?_ ?_ ?_ (by rw [hops.out]; kernel_rfl) ?_ ?_ (by assumption) ?_
 rotate_left 2
 ·rw [hops.out]; unfold wOps; simp only [getS]; rfl
 ·intro W hW; obtain ⟨k1, k2⟩ := hW; go_simp <;> with_reducible rfl
 ·exact fun c _ w h => hpan c _ _ w h
 try simp only [putS]
 refine take_call 6 (oi := ?_) ?_ (by rw [hops.out]; kernel_rfl) ?_ ?_
 rotate_left 1
 ·rw [hops.out]; unfold wOps; simp only [getS]; rfl
 ·rw [hops.out]; kernel_rfl
 intro K hK
 go_simp
 refine hK.out _ _ (hS1 _ (alloc_keeps W0 _)) (fun hS => ?_)
 clear hK K
 try simp only [putS]
 refine take_call 11 (oi := ?_) ?_ (by rw [hops.out]; kernel_rfl) ?_ ?_
 rotate_left 1
 ·rw [hops.out]; unfold wOps; simp only [getS]; rfl
 ·rw [hops.out]; kernel_rfl
 intro K hK
 refine wp_append_rowW int_flat1 (by omega) intE_one (by omega) _ _ _ 28 rfl W0.heap.size 3 Tryz.underlying28 (.int .i64 0) rfl Tryz.info3 (.slice (some ⟨W0.heap.size, 0, none⟩) 0 0) [] rfl (own_litI _ _ _ rfl (Nat.le_refl _)) 0 (.slice pv hl.length qv) hl rfl (hRV.alloc _) (by simp; omega) (by simp) ?_
 intro x W2 hox hgrow
 rw [List.nil_append] at hox
 obtain ⟨na, nc, rfl⟩ := owns_lenS hox
 simp only [Value.ownBlock] at hgrow
 have k12 : ∀ k, k < W0.heap.size → W2.heap[k]? = W0.heap[k]? := fun k hk => (hgrow.block k (by simp; omega) (by simp; omega)).trans (alloc_keeps W0 _ k hk)
 have s12 : W0.heap.size < W2.heap.size := by have := hgrow.size; simp at this; omega
 have B2 : Below W0.heap.size W0 W2 := ((Below.refl _ _).alloc (Nat.le_refl _) _).grown hgrow (by simp) (fun k hk => by simp at hk; omega)
 refine hK.out _ _ (hS1 _ k12) (fun hS => ?_)
 clear hK K
 try simp only [putS]
 refine take_d 12 ?_ ?_ ?_ (by rw [hops.out]; kernel_rfl) ?_ ?_ (by assumption) ?_
 rotate_left 2
 ·rw [hops.out]; unfold wOps; simp only [getS]; rfl
 ·intro W hW; obtain ⟨k1, k2⟩ := hW; go_simp <;> with_reducible rfl
 ·exact fun c _ w h => hpan c _ _ w h
 try simp only [putS]
 refine take_call 13 (oi := ?_) ?_ (by rw [hops.out]; kernel_rfl) ?_ ?_
 rotate_left 1
 ·rw [hops.out]; unfold wOps; simp only [getS]; rfl
 ·rw [hops.out]; kernel_rfl
 intro K hK
 go_simp
 refine hK.out _ _ (hS1 _ (fun k hk => (alloc_keeps W2 _ k (by omega)).trans (k12 k hk))) (fun hS => ?_)
 clear hK K
 try simp only [putS]
 refine take_call 14 (oi := ?_) ?_ (by rw [hops.out]; kernel_rfl) ?_ ?_
 rotate_left 1
 ·rw [hops.out]; unfold wOps; simp only [getS]; rfl
 ·rw [hops.out]; kernel_rfl
 intro K hK
 have rw3 := owns_below hWO.row (B2.alloc B2.size (.cells #[.int .i64 (v : Int), .int .i64 cv, .slice na hl.length nc] 77)) (Nat.le_refl _)
 refine wp_append_structW encW_len (by omega) (⟨(v : Int), cv, hl⟩, .slice na hl.length nc) (encW_one _ _ _ _) (by omega) _ _ _ 70 rfl lo 77 Tryz.underlying70 (.agg (wayC zeroWD (.slice none 0 0))) rfl Tryz.infoWay (.slice ua qs.length uc) qs rfl rw3 ⟨W2.heap.size, 0, none⟩ 1 rfl (news_struct (cs := encW (⟨(v : Int), cv, hl⟩, .slice na hl.length nc))) (by omega) (by simp; omega) ?_
 intro x W4 l' hl' hox2 hgrow2
 rw [hl'.out] at hox2
 have ow := hWO.push (p := (⟨(v : Int), cv, hl⟩, .slice na hl.length nc)) (B2.alloc B2.size _) hlo ⟨hox.alloc (.cells #[.int .i64 (v : Int), .int .i64 cv, .slice na hl.length nc] 77), fun k hk => by have := (hox.lt k hk).2; simp; omega⟩ (by simpa using hox2) hgrow2
 have k4 : ∀ k, k < W0.heap.size → some k ≠ (Value.slice ua qs.length uc).ownBlock → W4.heap[k]? = W0.heap[k]? := fun k hk hne => (hgrow2.block k (by simp; omega) hne).trans ((alloc_keeps W2 _ k (by omega)).trans (k12 k hk))
 have B4 : Below lo W0 W4 := ((B2.alloc B2.size _).mono hlo).grown hgrow2 (by simp; omega) (fun k hk => (hWO.row.lt k hk).1)
 rw [List.length_append, List.length_singleton] at hox2
 obtain ⟨xa, xc, rfl⟩ := owns_lenS hox2
 refine hK.out _ _ ⟨?_, ?_⟩ (fun hS => ?_)
 ·rw [World.cell?_of_block (k4 b (lt_of_heap hb) (own_type_ne2 hWO.row hb (by decide)))]; exact h1
 ·rw [World.cell?_of_block (k4 (b + 1) (lt_of_heap hh) (own_type_ne2 hWO.row hh (by decide)))]; exact h2
 clear hK K
 try simp only [putS]
 refine take_d 15 ?_ ?_ ?_ (by rw [hops.out]; kernel_rfl) ?_ ?_ (by assumption) ?_
 rotate_left 2
 ·rw [hops.out]; unfold wOps; simp only [getS]; rfl
 ·intro W hW; obtain ⟨k1, k2⟩ := hW; go_simp <;> with_reducible rfl
 ·exact fun c _ w h => hpan c _ _ w h
 try simp only [putS]
 refine wpAnyH_done (by rw [hops.out]; kernel_rfl) ?_ _
 exact hend _ xa xc na nc W2.heap.size ow k4 B4
abbrev LP := Value × List WP
def encLP (p : LP) : List Value := [p.1]
theorem encLP_len (p : LP) : (encLP p).length = 1 := rfl
theorem owns_typed {W W' : World} {base size n : Nat} {e T : TypeId} {v : Value} {xs : List Value} (h : W.ownsRow base e size v n xs) (hne : e ≠ T) (hk : ∀ (k : Nat) (cs : Array Value) (t : TypeId) (fr : Nat × Nat), W.heap[k]? = some (.cells cs t fr) → t ≠ T → W'.heap[k]? = W.heap[k]?) : W'.ownsRow base e size v n xs := by
 refine owns_keepB h (fun j hj => ?_)
 rcases h.2 with ⟨e1, _⟩ | ⟨g2, cap, cur, e1, _, hh, _⟩
 ·rw [e1] at hj; cases hj
 ·rw [e1] at hj
  simp [Value.ownBlock] at hj
  subst hj
  exact hk _ _ _ _ hh hne
theorem WaysOwn.typed {W W' : World} {lo hi : Nat} {T : TypeId} {v : Value} {ps : List WP} (h : WaysOwn W lo hi v ps) (h1 : (77 : TypeId) ≠ T) (h2 : (3 : TypeId) ≠ T) (hk : ∀ (k : Nat) (cs : Array Value) (t : TypeId) (fr : Nat × Nat), W.heap[k]? = some (.cells cs t fr) → t ≠ T → W'.heap[k]? = W.heap[k]?) : WaysOwn W' lo hi v ps :=
 ⟨owns_typed h.row h1 hk, h.top, fun p hp => ⟨owns_typed (h.nears p hp).1 h2 hk, (h.nears p hp).2⟩, h.apart⟩
structure WLs (W : World) (lo hi : Nat) (u : Value) (ls : List LP) : Prop where
 row : W.ownsRow lo 70 1 u ls.length (flat encLP ls)
 top : ∀ k, u.ownBlock = some k → k < hi
 ways : ∀ p ∈ ls, WaysOwn W lo hi p.1 p.2
theorem WLs.below {W W' : World} {lo hi B : Nat} {u : Value} {ls : List LP} (h : WLs W lo hi u ls) (hb : Below B W W') (hB : hi ≤ B) : WLs W' lo hi u ls :=
 ⟨owns_keepB h.row (fun k e => hb.block k (by have := h.top k e; omega)), h.top, fun p hp => (h.ways p hp).below hb hB⟩
theorem WLs.wide {W : World} {lo hi lo' hi' : Nat} {u : Value} {ls : List LP} (h : WLs W lo hi u ls) (hl : lo' ≤ lo) (hh : hi ≤ hi') : WLs W lo' hi' u ls :=
 ⟨owns_baseS h.row hl, fun k e => Nat.lt_of_lt_of_le (h.top k e) hh, fun p hp => (h.ways p hp).wide hl hh⟩
theorem WLs.cell {W : World} {lo hi : Nat} {u : Value} {ls : List LP} (h : WLs W lo hi u ls) {i : Nat} {p : LP} (hp : ls[i]? = some p) : ∃ g cap, u = .slice (some ⟨g, 0, none⟩) ls.length cap ∧ W.cell? ⟨g, i, none⟩ = some p.1 ∧ g < hi ∧ g < W.heap.size := by
 have hi' : i < ls.length := (List.getElem?_eq_some_iff.1 hp).1
 rcases h.row.2 with ⟨_, e⟩ | ⟨g, cap, cur, hv, _⟩
 ·omega
 ·refine ⟨g, cap, hv, ?_, h.top g (by rw [hv]; rfl), (h.row.lt g (by rw [hv]; rfl)).2⟩
  have := World.ownsRow.cellAt (by rw [← hv]; exact h.row) i (by omega)
  rw [this]
  have e := flat_get encLP_len ls i 0 p hp (by omega)
  simpa [encLP] using e
theorem WLs.push {W Wa W2 : World} {lo : Nat} {u u' : Value} {ls : List LP} {p : LP} (h : WLs W lo W.heap.size u ls) (hb : Below W.heap.size W Wa) (hp : WaysOwn Wa lo Wa.heap.size p.1 p.2)
  (row : W2.ownsRow lo 70 1 u' (ls.length + 1) (flat encLP (ls ++ [p]))) (hg : Wa.grownBy W2 u.ownBlock) : WLs W2 lo W2.heap.size u' (ls ++ [p]) := by
 have rowa := owns_below h.row hb (Nat.le_refl _)
 have hk : ∀ (k : Nat) (cs : Array Value) (t : TypeId) (fr : Nat × Nat), Wa.heap[k]? = some (.cells cs t fr) → t ≠ 70 → W2.heap[k]? = Wa.heap[k]? := fun k cs t fr hk ht => hg.block k (lt_of_heap hk) (own_type_ne2 rowa hk (fun e => ht e.symm))
 refine ⟨by simpa using row, fun k e => (row.lt k e).2, fun q hq => ?_⟩
 rcases List.mem_append.1 hq with h1 | h1
 ·exact (((h.ways q h1).below hb (Nat.le_refl _)).typed (by decide) (by decide) hk).wide (Nat.le_refl _) (Nat.le_trans hb.size hg.size)
 ·have : q = p := by simpa using h1
  subst this
  exact (hp.typed (by decide) (by decide) hk).wide (Nat.le_refl _) hg.size
end Go.Proofs.YtmijnjnihhemgaaGreat
