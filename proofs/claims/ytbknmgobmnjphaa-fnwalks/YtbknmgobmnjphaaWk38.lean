/-
  Offers sorted and put together: the mathematics of impl.bestOffers.
  impl.orderOfOffers, impl.offerOf: their contracts.
  impl.routesToNodes: its contract.
  slices.SortFunc of a row of offers of the call's own.
  impl.bestOffers: what holds while it goes on.
  spec.Newer, impl.Newer: their contracts.
  impl.bestOffers: its contract.
  impl.offerOf, impl.routesToThings: their contracts.
-/
import Derived.Test.YtbknmgobmnjphaaWk24
import Derived.Test.YtbknmgobmnjphaaWk21
import Derived.Shelf.SlSortCmp.WholeK
import Derived.Test.YtbknmgobmnjphaaWk25
import Derived.Test.YtbknmgobmnjphaaWk13
import Derived.Test.YtbknmgobmnjphaaWk8
import Derived.Test.YtbknmgobmnjphaaShelfG
import Derived.Shelf.SlSortCmp.NoneTotal
import Derived.Test.YtbknmgobmnjphaaWk2
import Derived.Test.YtbknmgobmnjphaaWk36
namespace Go.Proofs.Ytbknmgobmnjphaa
open Go.RowKit

set_option linter.unusedSimpArgs false

/-- impl.orderOfOffers -/
def ordQ (a b : RtD) : Int :=
  if orN [cmpN a.to b.to, cmpN a.kind b.kind] = 0 then
    (if a.kind = 4 then orN [cmpN a.far b.far, cmpN a.cost b.cost] else if a.kind = 3 then orN [0, cmpN a.cost b.cost] else 0)
  else orN [cmpN a.to b.to, cmpN a.kind b.kind]

theorem orN_two (x y : Int) : orN [x, y] = if x = 0 then y else x := by
  unfold orN orN orN
  split
  · split
    · rename_i h; exact h.symm
    · rfl
  · rfl

def farQ (a : RtD) : Int := if a.kind = 4 then a.far else 0
def costQ (a : RtD) : Int := if a.kind = 4 ∨ a.kind = 3 then a.cost else 0

theorem cmpN_lt (a b : Int) : cmpN a b < 0 ↔ a < b := by
  unfold cmpN
  split
  · omega
  · split <;> omega
theorem cmpN_eq (a b : Int) : cmpN a b = 0 ↔ a = b := by
  unfold cmpN
  split
  · omega
  · split <;> omega

theorem ordQ_lt (a b : RtD) : ordQ a b < 0 ↔ a.to < b.to ∨ (a.to = b.to ∧ (a.kind < b.kind ∨ (a.kind = b.kind ∧ (farQ a < farQ b ∨ (farQ a = farQ b ∧ costQ a < costQ b))))) := by
  unfold ordQ
  simp only [orN_two]
  have t1 := cmpN_lt a.to b.to
  have t2 := cmpN_eq a.to b.to
  have k1 := cmpN_lt a.kind b.kind
  have k2 := cmpN_eq a.kind b.kind
  have f1 := cmpN_lt a.far b.far
  have f2 := cmpN_eq a.far b.far
  have c1 := cmpN_lt a.cost b.cost
  by_cases e1 : cmpN a.to b.to = 0
  · have e1' := t2.1 e1
    simp only [e1, if_true]
    by_cases e2 : cmpN a.kind b.kind = 0
    · have e2' := k2.1 e2
      simp only [e2, if_true]
      unfold farQ costQ
      rw [← e2']
      by_cases h4 : a.kind = 4
      · simp only [h4, if_true, true_or, true_and]
        by_cases e3 : cmpN a.far b.far = 0
        · have e3' := f2.1 e3
          simp only [e3, if_true]
          omega
        · have : a.far ≠ b.far := fun h => e3 (f2.2 h)
          simp only [e3, if_false]
          omega
      · simp only [h4, if_false, false_or]
        by_cases h3 : a.kind = 3
        · simp only [h3, if_true, true_and]
          omega
        · simp only [h3, if_false]
          omega
    · have : a.kind ≠ b.kind := fun h => e2 (k2.2 h)
      simp only [e2, if_false]
      omega
  · have : a.to ≠ b.to := fun h => e1 (t2.2 h)
    simp only [e1, if_false]
    omega

theorem ordQ_eq (a b : RtD) : ordQ a b = 0 ↔ a.to = b.to ∧ a.kind = b.kind ∧ farQ a = farQ b ∧ costQ a = costQ b := by
  unfold ordQ
  simp only [orN_two]
  have t2 := cmpN_eq a.to b.to
  have k2 := cmpN_eq a.kind b.kind
  have f2 := cmpN_eq a.far b.far
  have c1 := cmpN_eq a.cost b.cost
  by_cases e1 : cmpN a.to b.to = 0
  · have e1' := t2.1 e1
    simp only [e1, if_true]
    by_cases e2 : cmpN a.kind b.kind = 0
    · have e2' := k2.1 e2
      simp only [e2, if_true]
      unfold farQ costQ
      rw [← e2']
      by_cases h4 : a.kind = 4
      · simp only [h4, if_true, true_or, true_and]
        by_cases e3 : cmpN a.far b.far = 0
        · have e3' := f2.1 e3
          simp only [e3, if_true]
          omega
        · have e3' : a.far ≠ b.far := fun h => e3 (f2.2 h)
          simp only [e3, if_false]
          exact ⟨fun h => h.elim, fun h => e3' (by omega)⟩
      · simp only [h4, if_false, false_or]
        by_cases h3 : a.kind = 3
        · simp only [h3, if_true, true_and]
          omega
        · simp only [h3, if_false]
          simp [e1']
    · have e2' : a.kind ≠ b.kind := fun h => e2 (k2.2 h)
      simp only [e2, if_false]
      exact ⟨fun h => h.elim, fun h => e2' h.2.1⟩
  · have e1' : a.to ≠ b.to := fun h => e1 (t2.2 h)
    simp only [e1, if_false]
    exact ⟨fun h => h.elim, fun h => e1' h.1⟩

/-- an element of a row of routes: the route, and the row of its hops -/
abbrev QS := RtD × Option Addr × Nat × Nat

instance : Inhabited QS := ⟨(zeroQD, none, 0, 0)⟩

/-- the ranked way that a route to a thing is -/
def wOf (q : RtD) : WayD := ⟨q.to, if q.kind = 4 then 4000000000000 + q.far * 1000000 + q.cost else 3000000000000 + q.cost, q.hops⟩

/-- routes to things as they are offered -/
structure OffR (q : RtD) : Prop where
  thing : q.thing = true
  kind : q.kind = 3 ∧ q.far = 0 ∨ q.kind = 4
  cost : 0 ≤ q.cost ∧ q.cost ≤ 61000
  far : 0 ≤ q.far ∧ q.far ≤ 1000
  asc : q.hops.Pairwise (· < ·)
  hop6 : Hop6 q.hops
  node : 1 ≤ q.to ∧ q.to ≤ 9

theorem OffR.rt {q : RtD} (h : OffR q) : rtOf (wOf q) = q := by
  obtain ⟨h1, h3, h4, h5, _, _, _⟩ := h
  obtain ⟨th, to, kind, cost, fa, hops⟩ := q
  simp only at h1 h3 h4 h5
  subst h1
  unfold rtOf wOf
  rcases h3 with ⟨h3, h6⟩ | h3
  · subst h3
    subst h6
    simp only [show ¬ ((3 : Int) = 4) by omega, if_false]
    rw [if_pos (by omega)]
    congr 1
    omega
  · subst h3
    simp only [if_true]
    rw [if_neg (by omega)]
    congr 1 <;> omega

/-- the order of offers, in ranks -/
theorem OffR.lt {a b : RtD} (ha : OffR a) (hb : OffR b) : ordQ a b < 0 ↔ a.to < b.to ∨ (a.to = b.to ∧ (wOf a).cost < (wOf b).cost) := by
  rw [ordQ_lt]
  unfold wOf farQ costQ
  have h1 := ha.kind
  have h2 := hb.kind
  have h3 := ha.cost
  have h4 := hb.cost
  have h5 := ha.far
  have h6 := hb.far
  rcases h1 with ⟨h1, g1⟩ | h1 <;> rcases h2 with ⟨h2, g2⟩ | h2 <;> simp only [h1, h2, if_true, show ¬ ((3 : Int) = 4) by omega, show ¬ ((4 : Int) = 3) by omega, if_false, or_true, true_or, true_and, false_and, or_false, and_false] <;> first | omega | (constructor <;> intro h <;> first | exact h.elim | omega)

theorem OffR.eq {a b : RtD} (ha : OffR a) (hb : OffR b) : ordQ a b = 0 ↔ a.to = b.to ∧ (wOf a).cost = (wOf b).cost := by
  rw [ordQ_eq]
  unfold wOf farQ costQ
  have h1 := ha.kind
  have h2 := hb.kind
  have h3 := ha.cost
  have h4 := hb.cost
  have h5 := ha.far
  have h6 := hb.far
  rcases h1 with ⟨h1, g1⟩ | h1 <;> rcases h2 with ⟨h2, g2⟩ | h2 <;> simp only [h1, h2, if_true, show ¬ ((3 : Int) = 4) by omega, show ¬ ((4 : Int) = 3) by omega, if_false, or_true, true_or, true_and, false_and, or_false, and_false] <;> first | omega | (constructor <;> intro h <;> first | exact h.elim | omega)

/-- offers in their order -/
def SortedQ (qs : List RtD) : Prop := qs.Pairwise (fun a b => ¬ ordQ b a < 0)

/-- the best of the first offers -/
def BestQ (qs : List RtD) (bs : List RtD) : Prop := IsBest (fun to d => ∃ q ∈ qs, d = wOf q ∧ q.to = to) (bs.map wOf)

theorem findW_push {ds : List WayD} {d : WayD} (h : ∀ x ∈ ds, x.to < d.to) (to : Int) : findW (ds ++ [d]) to = if to = d.to then moreW togI (findW ds to) (some d) else findW ds to := by
  rw [findW_append]
  by_cases e : to = d.to
  · rw [if_pos e]
    subst e
    have h1 : findW ds d.to = none := by
      cases e : findW ds d.to with
      | none => rfl
      | some x => have := findW_some e; have := h x this.1; omega
    rw [h1]
    simp [findW, moreW]
  · rw [if_neg e]
    have h2 : findW [d] to = none := by simp [findW]; omega
    rw [h2]
    simp

theorem findW_last {ds : List WayD} {d : WayD} (h : AscW (ds ++ [d])) : findW (ds ++ [d]) d.to = some d := findW_of h (by simp)

theorem ascW_last {ds : List WayD} {d e : WayD} (h : AscW (ds ++ [d])) (he : e.to = d.to) : AscW (ds ++ [e]) := by
  unfold AscW at *
  rw [List.pairwise_append] at *
  refine ⟨h.1, by simp, fun x hx y hy => ?_⟩
  have : y = e := by simpa using hy
  subst this
  rw [he]
  exact h.2.2 x hx d (by simp)

theorem findW_swap {ds : List WayD} {d e : WayD} (he : e.to = d.to) {to : Int} (hn : to ≠ d.to) : findW (ds ++ [e]) to = findW (ds ++ [d]) to := by
  rw [findW_append, findW_append]
  have h1 : findW [d] to = none := by simp [findW]; omega
  have h2 : findW [e] to = none := by simp [findW]; omega
  rw [h1, h2]

theorem wOf_hop6 {qs : List RtD} (hq : ∀ q ∈ qs, OffR q) : ∀ to w, (∃ q ∈ qs, w = wOf q ∧ q.to = to) → Hop6 w.hops := by
  rintro to w ⟨q, hq', rfl, _⟩
  exact (hq q hq').hop6

theorem bestQ_congr {qs : List RtD} {q : RtD} {ds : List WayD} (h : IsBest (fun to d => (∃ x ∈ qs, d = wOf x ∧ x.to = to) ∨ (d = wOf q ∧ (wOf q).to = to)) ds) : IsBest (fun to d => ∃ x ∈ qs ++ [q], d = wOf x ∧ x.to = to) ds :=
  h.congr (fun to d => by
    constructor
    · rintro (⟨x, h1, h2⟩ | ⟨h1, h2⟩)
      · exact ⟨x, List.mem_append.2 (.inl h1), h2⟩
      · exact ⟨q, by simp, h1, h2⟩
    · rintro ⟨x, h1, h2⟩
      rcases List.mem_append.1 h1 with h3 | h3
      · exact .inl ⟨x, h3, h2⟩
      · have : x = q := by simpa using h3
        subst this
        exact .inr h2)

/-- an offer of another thing -/
theorem BestQ.push {qs bs : List RtD} {q : RtD} (h : BestQ qs bs) (hq : ∀ x ∈ qs, OffR x) (ho : OffR q) (hlt : ∀ b ∈ bs, b.to < q.to) : BestQ (qs ++ [q]) (bs ++ [q]) := by
  unfold BestQ at *
  refine bestQ_congr (h.putT togOk_I (wOf_hop6 hq) ho.asc ho.hop6 ?_ ?_)
  · rw [List.map_append]
    unfold AscW
    rw [List.pairwise_append]
    refine ⟨h.1, by simp, fun x hx y hy => ?_⟩
    obtain ⟨b, hb, rfl⟩ := List.mem_map.1 hx
    have : y = wOf q := by simpa using hy
    subst this
    exact hlt b hb
  · intro to
    rw [List.map_append]
    exact findW_push (fun x hx => by
      obtain ⟨b, hb, rfl⟩ := List.mem_map.1 hx
      exact hlt b hb) to

/-- one as good as the last -/
theorem BestQ.join {qs bs : List RtD} {b q : RtD} (h : BestQ qs (bs ++ [b])) (hq : ∀ x ∈ qs, OffR x) (hb : OffR b) (ho : OffR q) (he : ordQ b q = 0) : BestQ (qs ++ [q]) (bs ++ [{ b with hops := hopsI b.hops q.hops }]) := by
  have e := (hb.eq ho).1 he
  unfold BestQ at *
  rw [List.map_append] at h ⊢
  simp only [List.map_cons, List.map_nil] at h ⊢
  obtain ⟨j, hj⟩ : ∃ j, j = wOf { b with hops := hopsI b.hops q.hops } := ⟨_, rfl⟩
  have hjt : j.to = (wOf b).to := by rw [hj]; rfl
  have hl : j = togI (wOf b) (wOf q) := by
    rw [hj]
    unfold togI betterB
    rw [if_neg (by simp; omega), if_neg (by simp; omega)]
    rfl
  rw [← hj]
  have hA := ascW_last h.1 hjt
  refine bestQ_congr (h.putT togOk_I (wOf_hop6 hq) ho.asc ho.hop6 hA ?_)
  intro to
  by_cases e2 : to = (wOf q).to
  · rw [if_pos e2]
    have h1 : to = (wOf b).to := e2.trans e.1.symm
    subst h1
    rw [findW_last h.1, ← hjt, findW_last hA, hl]
    rfl
  · rw [if_neg e2]
    exact findW_swap hjt (by rw [show (wOf b).to = (wOf q).to from e.1]; exact e2)

/-- one that is worse than the last -/
theorem BestQ.pass {qs bs : List RtD} {b q : RtD} (h : BestQ qs (bs ++ [b])) (hq : ∀ x ∈ qs, OffR x) (hb : OffR b) (ho : OffR q) (ht : b.to = q.to) (he : ordQ b q < 0) : BestQ (qs ++ [q]) (bs ++ [b]) := by
  have e := (hb.lt ho).1 he
  unfold BestQ at *
  have hA := h.1
  refine bestQ_congr (h.putT togOk_I (wOf_hop6 hq) ho.asc ho.hop6 hA ?_)
  intro to
  by_cases e2 : to = (wOf q).to
  · rw [if_pos e2]
    subst e2
    have h1 : (wOf q).to = (wOf b).to := ht.symm
    rw [List.map_append] at hA ⊢
    simp only [List.map_cons, List.map_nil] at hA ⊢
    rw [h1, findW_last hA]
    show some (wOf b) = some (togI (wOf b) (wOf q))
    unfold togI betterB
    rw [if_pos (by simp; omega)]
  · rw [if_neg e2]
end Go.Proofs.Ytbknmgobmnjphaa
namespace Go.Proofs.Ytbknmgobmnjphaa
open Go.RowKit

set_option linter.unusedSimpArgs false

end Go.Proofs.Ytbknmgobmnjphaa
namespace Go.Proofs.Ytbknmgobmnjphaa
open Go.RowKit

set_option linter.unusedSimpArgs false

theorem encQ_one (x : RtD) (a : Option Addr) (n c : Nat) : ∀ u ∈ encQ (x, .slice a n c), u.oneCell' = true := by
  intro u hu
  simp only [encQ, List.mem_cons, List.not_mem_nil, or_false] at hu
  rcases hu with rfl | rfl | rfl | rfl | rfl | rfl <;> rfl

/-- the route to a node, its hops those of the way -/
def nodeQ (kind : Int) (p : WP) : QP := (⟨false, p.1.to, kind, p.1.cost, 0, p.1.hops⟩, p.2)

def nodesQ (kind src : Int) (ws : List WP) : List QP := (ws.filter (fun p => p.1.to != src)).map (nodeQ kind)

theorem nodesQ_fst (kind src : Int) (ws : List WP) : fstsQ (nodesQ kind src ws) = nodesR kind src (fstsW ws) := by
  unfold fstsQ nodesQ nodesR fstsW
  rw [List.filter_map, List.map_map, List.map_map]
  rfl

theorem nodesQ_len (kind src : Int) (ws : List WP) : (nodesQ kind src ws).length ≤ ws.length := by
  unfold nodesQ
  rw [List.length_map]
  exact List.length_filter_le _ _

theorem nodesQ_yes {kind src : Int} {ws : List WP} {k : Nat} {p : WP} (h : ws[k]? = some p) (hn : p.1.to ≠ src) : nodesQ kind src (ws.take (k + 1)) = nodesQ kind src (ws.take k) ++ [nodeQ kind p] := by
  obtain ⟨hk, e⟩ := List.getElem?_eq_some_iff.1 h
  unfold nodesQ
  rw [List.take_succ_eq_append_getElem hk, e, List.filter_append, List.map_append]
  simp [hn]

theorem nodesQ_no {kind src : Int} {ws : List WP} {k : Nat} {p : WP} (h : ws[k]? = some p) (hn : p.1.to = src) : nodesQ kind src (ws.take (k + 1)) = nodesQ kind src (ws.take k) := by
  obtain ⟨hk, e⟩ := List.getElem?_eq_some_iff.1 h
  unfold nodesQ
  rw [List.take_succ_eq_append_getElem hk, e, List.filter_append, List.map_append]
  simp [hn]

theorem nodesQ_hop {W : World} {lo hi : Nat} {v : Value} {ws : List WP} (h : WaysOwn W lo hi v ws) (kind src : Int) : ∀ q ∈ nodesQ kind src ws, RHopOwn W lo hi q := by
  intro q hq
  unfold nodesQ at hq
  obtain ⟨p, hp, rfl⟩ := List.mem_map.1 hq
  exact h.nears p (List.mem_filter.1 hp).1

theorem nodesQ_apart {W : World} {lo hi : Nat} {v : Value} {ws : List WP} (h : WaysOwn W lo hi v ws) (kind src : Int) : (nodesQ kind src ws).Pairwise ApartQ := by
  unfold nodesQ
  rw [List.pairwise_map]
  exact (h.apart.sublist (List.filter_sublist)).imp (fun h => h)

end Go.Proofs.Ytbknmgobmnjphaa
namespace Go.Proofs.Ytbknmgobmnjphaa
open Go.RowKit

set_option linter.unusedSimpArgs false

end Go.Proofs.Ytbknmgobmnjphaa
namespace Go.Proofs.Ytbknmgobmnjphaa
open Go.RowKit

set_option linter.unusedSimpArgs false

/-- one cell of a row of the call's own -/
theorem owns_setC {W : World} {base g cap n sz j : Nat} {e : TypeId} {xs : List Value} {u : Value} (h : W.ownsRow base e sz (.slice (some ⟨g, 0, none⟩) n cap) n xs) (hj : j < n * sz) : (W.setCell ⟨g, j, none⟩ u).ownsRow base e sz (.slice (some ⟨g, 0, none⟩) n cap) n (xs.set j u) := by
  rcases h.2 with ⟨e0, _⟩ | ⟨g', cap', cur, e0, hb, hg, hn, hm, hs, ht⟩
  · cases e0
  · injection e0 with e1 _ e3
    injection e1 with e1
    injection e1 with e1
    subst e1
    subst e3
    refine ⟨by rw [List.length_set]; exact h.1, .inr ⟨g, cap, cur.setIfInBounds j u, rfl, hb, heap_setCell_same W g j _ _ u hg, hn, hm, by simpa using hs, ?_⟩⟩
    rw [← ht]
    apply List.ext_getElem?
    intro i
    rw [List.getElem?_take, List.getElem?_set, Array.toList_setIfInBounds, List.getElem?_set]
    have hcl : n * sz ≤ cur.size := by rw [hs]; exact Nat.mul_le_mul_right sz hn
    by_cases hi : i < n * sz
    · rw [if_pos hi, List.getElem?_take, if_pos hi]
      by_cases hij : j = i
      · subst hij
        have h1 : j < cur.toList.length := by rw [Array.length_toList]; omega
        have h2 : j < (cur.toList.take (n * sz)).length := by rw [List.length_take]; omega
        rw [if_pos rfl, if_pos rfl, if_pos h1, if_pos h2]
      · simp [hij]
    · rw [if_neg hi, List.getElem?_take, if_neg hi]
      have : j ≠ i := by omega
      simp [this]

theorem flat_last {b0 : List QP} {b : QP} {u : Value} {l : List Int} : (flat encQ (b0 ++ [b])).set (b0.length * 6 + 5) u = flat encQ (b0 ++ [({ b.1 with hops := l }, u)]) := by
  rw [flat_append, flat_append, List.set_append_right _ _ (by rw [flat_len encQ_len]; omega), flat_len encQ_len, show b0.length * 6 + 5 - b0.length * 6 = 5 by omega]
  rfl

theorem qhop_row_ne {W : World} {lo lo2 hi n size2 : Nat} {v : Value} {xs : List Value} {q : QP} (hq : RHopOwn W lo hi q) (hr : W.ownsRow lo2 44 size2 v n xs) (j : Nat) (hj : q.2.ownBlock = some j) : some j ≠ v.ownBlock := by
  intro e
  rcases hr.2 with ⟨h0, _⟩ | ⟨g, cap, cur, hv, _, hh, _⟩
  · rw [h0] at e; simp [Value.ownBlock] at e
  · rw [hv] at e
    simp [Value.ownBlock] at e
    subst e
    exact own_type_ne2 hq.1 hh (by decide) hj.symm

/-- one more route -/
theorem RtsOwn.push {W Wa W2 : World} {lo : Nat} {v v' : Value} {qs : List QP} {p : QP} (h : RtsOwn W lo W.heap.size v qs) (hb : Below W.heap.size W Wa) (hp : RHopOwn Wa lo Wa.heap.size p) (hap : ∀ q ∈ qs, ApartQ q p)
    (row : W2.ownsRow lo 44 6 v' (qs ++ [p]).length (flat encQ (qs ++ [p]))) (hg : Wa.grownBy W2 v.ownBlock) : RtsOwn W2 lo W2.heap.size v' (qs ++ [p]) where
  row := row
  top := fun k hk => (row.lt k hk).2
  apart := by
    rw [List.pairwise_append]
    exact ⟨h.apart, by simp, fun a ha b hb => by (have : b = p := by simpa using hb); subst this; exact hap a ha⟩
  nears := by
    have rowa := owns_below h.row hb (Nat.le_refl _)
    have key : ∀ q, RHopOwn Wa lo Wa.heap.size q → RHopOwn W2 lo W2.heap.size q := fun q hq =>
      ⟨owns_keepB hq.1 (fun j hj => hg.block j (hq.2 j hj) (qhop_row_ne hq rowa j hj)), fun k hk => Nat.lt_of_lt_of_le (hq.2 k hk) hg.size⟩
    intro q hq
    rcases List.mem_append.1 hq with h1 | h1
    · exact key q (((h.nears q h1).keep (W' := Wa) (fun j _ h2 _ => hb.block j h2)).wide (Nat.le_refl _) hb.size)
    · have : q = p := by simpa using h1
      subst this
      exact key q hp

/-- the last route's hops anew -/
theorem RtsOwn.last {W Wa : World} {lo g n cap : Nat} {u : Value} {l : List Int} {b0 : List QP} {b : QP} (h : RtsOwn W lo W.heap.size (.slice (some ⟨g, 0, none⟩) n cap) (b0 ++ [b])) (hn : (b0 ++ [b]).length = n) (hb : Below W.heap.size W Wa) (hu : Wa.ownsRow W.heap.size 3 1 u l.length (flat intE l)) (hlo : lo ≤ W.heap.size) :
    RtsOwn (Wa.setCell ⟨g, b0.length * 6 + 5, none⟩ u) lo (Wa.setCell ⟨g, b0.length * 6 + 5, none⟩ u).heap.size (.slice (some ⟨g, 0, none⟩) n cap) (b0 ++ [({ b.1 with hops := l }, u)]) := by
  subst hn
  have rowa := owns_below h.row hb (Nat.le_refl _)
  have hG := grown_set Wa g (b0.length * 6 + 5) u
  have row := owns_setC (u := u) (j := b0.length * 6 + 5) rowa (by simp; omega)
  rw [flat_last (l := l)] at row
  have hsz : (Wa.setCell ⟨g, b0.length * 6 + 5, none⟩ u).heap.size = Wa.heap.size := by simp
  have hlen : (b0 ++ [({ b.1 with hops := l }, u)] : List QP).length = (b0 ++ [b]).length := by simp
  have key : ∀ q, RHopOwn Wa lo Wa.heap.size q → RHopOwn (Wa.setCell ⟨g, b0.length * 6 + 5, none⟩ u) lo (Wa.setCell ⟨g, b0.length * 6 + 5, none⟩ u).heap.size q := fun q hq =>
    ⟨owns_keepB hq.1 (fun j hj => hG.block j (hq.2 j hj) (by have := qhop_row_ne hq rowa j hj; simpa [Value.ownBlock] using this)), fun k hk => by rw [hsz]; exact hq.2 k hk⟩
  refine ⟨by rw [hlen]; exact row, fun k hk => ?_, fun q hq => ?_, ?_⟩
  · rw [hsz]; exact (rowa.lt k hk).2
  · rcases List.mem_append.1 hq with h1 | h1
    · exact key q (((h.nears q (List.mem_append.2 (.inl h1))).keep (W' := Wa) (fun j _ h2 _ => hb.block j h2)).wide (Nat.le_refl _) hb.size)
    · have : q = ({ b.1 with hops := l }, u) := by simpa using h1
      subst this
      exact key _ ⟨owns_baseS hu hlo, fun k hk => (hu.lt k hk).2⟩
  · have ha := h.apart
    rw [List.pairwise_append] at ha ⊢
    refine ⟨ha.1, by simp, fun a hA c hC => ?_⟩
    have : c = ({ b.1 with hops := l }, u) := by simpa using hC
    subst this
    intro k hk e
    have h1 := (h.nears a (List.mem_append.2 (.inl hA))).2 k hk
    have h2 := (hu.lt k e).1
    omega

/-- best offers under way -/
structure BI (W : World) (B : Nat) (w2 : World) (qs : List QP) (k : Nat) (x : Value) (bs : List QP) : Prop where
  own : RtsOwn W B W.heap.size x bs
  new : ∀ j, x.ownBlock = some j → w2.heap.size ≤ j
  best : BestQ (fstsQ (qs.take k)) (fstsQ bs)
  off : ∀ b ∈ bs, OffR b.1
  ord : ∀ b ∈ bs, ∀ q ∈ qs.drop k, ¬ ordQ q.1 b.1 < 0
  apartR : ∀ b ∈ bs, ∀ q ∈ qs.drop k, ApartQ b q
  below : Below w2.heap.size w2 W

theorem drop_step {α : Type} {qs : List α} {k : Nat} {q : α} (h : qs[k]? = some q) : qs.drop k = q :: qs.drop (k + 1) := by
  obtain ⟨hk, e⟩ := List.getElem?_eq_some_iff.1 h
  rw [List.drop_eq_getElem_cons hk, e]

theorem fstsQ_take {qs : List QP} {k : Nat} {q : QP} (h : qs[k]? = some q) : fstsQ (qs.take (k + 1)) = fstsQ (qs.take k) ++ [q.1] := by
  obtain ⟨hk, e⟩ := List.getElem?_eq_some_iff.1 h
  unfold fstsQ
  rw [List.take_succ_eq_append_getElem hk, e]
  simp

theorem fstsQ_append (a b : List QP) : fstsQ (a ++ b) = fstsQ a ++ fstsQ b := by simp [fstsQ]

theorem sorted_later {qs : List QP} (hs : SortedQ (fstsQ qs)) {k : Nat} {q : QP} (h : qs[k]? = some q) : ∀ r ∈ qs.drop (k + 1), ¬ ordQ r.1 q.1 < 0 := by
  unfold SortedQ fstsQ at hs
  rw [List.pairwise_map] at hs
  have := List.Pairwise.sublist (List.drop_sublist k qs) hs
  rw [drop_step h] at this
  exact (List.pairwise_cons.1 this).1

theorem apart_later {qs : List QP} (hs : qs.Pairwise ApartQ) {k : Nat} {q : QP} (h : qs[k]? = some q) : ∀ r ∈ qs.drop (k + 1), ApartQ q r := by
  have := List.Pairwise.sublist (List.drop_sublist k qs) hs
  rw [drop_step h] at this
  exact (List.pairwise_cons.1 this).1

theorem BI.offT {W : World} {B : Nat} {w2 : World} {qs bs : List QP} {k : Nat} {x : Value} (_h : BI W B w2 qs k x bs) (hq : ∀ q ∈ qs, OffR q.1) : ∀ y ∈ fstsQ (qs.take k), OffR y := by
  intro y hy
  obtain ⟨q, hq', rfl⟩ := List.mem_map.1 hy
  exact hq q (List.mem_of_mem_take hq')

/-- all best ones are to things before that of the next offer, where the last is -/
theorem BI.lt {W : World} {B : Nat} {w2 : World} {qs b0 : List QP} {b q : QP} {k : Nat} {x : Value} (h : BI W B w2 qs k x (b0 ++ [b])) (hq : ∀ q ∈ qs, OffR q.1) (hk : qs[k]? = some q) (hne : b.1.to ≠ q.1.to) : ∀ c ∈ fstsQ (b0 ++ [b]), c.to < q.1.to := by
  have hob := h.off b (by simp)
  have hoq := hq q (List.mem_of_getElem? hk)
  have h1 := h.ord b (by simp) q (by rw [drop_step hk]; simp)
  rw [hoq.lt hob] at h1
  have hb : b.1.to < q.1.to := by omega
  have hA := h.best.1
  rw [fstsQ_append, List.map_append] at hA
  unfold AscW at hA
  rw [List.pairwise_append] at hA
  intro c hc
  rw [fstsQ_append] at hc
  rcases List.mem_append.1 hc with h2 | h2
  · have := hA.2.2 (wOf c) (List.mem_map_of_mem h2) (wOf b.1) (by simp [fstsQ])
    have h3 : c.to < b.1.to := this
    omega
  · have : c = b.1 := by simpa [fstsQ] using h2
    subst this
    exact hb

theorem BI.worse {W : World} {B : Nat} {w2 : World} {qs b0 : List QP} {b q : QP} {k : Nat} {x : Value} (h : BI W B w2 qs k x (b0 ++ [b])) (hq : ∀ q ∈ qs, OffR q.1) (hk : qs[k]? = some q) (ht : b.1.to = q.1.to) (hne : ordQ b.1 q.1 ≠ 0) : ordQ b.1 q.1 < 0 := by
  have hob := h.off b (by simp)
  have hoq := hq q (List.mem_of_getElem? hk)
  have h1 := h.ord b (by simp) q (by rw [drop_step hk]; simp)
  rw [hoq.lt hob] at h1
  rw [hob.lt hoq]
  have h2 : ¬ (b.1.to = q.1.to ∧ (wOf b.1).cost = (wOf q.1).cost) := fun e => hne ((hob.eq hoq).2 e)
  omega

/-- one more -/
theorem BI.push {W Wa W2 : World} {B : Nat} {w2 : World} {qs bs : List QP} {q : QP} {k : Nat} {x x' : Value} (h : BI W B w2 qs k x bs) (hq : ∀ q ∈ qs, OffR q.1) (hs : SortedQ (fstsQ qs)) (ha : qs.Pairwise ApartQ) (hk : qs[k]? = some q) (hlt : ∀ c ∈ fstsQ bs, c.to < q.1.to)
    (hb : Below W.heap.size W Wa) (hp : RHopOwn Wa B Wa.heap.size q) (row : W2.ownsRow B 44 6 x' (bs ++ [q]).length (flat encQ (bs ++ [q]))) (hg : Wa.grownBy W2 x.ownBlock) (hat : ∀ j, x'.ownBlock = some j → x.ownBlock = some j ∨ Wa.heap.size ≤ j) : BI W2 B w2 qs (k + 1) x' (bs ++ [q]) where
  own := h.own.push hb hp (fun b hb' => h.apartR b hb' q (by rw [drop_step hk]; simp)) row hg
  new := fun j hj => by
    rcases hat j hj with h1 | h1
    · exact h.new j h1
    · have := h.below.size
      have := hb.size
      omega
  best := by
    rw [fstsQ_take hk, fstsQ_append]
    exact h.best.push (h.offT hq) (hq q (List.mem_of_getElem? hk)) hlt
  off := fun b hb' => by
    rcases List.mem_append.1 hb' with h1 | h1
    · exact h.off b h1
    · have : b = q := by simpa using h1
      subst this
      exact hq b (List.mem_of_getElem? hk)
  ord := fun b hb' r hr => by
    rcases List.mem_append.1 hb' with h1 | h1
    · exact h.ord b h1 r (by rw [drop_step hk]; exact List.mem_cons_of_mem _ hr)
    · have : b = q := by simpa using h1
      subst this
      exact sorted_later hs hk r hr
  apartR := fun b hb' r hr => by
    rcases List.mem_append.1 hb' with h1 | h1
    · exact h.apartR b h1 r (by rw [drop_step hk]; exact List.mem_cons_of_mem _ hr)
    · have : b = q := by simpa using h1
      subst this
      exact apart_later ha hk r hr
  below := (h.below.trans (hb.mono h.below.size)).grown hg (Nat.le_trans h.below.size hb.size) h.new

/-- one that is worse -/
theorem BI.pass {W Wa : World} {B : Nat} {w2 : World} {qs b0 : List QP} {b q : QP} {k : Nat} {x : Value} (h : BI W B w2 qs k x (b0 ++ [b])) (hq : ∀ q ∈ qs, OffR q.1) (hk : qs[k]? = some q) (ht : b.1.to = q.1.to) (hne : ordQ b.1 q.1 ≠ 0) (hb : Below W.heap.size W Wa) : BI Wa B w2 qs (k + 1) x (b0 ++ [b]) where
  own := (h.own.below hb (Nat.le_refl _)).wide (Nat.le_refl _) hb.size
  new := h.new
  best := by
    rw [fstsQ_take hk, fstsQ_append]
    have h1 := h.best
    rw [fstsQ_append] at h1
    exact h1.pass (h.offT hq) (h.off b (by simp)) (hq q (List.mem_of_getElem? hk)) ht (h.worse hq hk ht hne)
  off := h.off
  ord := fun c hc r hr => h.ord c hc r (by rw [drop_step hk]; exact List.mem_cons_of_mem _ hr)
  apartR := fun c hc r hr => h.apartR c hc r (by rw [drop_step hk]; exact List.mem_cons_of_mem _ hr)
  below := h.below.trans (hb.mono h.below.size)

/-- one as good as the last -/
theorem BI.join {W Wa : World} {B g n cap : Nat} {w2 : World} {qs b0 : List QP} {b q : QP} {k : Nat} {u : Value} (h : BI W B w2 qs k (.slice (some ⟨g, 0, none⟩) n cap) (b0 ++ [b])) (hn : (b0 ++ [b]).length = n) (hq : ∀ q ∈ qs, OffR q.1) (hk : qs[k]? = some q) (he : ordQ b.1 q.1 = 0) (hB : B ≤ w2.heap.size) (hqt : ∀ r ∈ qs, ∀ j, r.2.ownBlock = some j → j < w2.heap.size)
    (hb : Below W.heap.size W Wa) (hu : Wa.ownsRow W.heap.size 3 1 u (hopsI b.1.hops q.1.hops).length (flat intE (hopsI b.1.hops q.1.hops))) : BI (Wa.setCell ⟨g, b0.length * 6 + 5, none⟩ u) B w2 qs (k + 1) (.slice (some ⟨g, 0, none⟩) n cap) (b0 ++ [({ b.1 with hops := hopsI b.1.hops q.1.hops }, u)]) where
  own := h.own.last hn hb hu (Nat.le_trans hB h.below.size)
  new := h.new
  best := by
    rw [fstsQ_take hk, fstsQ_append]
    have h1 := h.best
    rw [fstsQ_append] at h1
    exact h1.join (h.offT hq) (h.off b (by simp)) (hq q (List.mem_of_getElem? hk)) he
  off := fun c hc => by
    rcases List.mem_append.1 hc with h1 | h1
    · exact h.off c (List.mem_append.2 (.inl h1))
    · have : c = ({ b.1 with hops := hopsI b.1.hops q.1.hops }, u) := by simpa using h1
      subst this
      have hb' := h.off b (by simp)
      have hq' := hq q (List.mem_of_getElem? hk)
      exact ⟨hb'.thing, hb'.kind, hb'.cost, hb'.far, hopsI_asc _ _, fun z hz => by
        rcases hopsI_mem.1 hz with h2 | h2
        · exact hb'.hop6 z h2
        · exact hq'.hop6 z h2, hb'.node⟩
  ord := fun c hc r hr => by
    have hr' : r ∈ qs.drop k := by rw [drop_step hk]; exact List.mem_cons_of_mem _ hr
    rcases List.mem_append.1 hc with h1 | h1
    · exact h.ord c (List.mem_append.2 (.inl h1)) r hr'
    · have : c = ({ b.1 with hops := hopsI b.1.hops q.1.hops }, u) := by simpa using h1
      subst this
      exact h.ord b (by simp) r hr'
  apartR := fun c hc r hr => by
    have hr' : r ∈ qs.drop k := by rw [drop_step hk]; exact List.mem_cons_of_mem _ hr
    rcases List.mem_append.1 hc with h1 | h1
    · exact h.apartR c (List.mem_append.2 (.inl h1)) r hr'
    · have : c = ({ b.1 with hops := hopsI b.1.hops q.1.hops }, u) := by simpa using h1
      subst this
      intro j hj e
      have h2 := (hu.lt j hj).1
      have h3 := hqt r (List.mem_of_mem_drop hr) j e
      have := h.below.size
      omega
  below := (h.below.trans (hb.mono h.below.size)).grown (grown_set Wa g _ u) (Nat.le_trans h.below.size hb.size) (fun j hj => h.new j hj)
end Go.Proofs.Ytbknmgobmnjphaa
namespace Go.Proofs.Ytbknmgobmnjphaa
open Go.RowKit

set_option linter.unusedSimpArgs false

end Go.Proofs.Ytbknmgobmnjphaa
namespace Go.Proofs.Ytbknmgobmnjphaa
open Go.RowKit

set_option linter.unusedSimpArgs false

def OffL (bs : List QP) : Prop := ∀ b ∈ bs, OffR b.1

end Go.Proofs.Ytbknmgobmnjphaa
namespace Go.Proofs.Ytbknmgobmnjphaa
open Go.RowKit

set_option linter.unusedSimpArgs false

def offQ (r : RecD) (d : WayD) : RtD := if r.far then ⟨true, r.key, 4, d.cost, r.cost, d.hops⟩ else ⟨true, r.key, 3, r.cost + d.cost, 0, d.hops⟩

/-- what the first records offer -/
def OffK (xs : List RecD) (ds es : List WayD) (src : Int) (k : Nat) (ys : List RtD) : Prop := ∀ y, y ∈ ys ↔ ∃ r ∈ xs.take k, r.kind = 3 ∧ r.cost < 60000 ∧ ∃ d, ownerW ds es src r.owner = some d ∧ y = offQ r d

theorem OffK.more {xs : List RecD} {ds es : List WayD} {src : Int} {k : Nat} {ys : List RtD} {r : RecD} {d : WayD} (h : OffK xs ds es src k ys) (hr : xs[k]? = some r) (h1 : r.kind = 3) (h2 : r.cost < 60000) (h3 : ownerW ds es src r.owner = some d) : OffK xs ds es src (k + 1) (ys ++ [offQ r d]) := by
  obtain ⟨hk, e⟩ := List.getElem?_eq_some_iff.1 hr
  intro y
  rw [List.mem_append, h y, List.take_succ_eq_append_getElem hk, e]
  constructor
  · rintro (⟨x, hx, ht⟩ | h4)
    · exact ⟨x, List.mem_append.2 (.inl hx), ht⟩
    · have : y = offQ r d := by simpa using h4
      exact ⟨r, List.mem_append.2 (.inr (by simp)), h1, h2, d, h3, this⟩
  · rintro ⟨x, hx, g1, g2, d', g3, g4⟩
    rcases List.mem_append.1 hx with h5 | h5
    · exact .inl ⟨x, h5, g1, g2, d', g3, g4⟩
    · have : x = r := by simpa using h5
      subst this
      rw [h3] at g3
      cases g3
      exact .inr (by simp [g4])

theorem rtOf_all {bs : List QP} (h : OffL bs) : ((fstsQ bs).map wOf).map rtOf = fstsQ bs := by
  rw [List.map_map]
  have : ∀ y ∈ fstsQ bs, (rtOf ∘ wOf) y = y := fun y hy => by
    obtain ⟨b, hb, rfl⟩ := List.mem_map.1 hy
    exact (h b hb).rt
  conv => rhs; rw [← List.map_id (fstsQ bs)]
  exact List.map_congr_left this

theorem offL_push {os : List QP} {p : QP} (h : OffL os) (hp : OffR p.1) : OffL (os ++ [p]) := fun b hb => by
  rcases List.mem_append.1 hb with h1 | h1
  · exact h b h1
  · have : b = p := by simpa using h1
    subst this
    exact hp

end Go.Proofs.Ytbknmgobmnjphaa
