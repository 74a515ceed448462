/-
  Who follows tables of ways within areas comes there: the mathematics.
  Tables of all nodes (lists of lists of lines): laws.szLineSS, toLineSS, eqLineSS, markLineSS.
  Tables of nodes, under way.
-/
import Derived.Test.YtbknmgobmnjphaaWk8
import Derived.Test.YtbknmgobmnjphaaWk24
import Derived.Test.YtbknmgobmnjphaaWk25
import Derived.Test.YtbknmgobmnjphaaWk28
namespace Go.Proofs.Ytbknmgobmnjphaa
open Go.RowKit

set_option linter.unusedSimpArgs false

/-! ### there are shortest ways -/

section
variable {L : Nat → Nat → Int} {K : Int} {src : Nat}

theorem inv_start (hs : IsNode src) : Inv L src (fun _ => false) (fun v => if v = src then 0 else -1) (fun _ => []) where
  fnode := fun v h => by cases h
  cnode := fun v h => by
    by_cases e : v = src
    · rw [e]; exact hs
    · simp [e] at h
  start := by simp
  start0 := rfl
  closed := fun u v h => by cases h
  pred := fun v hv h => by simp [hv] at h
  mono := fun u v h => by cases h
  hop := fun v hv x => by
    constructor
    · intro h; cases h
    · rintro ⟨_, u, h, _⟩; cases h
  asc := fun v => List.Pairwise.nil
  rng := fun v x h => by cases h

open Classical in
/-- the hops behind going on from u, as a list -/
noncomputable def goneH (L : Nat → Nat → Int) (src : Nat) (c : Nat → Int) (h : Nat → List Int) (u v : Nat) : List Int :=
  ([1, 2, 3, 4, 5, 6] : List Int).filter (fun x => decide ((x ∈ h v ∧ relaxC L c u v = c v) ∨ (0 < L u v ∧ relaxC L c u v = c u + L u v ∧ OverHop src h u v x)))

open Classical in
theorem gone_relax {F : Nat → Bool} {c : Nat → Int} {h : Nat → List Int} (I : Inv L src F c h) (hL : Links L K) (u v : Nat) : RelaxH L src c h u v (goneH L src c h u v) := by
  refine ⟨?_, fun x => ?_⟩
  · unfold goneH
    exact List.Pairwise.filter _ (by decide)
  · unfold goneH
    rw [List.mem_filter, decide_eq_true_eq]
    refine ⟨fun h => h.2, fun h => ⟨?_, h⟩⟩
    have hr : 1 ≤ x ∧ x ≤ 6 := by
      rcases h with ⟨h1, _⟩ | ⟨h1, _, h3⟩
      · exact I.rng v x h1
      · rcases h3 with ⟨_, rfl⟩ | ⟨_, h4⟩
        · have := (hL.node u v h1).2; unfold IsNode at this; omega
        · exact I.rng u x h4
    have : x = 1 ∨ x = 2 ∨ x = 3 ∨ x = 4 ∨ x = 5 ∨ x = 6 := by omega
    simpa using this

/-- a cheapest one of those that are not done -/
theorem least_open {F : Nat → Bool} {c : Nat → Int} : ∀ n : Nat, (∃ v, F v = false ∧ 0 ≤ c v ∧ (c v).toNat ≤ n) → ∃ u, F u = false ∧ 0 ≤ c u ∧ ∀ v, F v = false → 0 ≤ c v → c u ≤ c v
  | 0, ⟨v, h1, h2, h3⟩ => ⟨v, h1, h2, fun w _ hw => by omega⟩
  | n + 1, ⟨v, h1, h2, h3⟩ => by
    by_cases hx : ∃ v, F v = false ∧ 0 ≤ c v ∧ (c v).toNat ≤ n
    · exact least_open n hx
    · refine ⟨v, h1, h2, fun w hw hw0 => ?_⟩
      have : ¬ (c w).toNat ≤ n := fun h => hx ⟨w, hw, hw0, h⟩
      omega

theorem cardF_le (F : Nat → Bool) : cardF F ≤ 6 := by
  unfold cardF
  have h : ∀ b : Bool, b.toNat ≤ 1 := fun b => by cases b <;> decide
  have := h (F 1); have := h (F 2); have := h (F 3); have := h (F 4); have := h (F 5); have := h (F 6)
  omega

theorem fix_from (hL : Links L K) : ∀ (n : Nat) (F : Nat → Bool) (c : Nat → Int) (h : Nat → List Int), Inv L src F c h → 6 ≤ cardF F + n → ∃ c h, Fix L src c h
  | n, F, c, h, I, hn => by
    by_cases hx : ∃ v, F v = false ∧ 0 ≤ c v
    · obtain ⟨v, h1, h2⟩ := hx
      obtain ⟨u, hu, hu0, hmin⟩ := least_open (c v).toNat ⟨v, h1, h2, Nat.le_refl _⟩
      have hno := I.cnode u hu0
      have hc := card_add (F := F) hno hu
      have I' := I.step hL hu hu0 hmin (h' := fun v => goneH L src c h u v) (fun v => gone_relax I hL u v)
      cases n with
      | zero =>
        have := cardF_le (fun v => F v || v == u)
        omega
      | succ n => exact fix_from hL n _ _ _ I' (by omega)
    · refine ⟨c, h, F, I, fun v hv => ?_⟩
      cases e : F v with
      | true => rfl
      | false => exact absurd ⟨v, e, hv⟩ hx

theorem exists_fix (hL : Links L K) (hs : IsNode src) : ∃ c h, Fix L src c h := fix_from hL 6 _ _ _ (inv_start hs) (by omega)

/-- ways to others begin with hops -/
theorem Fix.some_hop {c : Nat → Int} {h : Nat → List Int} (A : Fix L src c h) : ∀ (n t : Nat), t ≠ src → 0 ≤ c t → (c t).toNat ≤ n → ∃ x, x ∈ h t := by
  obtain ⟨F, I, hF⟩ := A
  intro n
  induction n with
  | zero =>
    intro t ht h0 hn
    obtain ⟨u, hu, hl, hc⟩ := I.pred t ht h0
    have := (I.fnode u hu).2
    omega
  | succ n ih =>
    intro t ht h0 hn
    obtain ⟨u, hu, hl, hc⟩ := I.pred t ht h0
    have hu0 := (I.fnode u hu).2
    by_cases e : u = src
    · exact ⟨(t : Int), (I.hop t ht _).2 ⟨h0, u, hu, hl, hc, .inl ⟨e, rfl⟩⟩⟩
    · obtain ⟨x, hx⟩ := ih u e hu0 (by omega)
      exact ⟨x, (I.hop t ht _).2 ⟨h0, u, hu, hl, hc, .inr ⟨e, hx⟩⟩⟩
end

theorem exists_ways (xs : List RecD) (area src : Int) : IsWays xs area src (waysD xs area src) := by
  have hx : ∃ ds, IsWays xs area src ds := by
    unfold IsWays
    split
    · rename_i h
      simp only [Bool.and_eq_true] at h
      obtain ⟨⟨h1, h2⟩, h3⟩ := h
      have hn : IsNode src.toNat := by
        simp [inB] at h2
        unfold IsNode
        omega
      obtain ⟨c, g, A⟩ := exists_fix (linkN_links (area := area) h1) hn
      exact ⟨collT c g 6, c, g, A, rfl⟩
    · exact ⟨[], rfl⟩
  obtain ⟨ds, hd⟩ := hx
  have e := hd.eq
  rw [← e]
  exact hd

/-! ### records of a node lie in its areas -/

def Home (ls : List Lk) (N : Nat) (xs : List RecD) : Prop := ∀ r ∈ xs, r.kind = 1 → r.area ∈ areasL ls r.owner ∧ 1 ≤ r.owner ∧ r.owner ≤ (N : Int)

theorem Home.put {ls : List Lk} {N : Nat} {xs : List RecD} {r : RecD} (h : Home ls N xs) (hr : r.kind = 1 → r.area ∈ areasL ls r.owner ∧ 1 ≤ r.owner ∧ r.owner ≤ (N : Int)) : Home ls N (putD xs r) := by
  intro q hq hk
  rcases mem_putI hq with h1 | h1
  · exact h q h1 hk
  · subst h1; exact hr hk

theorem home_areaK {ls : List Lk} {bs zs : List Bool} {N M : Nat} {v : Int} {xs : List RecD} (h : Home ls N xs) (hv : 1 ≤ v ∧ v ≤ (N : Int)) : ∀ j, j ≤ (areasL ls v).length → Home ls N (areaK ls bs zs M v (areasL ls v) xs j)
  | 0, _ => h
  | j + 1, hj => by
    obtain ⟨a, ha⟩ : ∃ a, (areasL ls v)[j]? = some a := ⟨(areasL ls v)[j], List.getElem?_eq_getElem (by omega)⟩
    rw [areaK_step ha]
    exact (home_areaK h hv j (by omega)).put (fun _ => ⟨List.mem_of_getElem? ha, hv⟩)

theorem home_idA {ls : List Lk} {bs zs : List Bool} {N M : Nat} : ∀ k, k ≤ N → Home ls N (idA ls bs zs M k)
  | 0, _ => fun r hr => by cases hr
  | k + 1, hk => by
    unfold idA
    split
    · exact home_areaK (home_idA k (by omega)) ⟨by omega, by omega⟩ _ (Nat.le_refl _)
    · exact home_idA k (by omega)

theorem home_idB {ls : List Lk} {N : Nat} {zs : List Bool} {ts : List Th} {xs : List RecD} (h : Home ls N xs) : ∀ k, Home ls N (idB ts zs xs k)
  | 0 => h
  | k + 1 => by
    unfold idB
    split
    · split
      · exact (home_idB h k).put (fun e => by simp [thgRec] at e)
      · exact home_idB h k
    · exact home_idB h k

theorem home_idC {ls : List Lk} {N : Nat} {zs : List Bool} {xs : List RecD} (h : Home ls N xs) : ∀ k, Home ls N (idC ls zs xs k)
  | 0 => h
  | k + 1 => by
    unfold idC
    split
    · intro r hr hk
      rcases mem_beyD hr with h1 | h1
      · exact home_idC h k r h1 hk
      · rw [hk] at h1; cases h1
    · exact home_idC h k

theorem home_idR {ls : List Lk} {N M : Nat} {zs : List Bool} {xs : List RecD} (h : Home ls N xs) : ∀ r, Home ls N (idR ls zs M xs r)
  | 0 => h
  | r + 1 => home_idC (home_idR h r) M

theorem home_ideal (ls : List Lk) (ts : List Th) (bs zs : List Bool) (N : Nat) : Home ls N (idealD ls ts bs zs N) := home_idR (home_idB (home_idA N (Nat.le_refl _)) _) 3

theorem home_node {ls : List Lk} {N : Nat} {xs : List RecD} (h : Home ls N xs) {area : Int} {u : Nat} (hn : nodeB xs area (u : Int) = true) : area ∈ areasL ls (u : Int) ∧ 1 ≤ u ∧ u ≤ N := by
  unfold nodeB findB at hn
  rcases atZ_cases xs (nodeR area (u : Int)) with h1 | ⟨k, x, h1, h2, h3⟩
  · rw [h1] at hn; simp at hn
  · simp only [sameKeyB, nodeR, Bool.and_eq_true, beq_iff_eq] at h3
    have h4 := h x (List.mem_of_getElem? h2) h3.1.1.2
    rw [h3.1.1.1, h3.1.2] at h4
    exact ⟨h4.1, by omega, by omega⟩

/-! ### one step nearer -/

theorem walk_step {ls : List Lk} {N : Nat} {xs : List RecD} (hs : storeB xs = true) (hm : Home ls N xs) {v : Nat} {t : Int} {ds : List WayD} {d : WayD} (hd : IsBest (withinS xs (areasL ls (v : Int)) (v : Int)) ds) (hf : findW ds t = some d) (ht : t ≠ (v : Int)) :
    d.hops ≠ [] ∧ ∀ x ∈ d.hops, ∃ u : Nat, x = (u : Int) ∧ 1 ≤ u ∧ u ≤ N ∧ ∀ es, IsBest (withinS xs (areasL ls (u : Int)) (u : Int)) es → ∃ e, findW es t = some e ∧ e.cost < d.cost := by
  have hb := hd.2 t
  rw [hf] at hb
  obtain ⟨h1, ⟨w, hw, hwc⟩, hle, _, hh⟩ := hb
  constructor
  · obtain ⟨hwt, a, ha, hwa⟩ := hw
    obtain ⟨c, g, A, e⟩ := ways_fix (exists_ways xs a (v : Int)) hwa
    rw [e] at hwa
    obtain ⟨m, m1, m2, m3, rfl⟩ := (coll_mem 6).1 hwa
    simp only at hwt hwc
    have hmv : m ≠ v := fun e => ht (by rw [← hwt, e])
    obtain ⟨x, hx⟩ := A.some_hop _ m hmv m3 (Nat.le_refl _)
    intro e0
    have : x ∈ d.hops := (hh x).2 ⟨_, ⟨hwt, a, ha, by rw [e]; exact hwa⟩, hwc, hx⟩
    rw [e0] at this
    cases this
  · intro x hx
    obtain ⟨w, ⟨hwt, a, ha, hwa⟩, hwc, hxw⟩ := (hh x).1 hx
    have hr := ((waysD_asc xs a (v : Int)).2 w hwa).1.hop6 x hxw
    obtain ⟨u, rfl⟩ : ∃ u : Nat, x = (u : Int) := ⟨x.toNat, by omega⟩
    have hu : 1 ≤ u ∧ u ≤ 6 := by omega
    obtain ⟨k1, k2, k3⟩ := (ways_hop hs (exists_ways xs a (v : Int)) hwa (by rw [hwt]; exact ht) hu (exists_ways xs a (u : Int))).1 hxw
    obtain ⟨n1, n2, n3⟩ := home_node hm (link_node hs k1)
    refine ⟨u, rfl, n2, n3, fun es he => ?_⟩
    have hb2 := he.2 t
    rcases wayTo_find (waysD xs a (u : Int)) w.to with ⟨_, g2⟩ | ⟨g1, _⟩
    · have hS : withinS xs (areasL ls (u : Int)) (u : Int) t (wayToD (waysD xs a (u : Int)) w.to) := by
        obtain ⟨g3, g4⟩ := findW_some g2
        exact ⟨g4.trans hwt, a, n1, g3⟩
      cases hfe : findW es t with
      | none => rw [hfe] at hb2; exact absurd hS (hb2 _)
      | some e =>
        rw [hfe] at hb2
        refine ⟨e, rfl, ?_⟩
        have := hb2.2.2.1 _ hS
        omega
    · rw [k2] at g1; cases g1

/-! ### tables of all nodes -/

/-- the table of each node is that of its routes -/
structure Tabs (ls : List Lk) (N : Nat) (xs : List RecD) (D : List (List LnD)) : Prop where
  len : D.length = N
  tab : ∀ v : Nat, 1 ≤ v → v ≤ N → ∃ l, IsRoutes xs (areasL ls (v : Int)) (bordB ls (v : Int)) (v : Int) l ∧ D[v - 1]? = some (tabD (l.map lnR))

/-- where no two are alike all stand in the table -/
theorem tabF_all : ∀ (xs acc : List LnD), (acc ++ xs).Pairwise (fun a b => ¬ (a.thing = b.thing ∧ a.to = b.to)) → xs.foldl tabS acc = acc ++ xs
  | [], acc, _ => by simp
  | x :: xs, acc, h => by
    have hno : idxZ acc x.thing x.to = -1 := idxZ_none (fun y hy => by
      rw [List.pairwise_append] at h
      have := h.2.2 y hy x (by simp)
      unfold isLn
      cases e : (y.thing == x.thing && y.to == x.to) with
      | false => rfl
      | true =>
        simp only [Bool.and_eq_true, beq_iff_eq] at e
        exact absurd e this)
    rw [List.foldl_cons, tabS_yes hno, tabF_all xs (acc ++ [x]) (by simpa using h)]
    simp

/-- the hops of a table to a node that has a way within -/
theorem hops_within {xs : List RecD} {al : List Int} {border : Bool} {src : Int} {l : List RtD} {ds : List WayD} (h : IsRoutes xs al border src l) (hd : IsBest (withinS xs al src) ds) {t : Int} {d : WayD} (hf : findW ds t = some d) (ht : t ≠ src) : hopsL (tabD (l.map lnR)) t = d.hops := by
  obtain ⟨ds', es, ts, h1, h2, h3, rfl⟩ := h
  have e1 := hd.unique h1
  subst e1
  have hrel := routes_rel hd h2 h3.1
  obtain ⟨hdm, hdt⟩ := findW_some hf
  have hr : (⟨false, d.to, 1, d.cost, 0, d.hops⟩ : RtD) ∈ nodesR 1 src ds ++ nodesR 2 src es ++ ts.map rtOf := by
    rw [List.mem_append, List.mem_append]
    refine .inl (.inl ?_)
    unfold nodesR
    exact List.mem_map.2 ⟨d, List.mem_filter.2 ⟨hdm, by rw [hdt]; simpa using ht⟩, rfl⟩
  generalize nodesR 1 src ds ++ nodesR 2 src es ++ ts.map rtOf = l at hrel hr
  have hpw : (l.map lnR).Pairwise (fun a b => ¬ (a.thing = b.thing ∧ a.to = b.to)) := by
    rw [List.pairwise_map]
    exact hrel.imp (fun h => h.once)
  have e : tabD (l.map lnR) = l.map lnR := by
    have := tabF_all (l.map lnR) [] (by simpa using hpw)
    simpa [tabD] using this
  rw [e]
  obtain ⟨i, hi, he⟩ := List.getElem_of_mem hr
  have hli : (l.map lnR)[i]? = some ⟨false, d.to, d.hops⟩ := by
    rw [List.getElem?_map, List.getElem?_eq_getElem hi, he]
    rfl
  have hx : idxZ (l.map lnR) false t = (i : Int) := idxZ_hit hli (by simp [isLn, hdt]) (fun y hy => by
    obtain ⟨j, hj, rfl⟩ := List.mem_take_iff_getElem.1 hy
    rw [List.pairwise_iff_getElem] at hpw
    have hil : i < (l.map lnR).length := (List.getElem?_eq_some_iff.1 hli).1
    have h9 := hpw j i (by omega) hil (by omega)
    rw [(List.getElem?_eq_some_iff.1 hli).2] at h9
    unfold isLn
    cases e9 : ((l.map lnR)[j].thing == false && (l.map lnR)[j].to == t) with
    | false => rfl
    | true =>
      simp only [Bool.and_eq_true, beq_iff_eq] at e9
      exact absurd ⟨e9.1, e9.2.trans hdt.symm⟩ h9)
  exact hopsL_hit hx hli

/-- what it costs from u to t, within -/
def CostIs (ls : List Lk) (xs : List RecD) (t : Int) (u : Nat) (c : Int) : Prop := ∃ es e, IsBest (withinS xs (areasL ls (u : Int)) (u : Int)) es ∧ findW es t = some e ∧ e.cost = c

theorem CostIs.unique {ls : List Lk} {xs : List RecD} {t : Int} {u : Nat} {c c' : Int} (h : CostIs ls xs t u c) (h' : CostIs ls xs t u c') : c = c' := by
  obtain ⟨es, e, h1, h2, h3⟩ := h
  obtain ⟨es', e', h1', h2', h3'⟩ := h'
  have := h1.unique h1'
  subst this
  rw [h2] at h2'
  cases h2'
  rw [← h3, ← h3']

def Less (ls : List Lk) (xs : List RecD) (t : Int) (u v : Nat) : Prop := ∃ c c', CostIs ls xs t u c ∧ CostIs ls xs t v c' ∧ c < c'

open Classical in
/-- how many are nearer -/
noncomputable def rankW (ls : List Lk) (xs : List RecD) (t : Int) (v : Nat) : Nat := cardF (fun u => decide (Less ls xs t u v))

open Classical in
theorem rank_lt {ls : List Lk} {xs : List RecD} {t : Int} {u v : Nat} (hu : 1 ≤ u ∧ u ≤ 6) (h : Less ls xs t u v) : rankW ls xs t u < rankW ls xs t v := by
  unfold rankW
  have h0 : (fun w => decide (Less ls xs t w u)) u = false := by
    simp only [decide_eq_false_iff_not]
    rintro ⟨c, c', h1, h2, h3⟩
    have := h1.unique h2
    omega
  have h1 := card_add (F := fun w => decide (Less ls xs t w u)) hu h0
  have h2 := card_mono (F := fun w => decide (Less ls xs t w u) || w == u) (G := fun w => decide (Less ls xs t w v)) (fun w hw => by
    simp only [Bool.or_eq_true, decide_eq_true_eq, beq_iff_eq] at hw
    simp only [decide_eq_true_eq]
    rcases hw with hw | rfl
    · obtain ⟨c1, c2, a1, a2, a3⟩ := hw
      obtain ⟨d1, d2, b1, b2, b3⟩ := h
      have := a2.unique b1
      exact ⟨c1, d2, a1, b2, by omega⟩
    · exact h)
  omega

theorem walk_there {ls : List Lk} {N : Nat} {xs : List RecD} {D : List (List LnD)} (T : Tabs ls N xs D) (hs : storeB xs = true) (hm : Home ls N xs) (hN : N ≤ 6) (t : Int) (ps : List Int) :
    ∀ (k v : Nat), 1 ≤ v → v ≤ N → (∃ c, CostIs ls xs t v c) → rankW ls xs t v ≤ k → ∀ (n : Nat) (way : List Int), k ≤ n → ∃ rest, walkF D t ps n (v : Int) way = some (way ++ rest) ∧ ((v : Int) = t ∧ rest = [] ∨ (v : Int) ≠ t ∧ rest.getLast? = some t)
  | k, v, hv1, hvN, ⟨c, es, e, hb, hf, hc⟩, hr, n, way, hn => by
    by_cases hvt : (v : Int) = t
    · refine ⟨[], ?_, .inl ⟨hvt, rfl⟩⟩
      cases n <;> simp [walkF, hvt]
    · obtain ⟨hne, hst⟩ := walk_step hs hm hb hf (fun h => hvt h.symm)
      obtain ⟨l, hl, hD⟩ := T.tab v hv1 hvN
      have hh : hopsD D (v : Int) t = e.hops := by
        rw [hopsD_on (i := v - 1) (by omega) hD]
        exact hops_within hl hb hf (fun h => hvt h.symm)
      have hless : ∀ x ∈ e.hops, ∃ u : Nat, x = (u : Int) ∧ 1 ≤ u ∧ u ≤ N ∧ (∃ c, CostIs ls xs t u c) ∧ rankW ls xs t u < rankW ls xs t v := fun x hx => by
        obtain ⟨u, h1, h2, h3, h4⟩ := hst x hx
        obtain ⟨l', hl', _⟩ := T.tab u h2 h3
        obtain ⟨ds', es', ts', g1, _⟩ := hl'
        obtain ⟨e', he', hlt⟩ := h4 ds' g1
        have hcu : CostIs ls xs t u e'.cost := ⟨ds', e', g1, he', rfl⟩
        exact ⟨u, h1, h2, h3, ⟨_, hcu⟩, rank_lt ⟨h2, by omega⟩ ⟨_, _, hcu, ⟨es, e, hb, hf, rfl⟩, hlt⟩⟩
      obtain ⟨x0, hx0⟩ := List.exists_mem_of_ne_nil _ hne
      obtain ⟨_, _, _, _, _, hr0⟩ := hless x0 hx0
      obtain ⟨n', rfl⟩ : ∃ n', n = n' + 1 := ⟨n - 1, by omega⟩
      obtain ⟨k', rfl⟩ : ∃ k', k = k' + 1 := ⟨k - 1, by omega⟩
      obtain ⟨j, _, _, hjg⟩ := hopAt_get (p := pickD ps (12 - (n' + 1))) hne
      obtain ⟨u, hu, hu1, huN, hcu, hru⟩ := hless _ (List.mem_of_getElem? hjg)
      obtain ⟨rest, h1, h2⟩ := walk_there T hs hm hN t ps k' u hu1 huN hcu (by omega) n' (way ++ [(u : Int)]) (by omega)
      refine ⟨(u : Int) :: rest, ?_, .inr ⟨hvt, ?_⟩⟩
      · rw [walkF, if_neg hvt, hh, if_neg hne, hu, h1]
        simp
      · rcases h2 with ⟨h3, rfl⟩ | ⟨_, h3⟩
        · simp [h3]
        · rw [List.getLast?_cons, h3]
          rfl

/-- who follows comes there -/
theorem walks_ok {ls : List Lk} {N : Nat} {xs : List RecD} {D : List (List LnD)} (T : Tabs ls N xs D) (hs : storeB xs = true) (hm : Home ls N xs) (hN : N ≤ 6) (ps : List Int) {v : Nat} (hv1 : 1 ≤ v) (hvN : v ≤ N) {l : List RtD} (hl : IsRoutes xs (areasL ls (v : Int)) (bordB ls (v : Int)) (v : Int) l) {r : RtD} (hr : r ∈ l) (hk : r.kind = 1) :
    walkB D (v : Int) r.to ps = true ∧ ∃ rest, rest ≠ [] ∧ walkD D (v : Int) r.to ps = (v : Int) :: rest ∧ rest.getLast? = some r.to := by
  obtain ⟨ds, es, ts, h1, h2, h3, rfl⟩ := hl
  have hn : ∃ d ∈ ds, d.to ≠ (v : Int) ∧ r = ⟨false, d.to, 1, d.cost, 0, d.hops⟩ := by
    rcases List.mem_append.1 hr with h | h
    · rcases List.mem_append.1 h with h | h
      · exact nodesR_mem h
      · obtain ⟨d, _, _, e⟩ := nodesR_mem h
        rw [e] at hk
        cases hk
    · obtain ⟨d, _, e⟩ := List.mem_map.1 h
      have := (rtOf_thing d).2.2
      rw [e] at this
      omega
  obtain ⟨d, hd, hdv, rfl⟩ := hn
  have hf := findW_of h1.1 hd
  have hrank : rankW ls xs d.to v ≤ 12 := by
    have := cardF_le (fun u => @decide (Less ls xs d.to u v) (Classical.propDecidable _))
    unfold rankW
    omega
  obtain ⟨rest, g1, g2⟩ := walk_there T hs hm hN d.to ps 12 v hv1 hvN ⟨_, ds, d, h1, hf, rfl⟩ hrank 12 [(v : Int)] (Nat.le_refl _)
  simp only
  have g3 : walkO D (v : Int) d.to ps = some ((v : Int) :: rest) := g1
  unfold walkB walkD
  rw [g3]
  rcases g2 with ⟨g4, _⟩ | ⟨_, g4⟩
  · exact absurd g4.symm hdv
  · exact ⟨rfl, rest, (fun e => by rw [e] at g4; cases g4), rfl, g4⟩
end Go.Proofs.Ytbknmgobmnjphaa
namespace Go.Proofs.Ytbknmgobmnjphaa
open Go.RowKit

/-- a list of lines as a row has it, and the lines -/
abbrev LLP := Value × List JP

def encLL (p : LLP) : List Value := [p.1]

theorem encLL_len (p : LLP) : (encLL p).length = 1 := rfl

/-- what a list of lists tells -/
def datLL (ls : List LLP) : List (List LnD) := ls.map (fun p => fstsJ p.2)

def LLAt (W : World) (v : Value) (ls : List LLP) (B : Nat) : Prop := StructsAt encLL 1 W v ls B ∧ ∀ p ∈ ls, LnsAt W p.1 p.2 B

theorem LLAt.shape {W : World} {v : Value} {ls : List LLP} {B : Nat} (h : LLAt W v ls B) : ∃ a cap, v = .slice a ls.length cap := by
  obtain ⟨⟨a, cap, h, _⟩, _⟩ := h
  exact ⟨a, cap, h⟩

theorem LLAt.later {W W' : World} {v : Value} {ls : List LLP} {B C : Nat} (h : LLAt W v ls B) (hb : Below C W W') (hBC : B ≤ C) : LLAt W' v ls B :=
  ⟨RowAt.later h.1 hb hBC, fun p hp => (h.2 p hp).later hb hBC⟩

theorem LLAt.more {W : World} {v : Value} {ls : List LLP} {B C : Nat} (h : LLAt W v ls B) (hBC : B ≤ C) : LLAt W v ls C :=
  ⟨RowAt.more h.1 hBC, fun p hp => (h.2 p hp).more hBC⟩

theorem LLAt.then {W W' : World} {v : Value} {ls : List LLP} (h : LLAt W v ls W.heap.size) (hb : Below W.heap.size W W') : LLAt W' v ls W'.heap.size := (h.later hb (Nat.le_refl _)).more hb.size

theorem LLAt.cell {W : World} {v : Value} {ls : List LLP} {B : Nat} (h : LLAt W v ls B) (i : Nat) (p : LLP) (hp : ls[i]? = some p) :
    ∃ b off cap, v = .slice (some ⟨b, off, none⟩) ls.length cap ∧ b < B ∧ W.cell? ⟨b, off + i, none⟩ = some p.1 ∧ LnsAt W p.1 p.2 B := by
  obtain ⟨b, off, cap, hv, hb, hc⟩ := StructsAt.cell h.1 encLL_len i p hp
  exact ⟨b, off, cap, hv, hb, by have := hc 0 _ rfl; simpa using this, h.2 p (List.mem_of_getElem? hp)⟩

def totLL (ls : List LLP) : Nat := (ls.map (fun p => 1 + totJ p.2)).sum

theorem totLL_len (ls : List LLP) : ls.length ≤ totLL ls := by
  induction ls with
  | nil => simp [totLL]
  | cons p ls ih => have : totLL (p :: ls) = 1 + totJ p.2 + totLL ls := by simp [totLL]
                    rw [this, List.length_cons]; omega

theorem totLL_mem {ls : List LLP} {p : LLP} (h : p ∈ ls) : totJ p.2 ≤ totLL ls := by
  induction ls with
  | nil => simp at h
  | cons q ls ih =>
    have e : totLL (q :: ls) = 1 + totJ q.2 + totLL ls := by simp [totLL]
    rw [e]
    rcases List.mem_cons.1 h with rfl | h1
    · omega
    · have := ih h1; omega

theorem totLL_D (ls : List LLP) : totLL ls = ((datLL ls).map (fun x => 1 + totJD x)).sum := by
  simp only [totLL, datLL, List.map_map, Function.comp_def, totJ_D]

theorem datLL_len (ls : List LLP) : (datLL ls).length = ls.length := by simp [datLL]

theorem datLL_at {ls : List LLP} {k : Nat} {p : LLP} (h : ls[k]? = some p) : (datLL ls)[k]? = some (fstsJ p.2) := by simp [datLL, h]

/-- tables of the caller's own: the outer row below f 0, the k-th list in blocks of f k .. f (k + 1) -/
structure LLOwn (W : World) (lo hi : Nat) (v : Value) (ls : List LLP) (f : Nat → Nat) : Prop where
  row : W.ownsRow lo 35 1 v ls.length (flat encLL ls)
  top : ∀ k, v.ownBlock = some k → k < f 0
  mono : ∀ i, f i ≤ f (i + 1)
  low : lo ≤ f 0
  high : f ls.length ≤ hi
  lists : ∀ i p, ls[i]? = some p → LnsOwn W (f i) (f (i + 1)) p.1 p.2

theorem mono_le {f : Nat → Nat} (h : ∀ i, f i ≤ f (i + 1)) {i j : Nat} (hij : i ≤ j) : f i ≤ f j := by
  induction j with
  | zero => have : i = 0 := by omega
            subst this; exact Nat.le_refl _
  | succ j ih =>
    rcases Nat.lt_or_ge i (j + 1) with hl | hl
    · exact Nat.le_trans (ih (by omega)) (h j)
    · have : i = j + 1 := by omega
      subst this; exact Nat.le_refl _

theorem LLOwn.lt {W : World} {lo hi : Nat} {v : Value} {ls : List LLP} {f : Nat → Nat} (h : LLOwn W lo hi v ls f) {i : Nat} {p : LLP} (hp : ls[i]? = some p) : lo ≤ f i ∧ f (i + 1) ≤ hi := by
  obtain ⟨hk, _⟩ := List.getElem?_eq_some_iff.1 hp
  exact ⟨Nat.le_trans h.low (mono_le h.mono (Nat.zero_le _)), Nat.le_trans (mono_le h.mono hk) h.high⟩

theorem LLOwn.keep {W W' : World} {lo hi : Nat} {v : Value} {ls : List LLP} {f : Nat → Nat} (h : LLOwn W lo hi v ls f) (hk : ∀ k, lo ≤ k → k < hi → k < W.heap.size → W'.heap[k]? = W.heap[k]?) : LLOwn W' lo hi v ls f where
  row := owns_keepB h.row (fun k e => hk k (h.row.lt k e).1 (Nat.lt_of_lt_of_le (h.top k e) (Nat.le_trans (mono_le h.mono (Nat.zero_le _)) h.high)) (h.row.lt k e).2)
  top := h.top
  mono := h.mono
  low := h.low
  high := h.high
  lists := fun i p hp => (h.lists i p hp).keep (fun k h1 h2 h3 => hk k (Nat.le_trans (h.lt hp).1 h1) (Nat.lt_of_lt_of_le h2 (h.lt hp).2) h3)

theorem LLOwn.below {W W' : World} {lo hi B : Nat} {v : Value} {ls : List LLP} {f : Nat → Nat} (h : LLOwn W lo hi v ls f) (hb : Below B W W') (hB : hi ≤ B) : LLOwn W' lo hi v ls f := h.keep (fun k _ h2 _ => hb.block k (by omega))

theorem LLOwn.at {W : World} {lo hi : Nat} {v : Value} {ls : List LLP} {f : Nat → Nat} (h : LLOwn W lo hi v ls f) : LLAt W v ls hi := by
  refine ⟨?_, fun p hp => ?_⟩
  · obtain ⟨a, cap, hv, h2⟩ := owns_rowAt h.row
    refine ⟨a, cap, hv, ?_⟩
    rcases h2 with h0 | ⟨b, off, ha, hb1, hx⟩
    · exact .inl h0
    · exact .inr ⟨b, off, ha, Nat.lt_of_lt_of_le (h.top b (by rw [hv, ha]; rfl)) (Nat.le_trans (mono_le h.mono (Nat.zero_le _)) h.high), hx⟩
  · obtain ⟨i, hi, e⟩ := List.getElem_of_mem hp
    have hp2 : ls[i]? = some p := by rw [← e]; exact List.getElem?_eq_getElem hi
    exact (h.lists i p hp2).at.more (h.lt hp2).2

theorem Try.infoLines : (Try.prog.info? 35).map (fun i => (i.zero, i.size, i.bytes)) = some (some (.slice none 0 0), 1, 24) := by kernel_rfl

end Go.Proofs.Ytbknmgobmnjphaa
namespace Go.Proofs.Ytbknmgobmnjphaa
open Go.RowKit

theorem owns_typedL {W W' : World} {base size n : Nat} {e T : TypeId} {v : Value} {xs : List Value} (h : W.ownsRow base e size v n xs) (hne : e ≠ T) (hk : ∀ (k : Nat) (cs : Array Value) (t : TypeId) (fr : Nat × Nat), W.heap[k]? = some (.cells cs t fr) → t ≠ T → W'.heap[k]? = W.heap[k]?) : W'.ownsRow base e size v n xs := by
  refine owns_keepB h (fun j hj => ?_)
  rcases h.2 with ⟨e1, _⟩ | ⟨g2, cap, cur, e1, _, hh, _⟩
  · rw [e1] at hj; cases hj
  · rw [e1] at hj
    simp [Value.ownBlock] at hj
    subst hj
    exact hk _ _ _ _ hh hne

theorem LnsOwn.typed {W W' : World} {lo hi : Nat} {T : TypeId} {v : Value} {ps : List JP} (h : LnsOwn W lo hi v ps) (h1 : (67 : TypeId) ≠ T) (h2 : (3 : TypeId) ≠ T) (hk : ∀ (k : Nat) (cs : Array Value) (t : TypeId) (fr : Nat × Nat), W.heap[k]? = some (.cells cs t fr) → t ≠ T → W'.heap[k]? = W.heap[k]?) : LnsOwn W' lo hi v ps :=
  ⟨owns_typedL h.row h1 hk, h.top, fun p hp => ⟨owns_typedL (h.nears p hp).1 h2 hk, (h.nears p hp).2⟩, h.apart⟩

/-- the row u of lists of lines; all that belongs to it lies in lo .. hi -/
structure LTs (W : World) (lo hi : Nat) (u : Value) (ls : List LLP) : Prop where
  row : W.ownsRow lo 35 1 u ls.length (flat encLL ls)
  top : ∀ k, u.ownBlock = some k → k < hi
  lists : ∀ p ∈ ls, LnsOwn W lo hi p.1 p.2

theorem LTs.below {W W' : World} {lo hi B : Nat} {u : Value} {ls : List LLP} (h : LTs W lo hi u ls) (hb : Below B W W') (hB : hi ≤ B) : LTs W' lo hi u ls :=
  ⟨owns_keepB h.row (fun k e => hb.block k (by have := h.top k e; omega)), h.top, fun p hp => (h.lists p hp).below hb hB⟩

theorem LTs.wide {W : World} {lo hi lo' hi' : Nat} {u : Value} {ls : List LLP} (h : LTs W lo hi u ls) (hl : lo' ≤ lo) (hh : hi ≤ hi') : LTs W lo' hi' u ls :=
  ⟨owns_baseS h.row hl, fun k e => Nat.lt_of_lt_of_le (h.top k e) hh, fun p hp => (h.lists p hp).wide hl hh⟩

theorem LTs.cell {W : World} {lo hi : Nat} {u : Value} {ls : List LLP} (h : LTs W lo hi u ls) {i : Nat} {p : LLP} (hp : ls[i]? = some p) : ∃ g cap, u = .slice (some ⟨g, 0, none⟩) ls.length cap ∧ W.cell? ⟨g, i, none⟩ = some p.1 ∧ g < hi ∧ g < W.heap.size := by
  have hi' : i < ls.length := (List.getElem?_eq_some_iff.1 hp).1
  rcases h.row.2 with ⟨_, e⟩ | ⟨g, cap, cur, hv, _⟩
  · omega
  · refine ⟨g, cap, hv, ?_, h.top g (by rw [hv]; rfl), (h.row.lt g (by rw [hv]; rfl)).2⟩
    have := World.ownsRow.cellAt (by rw [← hv]; exact h.row) i (by omega)
    rw [this]
    have e := flat_get encLL_len ls i 0 p hp (by omega)
    simpa [encLL] using e

/-- one more list of ways -/
theorem LTs.push {W Wa W2 : World} {lo : Nat} {u u' : Value} {ls : List LLP} {p : LLP} (h : LTs W lo W.heap.size u ls) (hb : Below W.heap.size W Wa) (hp : LnsOwn Wa lo Wa.heap.size p.1 p.2)
    (row : W2.ownsRow lo 35 1 u' (ls.length + 1) (flat encLL (ls ++ [p]))) (hg : Wa.grownBy W2 u.ownBlock) : LTs W2 lo W2.heap.size u' (ls ++ [p]) := by
  have rowa := owns_below h.row hb (Nat.le_refl _)
  have hk : ∀ (k : Nat) (cs : Array Value) (t : TypeId) (fr : Nat × Nat), Wa.heap[k]? = some (.cells cs t fr) → t ≠ 35 → W2.heap[k]? = Wa.heap[k]? := fun k cs t fr hk ht => hg.block k (lt_of_heap hk) (own_type_ne2 rowa hk (fun e => ht e.symm))
  refine ⟨by simpa using row, fun k e => (row.lt k e).2, fun q hq => ?_⟩
  rcases List.mem_append.1 hq with h1 | h1
  · exact (((h.lists q h1).below hb (Nat.le_refl _)).typed (by decide) (by decide) hk).wide (Nat.le_refl _) (Nat.le_trans hb.size hg.size)
  · have : q = p := by simpa using h1
    subst this
    exact (hp.typed (by decide) (by decide) hk).wide (Nat.le_refl _) hg.size

theorem LTs.at {W : World} {lo hi : Nat} {u : Value} {ls : List LLP} (h : LTs W lo hi u ls) : LLAt W u ls hi := by
  refine ⟨?_, fun p hp => (h.lists p hp).at⟩
  obtain ⟨a, cap, hv, h2⟩ := owns_rowAt h.row
  refine ⟨a, cap, hv, ?_⟩
  rcases h2 with h0 | ⟨b, off, ha, hb1, hx⟩
  · exact .inl h0
  · exact .inr ⟨b, off, ha, h.top b (by rw [hv, ha]; rfl), hx⟩

theorem encLL_one (a : Option Addr) (n c : Nat) (l : List JP) : ∀ u ∈ encLL (.slice a n c, l), u.oneCell' = true := by
  intro u hu
  simp [encLL] at hu
  subst hu
  rfl

theorem LTs.start (w : World) : LTs (w.alloc (.cells #[] 35)) w.heap.size (w.alloc (.cells #[] 35)).heap.size (.slice (some ⟨w.heap.size, 0, none⟩) 0 0) [] := by
  have h1 : (w.alloc (.cells #[] 35)).ownsRow w.heap.size 35 1 (.slice (some ⟨w.heap.size, 0, none⟩) 0 0) 0 (flat encLL []) := World.ownsRow_lit w #[] 0 (Nat.le_refl _) (by unfold maxLen; omega) (by simp)
  exact ⟨h1, fun k hk => (h1.lt k hk).2, by simp⟩
end Go.Proofs.Ytbknmgobmnjphaa
