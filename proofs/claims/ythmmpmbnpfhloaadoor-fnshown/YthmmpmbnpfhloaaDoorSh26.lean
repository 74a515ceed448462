/-
  The best of several ways to one node, with the hops of all that are as short: determined by the set of the ways.
  Rows of lists of ways.
-/
import Derived.Test.YthmmpmbnpfhloaaDoorSh24
import Derived.Test.YthmmpmbnpfhloaaDoorSh23
namespace Go.Proofs.YthmmpmbnpfhloaaDoor
open Go.RowKit

/-- hops are nodes -/
def Hop6 (l : List Int) : Prop := ∀ z ∈ l, 1 ≤ z ∧ z ≤ 6

/-- a way as it is told -/
structure GoodW (x : WayD) : Prop where
  node : 1 ≤ x.to ∧ x.to ≤ 6
  cost : 0 ≤ x.cost ∧ x.cost ≤ 60000
  asc : x.hops.Pairwise (· < ·)
  hop6 : Hop6 x.hops

theorem asc_len_from : ∀ {l : List Int} {a : Int}, l.Pairwise (· < ·) → (∀ z ∈ l, a ≤ z ∧ z ≤ 6) → (l.length : Int) ≤ 7 - a ∨ l = []
  | [], _, _, _ => .inr rfl
  | x :: xs, a, h, hr => by
    have h' := List.pairwise_cons.1 h
    have hx := hr x (by simp)
    rcases asc_len_from (a := x + 1) h'.2 (fun z hz => ⟨by have := h'.1 z hz; omega, (hr z (by simp [hz])).2⟩) with h1 | h1
    · left; simp; omega
    · left; subst h1; simp; omega

theorem asc6_len {l : List Int} (h : l.Pairwise (· < ·)) (h6 : Hop6 l) : l.length ≤ 6 := by
  rcases asc_len_from (a := 1) h h6 with h1 | h1
  · omega
  · subst h1; simp

theorem GoodW.len {x : WayD} (h : GoodW x) : x.hops.length ≤ 6 := asc6_len h.asc h.hop6

/-- a list of ways, ascending -/
def AscW (ds : List WayD) : Prop := ds.Pairwise (fun x y => x.to < y.to)

theorem ascW_ext : ∀ {a b : List WayD}, AscW a → AscW b → (∀ x, x ∈ a ↔ x ∈ b) → a = b
  | [], [], _, _, _ => rfl
  | [], y :: ys, _, _, h => by have := (h y).2 (by simp); cases this
  | x :: xs, [], _, _, h => by have := (h x).1 (by simp); cases this
  | x :: xs, y :: ys, ha, hb, h => by
    have ha' := List.pairwise_cons.1 ha
    have hb' := List.pairwise_cons.1 hb
    have hxy : x = y := by
      have h1 := (h x).1 (by simp)
      have h2 := (h y).2 (by simp)
      rcases List.mem_cons.1 h1 with e | e
      · exact e
      · rcases List.mem_cons.1 h2 with e2 | e2
        · exact e2.symm
        · have := ha'.1 y e2; have := hb'.1 x e; omega
    subst hxy
    have : xs = ys := by
      refine ascW_ext ha'.2 hb'.2 (fun z => ?_)
      have hz := h z
      constructor
      · intro hm
        have h1 := hz.1 (List.mem_cons_of_mem _ hm)
        rcases List.mem_cons.1 h1 with e | e
        · have := ha'.1 z hm; subst e; omega
        · exact e
      · intro hm
        have h1 := hz.2 (List.mem_cons_of_mem _ hm)
        rcases List.mem_cons.1 h1 with e | e
        · have := hb'.1 z hm; subst e; omega
        · exact e
    rw [this]

theorem findW_some {ds : List WayD} {to : Int} {w : WayD} (h : findW ds to = some w) : w ∈ ds ∧ w.to = to := by
  unfold findW at h
  exact ⟨List.mem_of_find?_eq_some h, by have := List.find?_some h; simpa using this⟩

theorem findW_none {ds : List WayD} {to : Int} (h : findW ds to = none) : ∀ w ∈ ds, w.to ≠ to := by
  unfold findW at h
  rw [List.find?_eq_none] at h
  intro w hw
  simpa using h w hw

theorem ascW_same {ds : List WayD} (h : AscW ds) {x y : WayD} (hx : x ∈ ds) (hy : y ∈ ds) (e : x.to = y.to) : x = y := by
  induction ds with
  | nil => cases hx
  | cons a ds ih =>
    have h' := List.pairwise_cons.1 h
    rcases List.mem_cons.1 hx with e1 | e1
    · rcases List.mem_cons.1 hy with e2 | e2
      · rw [e1, e2]
      · have := h'.1 y e2; subst e1; omega
    · rcases List.mem_cons.1 hy with e2 | e2
      · have := h'.1 x e1; subst e2; omega
      · exact ih h'.2 e1 e2

theorem findW_of {ds : List WayD} (h : AscW ds) {w : WayD} (hw : w ∈ ds) : findW ds w.to = some w := by
  cases e : findW ds w.to with
  | none => exact absurd rfl (findW_none e w hw)
  | some x =>
    have h1 := findW_some e
    rw [ascW_same h h1.1 hw h1.2]

/-- lists that tell of the same ways -/
theorem ascW_find {a b : List WayD} (ha : AscW a) (hb : AscW b) (h : ∀ to, findW a to = findW b to) : a = b := by
  refine ascW_ext ha hb (fun x => ⟨fun hx => ?_, fun hx => ?_⟩)
  · have := findW_of ha hx
    rw [h] at this
    exact (findW_some this).1
  · have := findW_of hb hx
    rw [← h] at this
    exact (findW_some this).1

/-- of the ways S to a node: the best, with the hops of all that are as short -/
def BestOf (to : Int) (S : WayD → Prop) : Option WayD → Prop
  | none => ∀ w, ¬ S w
  | some b => b.to = to ∧ (∃ w, S w ∧ w.cost = b.cost) ∧ (∀ w, S w → b.cost ≤ w.cost) ∧ b.hops.Pairwise (· < ·) ∧ ∀ x, x ∈ b.hops ↔ ∃ w, S w ∧ w.cost = b.cost ∧ x ∈ w.hops

theorem BestOf.unique {to : Int} {S : WayD → Prop} {o o' : Option WayD} (h : BestOf to S o) (h' : BestOf to S o') : o = o' := by
  cases o with
  | none =>
    cases o' with
    | none => rfl
    | some b =>
      obtain ⟨_, ⟨w, hw, _⟩, _⟩ := h'
      exact absurd hw (h w)
  | some a =>
    cases o' with
    | none =>
      obtain ⟨_, ⟨w, hw, _⟩, _⟩ := h
      exact absurd hw (h' w)
    | some b =>
      obtain ⟨h1, ⟨w, hw, e1⟩, h3, h4, h5⟩ := h
      obtain ⟨k1, ⟨v, hv, e2⟩, k3, k4, k5⟩ := h'
      have hc : a.cost = b.cost := by
        have := h3 v hv
        have := k3 w hw
        omega
      have hh : a.hops = b.hops := asc_ext h4 k4 (fun x => by rw [h5, k5, hc])
      cases a; cases b
      simp at *
      exact ⟨by rw [h1, k1], hc, hh⟩

theorem BestOf.congr {to : Int} {S T : WayD → Prop} {o : Option WayD} (h : BestOf to S o) (e : ∀ w, S w ↔ T w) : BestOf to T o := by
  have : S = T := funext fun w => propext (e w)
  rw [← this]
  exact h

/-- two ways to one node, Together -/
def TogOk (tog : WayD → WayD → WayD) : Prop := ∀ x y : WayD, Hop6 x.hops → Hop6 y.hops → (x.cost < y.cost → tog x y = x) ∧ (y.cost < x.cost → tog x y = y) ∧
  (x.cost = y.cost → (tog x y).to = x.to ∧ (tog x y).cost = x.cost ∧ (tog x y).hops.Pairwise (· < ·) ∧ ∀ z, z ∈ (tog x y).hops ↔ z ∈ x.hops ∨ z ∈ y.hops)

theorem togOk_D : TogOk togD := by
  intro x y hx hy
  unfold togD betterB
  refine ⟨fun h => by simp [h], fun h => ?_, fun h => ?_⟩
  · rw [if_neg (by simp; omega), if_pos (by simpa using h)]
  · rw [if_neg (by simp; omega), if_neg (by simp; omega)]
    refine ⟨rfl, rfl, addL_asc _ _, fun z => ?_⟩
    show z ∈ addL x.hops y.hops ↔ _
    rw [addL_mem]
    constructor
    · exact fun h => h.2.2
    · rintro (h1 | h1)
      · exact ⟨(hx z h1).1, (hx z h1).2, .inl h1⟩
      · exact ⟨(hy z h1).1, (hy z h1).2, .inr h1⟩

theorem togOk_I : TogOk togI := by
  intro x y hx hy
  unfold togI betterB
  refine ⟨fun h => by simp [h], fun h => ?_, fun h => ?_⟩
  · rw [if_neg (by simp; omega), if_pos (by simpa using h)]
  · rw [if_neg (by simp; omega), if_neg (by simp; omega)]
    exact ⟨rfl, rfl, hopsI_asc _ _, fun z => hopsI_mem⟩

theorem BestOf.hop6 {to : Int} {S : WayD → Prop} {b : WayD} (h : BestOf to S (some b)) (hS : ∀ w, S w → Hop6 w.hops) : Hop6 b.hops := by
  intro z hz
  obtain ⟨w, hw, _, hm⟩ := (h.2.2.2.2 z).1 hz
  exact hS w hw z hm

/-- one way more -/
theorem BestOf.add {tog : WayD → WayD → WayD} (ht : TogOk tog) {to : Int} {S : WayD → Prop} {o : Option WayD} {w : WayD} (h : BestOf to S o) (hS : ∀ w, S w → Hop6 w.hops) (hto : w.to = to) (hasc : w.hops.Pairwise (· < ·)) (h6 : Hop6 w.hops) : BestOf to (fun x => S x ∨ x = w) (moreW tog o (some w)) := by
  cases o with
  | none =>
    refine ⟨hto, ⟨w, .inr rfl, rfl⟩, fun x hx => ?_, hasc, fun x => ⟨fun hx => ⟨w, .inr rfl, rfl, hx⟩, ?_⟩⟩
    · rcases hx with h1 | rfl
      · exact absurd h1 (h x)
      · exact Int.le_refl _
    · rintro ⟨v, h1 | rfl, _, hm⟩
      · exact absurd h1 (h v)
      · exact hm
  | some b =>
    have hb6 := h.hop6 hS
    obtain ⟨h1, ⟨u, hu, e1⟩, h3, h4, h5⟩ := h
    obtain ⟨t1, t2, t3⟩ := ht b w hb6 h6
    show BestOf to _ (some (tog b w))
    rcases Int.lt_trichotomy b.cost w.cost with hl | hl | hl
    · rw [t1 hl]
      refine ⟨h1, ⟨u, .inl hu, e1⟩, fun x hx => ?_, h4, fun x => ?_⟩
      · rcases hx with hx | rfl
        · exact h3 x hx
        · omega
      · rw [h5]
        constructor
        · rintro ⟨v, hv, e, hm⟩
          exact ⟨v, .inl hv, e, hm⟩
        · rintro ⟨v, hv | rfl, e, hm⟩
          · exact ⟨v, hv, e, hm⟩
          · omega
    · obtain ⟨s1, s2, s3, s4⟩ := t3 hl
      refine ⟨by rw [s1, h1], ⟨w, .inr rfl, by rw [s2, hl]⟩, fun x hx => ?_, s3, fun x => ?_⟩
      · rw [s2]
        rcases hx with hx | rfl
        · exact h3 x hx
        · omega
      · rw [s4, h5, s2]
        constructor
        · rintro (⟨v, hv, e, hm⟩ | hm)
          · exact ⟨v, .inl hv, e, hm⟩
          · exact ⟨w, .inr rfl, hl.symm, hm⟩
        · rintro ⟨v, hv | rfl, e, hm⟩
          · exact .inl ⟨v, hv, e, hm⟩
          · exact .inr hm
    · rw [t2 hl]
      refine ⟨hto, ⟨w, .inr rfl, rfl⟩, fun x hx => ?_, hasc, fun x => ⟨fun hx => ⟨w, .inr rfl, rfl, hx⟩, ?_⟩⟩
      · rcases hx with hx | rfl
        · have := h3 x hx; omega
        · exact Int.le_refl _
      · rintro ⟨v, hv | rfl, e, hm⟩
        · have := h3 v hv; omega
        · exact hm

/-- a best way is a way as it is told -/
theorem BestOf.good {to : Int} {S : WayD → Prop} {b : WayD} (h : BestOf to S (some b)) (hS : ∀ w, S w → GoodW w ∧ w.to = to) : GoodW b := by
  have h6 := h.hop6 (fun w hw => (hS w hw).1.hop6)
  obtain ⟨h1, ⟨u, hu, e1⟩, h3, h4, h5⟩ := h
  have hg := hS u hu
  exact ⟨by rw [h1, ← hg.2]; exact hg.1.node, by rw [← e1]; exact hg.1.cost, h4, h6⟩

/-- an ascending list of ways that is told by sets of ways -/
def IsBest (S : Int → WayD → Prop) (ds : List WayD) : Prop := AscW ds ∧ ∀ to, BestOf to (S to) (findW ds to)

theorem IsBest.unique {S : Int → WayD → Prop} {a b : List WayD} (ha : IsBest S a) (hb : IsBest S b) : a = b :=
  ascW_find ha.1 hb.1 (fun to => (ha.2 to).unique (hb.2 to))

theorem IsBest.congr {S T : Int → WayD → Prop} {a : List WayD} (ha : IsBest S a) (e : ∀ to w, S to w ↔ T to w) : IsBest T a :=
  ⟨ha.1, fun to => (ha.2 to).congr (e to)⟩

theorem IsBest.good {S : Int → WayD → Prop} {ds : List WayD} (h : IsBest S ds) (hS : ∀ to w, S to w → GoodW w ∧ w.to = to) : ∀ w ∈ ds, GoodW w := by
  intro w hw
  have h1 := h.2 w.to
  rw [findW_of h.1 hw] at h1
  exact h1.good (hS w.to)

theorem asc_tos {ds : List WayD} (h : AscW ds) (hg : ∀ w ∈ ds, 1 ≤ w.to ∧ w.to ≤ 6) : ds.length ≤ 6 := by
  have h1 : (ds.map (·.to)).Pairwise (· < ·) := by rw [List.pairwise_map]; exact h
  have := asc6_len h1 (fun z hz => by
    obtain ⟨w, hw, rfl⟩ := List.mem_map.1 hz
    exact hg w hw)
  simpa using this

/-- one way more in a list -/
theorem IsBest.put {tog : WayD → WayD → WayD} (ht : TogOk tog) {S : Int → WayD → Prop} {ds es : List WayD} {w : WayD} (h : IsBest S ds) (hS : ∀ to w, S to w → GoodW w ∧ w.to = to) (hw : GoodW w) (he : AscW es) (hf : ∀ to, findW es to = if to = w.to then moreW tog (findW ds to) (some w) else findW ds to) : IsBest (fun to x => S to x ∨ (x = w ∧ w.to = to)) es := by
  refine ⟨he, fun to => ?_⟩
  rw [hf]
  by_cases e : to = w.to
  · rw [if_pos e]
    refine ((h.2 to).add ht (fun v hv => (hS to v hv).1.hop6) e.symm hw.asc hw.hop6).congr (fun x => ?_)
    constructor
    · rintro (h1 | h1)
      · exact .inl h1
      · exact .inr ⟨h1, e.symm⟩
    · rintro (h1 | h1)
      · exact .inl h1
      · exact .inr h1.1
  · rw [if_neg e]
    refine (h.2 to).congr (fun x => ⟨.inl, ?_⟩)
    rintro (h1 | h1)
    · exact h1
    · exact absurd h1.2.symm e

/-- what a search tells, member by member -/
theorem coll_mem {c : Nat → Int} {h : Nat → List Int} {w : WayD} : ∀ k : Nat, w ∈ collT c h k ↔ ∃ v : Nat, 1 ≤ v ∧ v ≤ k ∧ 0 ≤ c v ∧ w = ⟨(v : Int), c v, h v⟩
  | 0 => by simp [collT]; omega
  | k + 1 => by
    have ih := coll_mem (c := c) (h := h) (w := w) k
    rw [coll_step c h (by omega)]
    simp only [Nat.add_sub_cancel, List.mem_append]
    rw [ih]
    constructor
    · rintro (⟨v, h1, h2, h3⟩ | h4)
      · exact ⟨v, h1, by omega, h3⟩
      · split at h4
        · rename_i h0
          exact ⟨k + 1, by omega, by omega, h0, by simpa using h4⟩
        · simp at h4
    · rintro ⟨v, h1, h2, h3, h4⟩
      by_cases e : v = k + 1
      · subst e
        right
        rw [if_pos h3, h4]
        simp
      · exact .inl ⟨v, h1, by omega, h3, h4⟩

theorem coll_asc (c : Nat → Int) (h : Nat → List Int) : ∀ k : Nat, AscW (collT c h k)
  | 0 => by simp [collT, AscW]
  | k + 1 => by
    have ih := coll_asc c h k
    rw [coll_step c h (by omega)]
    simp only [Nat.add_sub_cancel]
    unfold AscW
    rw [List.pairwise_append]
    refine ⟨ih, by split <;> simp, fun a ha b hb => ?_⟩
    obtain ⟨v, h1, h2, _, rfl⟩ := (coll_mem k).1 ha
    split at hb
    · have hb' : b = ⟨((k + 1 : Nat) : Int), c (k + 1), h (k + 1)⟩ := by simpa using hb
      subst hb'
      show (v : Int) < ((k + 1 : Nat) : Int)
      omega
    · simp at hb

theorem card_mono {F G : Nat → Bool} (h : ∀ u, F u = true → G u = true) : cardF F ≤ cardF G := by
  have h1 : ∀ u, (F u).toNat ≤ (G u).toNat := fun u => by
    cases e : F u
    · simp
    · rw [h u e]; exact Nat.le_refl _
  unfold cardF
  have := h1 1; have := h1 2; have := h1 3; have := h1 4; have := h1 5; have := h1 6
  omega

/-- no way costs more than six links -/
theorem Fix.bound {L : Nat → Nat → Int} {src : Nat} {c : Nat → Int} {h : Nat → List Int} (A : Fix L src c h) (hL : Links L 1000) : ∀ (n v : Nat), 0 ≤ c v → (c v).toNat ≤ n → c v ≤ 1000 * (cardF (fun x => decide (0 ≤ c x ∧ c x < c v)) : Int) := by
  obtain ⟨F, I, hF⟩ := A
  intro n
  induction n with
  | zero =>
    intro v h0 hn
    have : c v = 0 := by omega
    omega
  | succ n ih =>
    intro v h0 hn
    by_cases hv : v = src
    · subst hv; rw [I.start]; omega
    · obtain ⟨u, hu, hl, hc⟩ := I.pred v hv h0
      have h1 := (I.fnode u hu).2
      have h2 := ih u h1 (by omega)
      have hle := hL.le u v
      have hcard : cardF (fun x => decide (0 ≤ c x ∧ c x < c u)) + 1 ≤ cardF (fun x => decide (0 ≤ c x ∧ c x < c v)) := by
        rw [← card_add (F := fun x => decide (0 ≤ c x ∧ c x < c u)) (u := u) (I.fnode u hu).1 (by simp)]
        refine card_mono (fun x hx => ?_)
        simp only [Bool.or_eq_true, decide_eq_true_eq, beq_iff_eq] at hx ⊢
        rcases hx with hx | rfl
        · omega
        · omega
      omega

theorem Fix.bound6 {L : Nat → Nat → Int} {src : Nat} {c : Nat → Int} {h : Nat → List Int} (A : Fix L src c h) (hL : Links L 1000) (v : Nat) (h0 : 0 ≤ c v) : c v ≤ 6000 := by
  have h1 := A.bound hL _ v h0 (Nat.le_refl _)
  have h2 := card_le (fun x => decide (0 ≤ c x ∧ c x < c v))
  omega

/-- what WaysIn tells is in order, and each is a way as it is told -/
theorem IsWays.asc {xs : List RecD} {area src : Int} {ds : List WayD} (h : IsWays xs area src ds) : AscW ds ∧ ∀ w ∈ ds, GoodW w ∧ w.cost ≤ 6000 := by
  unfold IsWays at h
  split at h
  · rename_i e
    have hst : storeB xs = true := by
      simp only [Bool.and_eq_true] at e
      exact e.1.1
    obtain ⟨c, g, A, rfl⟩ := h
    refine ⟨coll_asc c g 6, fun w hw => ?_⟩
    obtain ⟨v, h1, h2, h3, rfl⟩ := (coll_mem 6).1 hw
    have hb := A.bound6 (linkN_links hst) v h3
    obtain ⟨F, I, _⟩ := A
    exact ⟨⟨⟨by show 1 ≤ (v : Int); omega, by show (v : Int) ≤ 6; omega⟩, ⟨h3, by show c v ≤ 60000; omega⟩, I.asc v, fun z hz => I.rng v z hz⟩, hb⟩
  · subst h
    exact ⟨by simp [AscW], by simp⟩

theorem waysD_asc (xs : List RecD) (area src : Int) : AscW (waysD xs area src) ∧ ∀ w ∈ waysD xs area src, GoodW w ∧ w.cost ≤ 6000 := by
  by_cases h : ∃ ds, IsWays xs area src ds
  · obtain ⟨ds, hd⟩ := h
    rw [← hd.eq]
    exact hd.asc
  · unfold waysD
    rw [dif_neg h]
    exact ⟨by simp [AscW], by simp⟩

/-- how many numbers there are in such a list -/
theorem good_tot {ps : List WP} (hl : ps.length ≤ 6) (hg : ∀ w ∈ fstsW ps, w.hops.length ≤ 6) : totW ps ≤ 42 := by
  have : ∀ qs : List WP, (∀ w ∈ fstsW qs, w.hops.length ≤ 6) → totW qs ≤ 7 * qs.length := by
    intro qs
    induction qs with
    | nil => intro _; simp [totW]
    | cons q qs ih =>
      intro h
      rw [totW_cons, List.length_cons]
      have h1 := h q.1 (by simp [fstsW])
      have h2 := ih (fun w hw => h w (by simp only [fstsW, List.map_cons, List.mem_cons] at hw ⊢; exact .inr hw))
      omega
  have := this ps hg
  omega
end Go.Proofs.YthmmpmbnpfhloaaDoor
namespace Go.Proofs.YthmmpmbnpfhloaaDoor
open Go.RowKit

/-- a list of ways as a row has it, and the ways -/
abbrev LP := Value × List WP

def encLP (p : LP) : List Value := [p.1]

theorem encLP_len (p : LP) : (encLP p).length = 1 := rfl

theorem owns_typed {W W' : World} {base size n : Nat} {e T : TypeId} {v : Value} {xs : List Value} (h : W.ownsRow base e size v n xs) (hne : e ≠ T) (hk : ∀ (k : Nat) (cs : Array Value) (t : TypeId) (fr : Nat × Nat), W.heap[k]? = some (.cells cs t fr) → t ≠ T → W'.heap[k]? = W.heap[k]?) : W'.ownsRow base e size v n xs := by
  refine owns_keepB h (fun j hj => ?_)
  rcases h.2 with ⟨e1, _⟩ | ⟨g2, cap, cur, e1, _, hh, _⟩
  · rw [e1] at hj; cases hj
  · rw [e1] at hj
    simp [Value.ownBlock] at hj
    subst hj
    exact hk _ _ _ _ hh hne

theorem WaysOwn.typed {W W' : World} {lo hi : Nat} {T : TypeId} {v : Value} {ps : List WP} (h : WaysOwn W lo hi v ps) (h1 : (93 : TypeId) ≠ T) (h2 : (3 : TypeId) ≠ T) (hk : ∀ (k : Nat) (cs : Array Value) (t : TypeId) (fr : Nat × Nat), W.heap[k]? = some (.cells cs t fr) → t ≠ T → W'.heap[k]? = W.heap[k]?) : WaysOwn W' lo hi v ps :=
  ⟨owns_typed h.row h1 hk, h.top, fun p hp => ⟨owns_typed (h.nears p hp).1 h2 hk, (h.nears p hp).2⟩, h.apart⟩

/-- the row u of lists of ways; all that belongs to it lies in lo .. hi -/
structure WLs (W : World) (lo hi : Nat) (u : Value) (ls : List LP) : Prop where
  row : W.ownsRow lo 88 1 u ls.length (flat encLP ls)
  top : ∀ k, u.ownBlock = some k → k < hi
  ways : ∀ p ∈ ls, WaysOwn W lo hi p.1 p.2

theorem WLs.below {W W' : World} {lo hi B : Nat} {u : Value} {ls : List LP} (h : WLs W lo hi u ls) (hb : Below B W W') (hB : hi ≤ B) : WLs W' lo hi u ls :=
  ⟨owns_keepB h.row (fun k e => hb.block k (by have := h.top k e; omega)), h.top, fun p hp => (h.ways p hp).below hb hB⟩

theorem WLs.wide {W : World} {lo hi lo' hi' : Nat} {u : Value} {ls : List LP} (h : WLs W lo hi u ls) (hl : lo' ≤ lo) (hh : hi ≤ hi') : WLs W lo' hi' u ls :=
  ⟨owns_baseS h.row hl, fun k e => Nat.lt_of_lt_of_le (h.top k e) hh, fun p hp => (h.ways p hp).wide hl hh⟩

theorem WLs.cell {W : World} {lo hi : Nat} {u : Value} {ls : List LP} (h : WLs W lo hi u ls) {i : Nat} {p : LP} (hp : ls[i]? = some p) : ∃ g cap, u = .slice (some ⟨g, 0, none⟩) ls.length cap ∧ W.cell? ⟨g, i, none⟩ = some p.1 ∧ g < hi ∧ g < W.heap.size := by
  have hi' : i < ls.length := (List.getElem?_eq_some_iff.1 hp).1
  rcases h.row.2 with ⟨_, e⟩ | ⟨g, cap, cur, hv, _⟩
  · omega
  · refine ⟨g, cap, hv, ?_, h.top g (by rw [hv]; rfl), (h.row.lt g (by rw [hv]; rfl)).2⟩
    have := World.ownsRow.cellAt (by rw [← hv]; exact h.row) i (by omega)
    rw [this]
    have e := flat_get encLP_len ls i 0 p hp (by omega)
    simpa [encLP] using e

/-- one more list of ways -/
theorem WLs.push {W Wa W2 : World} {lo : Nat} {u u' : Value} {ls : List LP} {p : LP} (h : WLs W lo W.heap.size u ls) (hb : Below W.heap.size W Wa) (hp : WaysOwn Wa lo Wa.heap.size p.1 p.2)
    (row : W2.ownsRow lo 88 1 u' (ls.length + 1) (flat encLP (ls ++ [p]))) (hg : Wa.grownBy W2 u.ownBlock) : WLs W2 lo W2.heap.size u' (ls ++ [p]) := by
  have rowa := owns_below h.row hb (Nat.le_refl _)
  have hk : ∀ (k : Nat) (cs : Array Value) (t : TypeId) (fr : Nat × Nat), Wa.heap[k]? = some (.cells cs t fr) → t ≠ 88 → W2.heap[k]? = Wa.heap[k]? := fun k cs t fr hk ht => hg.block k (lt_of_heap hk) (own_type_ne2 rowa hk (fun e => ht e.symm))
  refine ⟨by simpa using row, fun k e => (row.lt k e).2, fun q hq => ?_⟩
  rcases List.mem_append.1 hq with h1 | h1
  · exact (((h.ways q h1).below hb (Nat.le_refl _)).typed (by decide) (by decide) hk).wide (Nat.le_refl _) (Nat.le_trans hb.size hg.size)
  · have : q = p := by simpa using h1
    subst this
    exact (hp.typed (by decide) (by decide) hk).wide (Nat.le_refl _) hg.size
end Go.Proofs.YthmmpmbnpfhloaaDoor
