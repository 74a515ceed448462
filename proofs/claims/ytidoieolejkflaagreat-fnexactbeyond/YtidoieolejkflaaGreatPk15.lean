/-
  The best of several ways to one node, with the hops of all that are as short: determined by the set of the ways.
  What is within several areas: the sets of ways; lists under way.
  One way more at the end of a list of the caller's own.
  append of one struct, with word on the block of what comes out.
-/
import Derived.Test.YtidoieolejkflaaGreatPk13
import Derived.Test.YtidoieolejkflaaGreatPk14
import Derived.Test.YtidoieolejkflaaGreatPk12
import Derived.Test.YtidoieolejkflaaGreatPk4
import Derived.Maps.AppendAt
namespace Go.Proofs.YtidoieolejkflaaGreat
open Go.RowKit

/-- hops are nodes -/
def Hop6 (l : List Int) : Prop := ∀ z ∈ l, 1 ≤ z ∧ z ≤ 6

/-- a way as it is told -/
structure GoodW (x : WayD) : Prop where
  node : 1 ≤ x.to ∧ x.to ≤ 6
  cost : 0 ≤ x.cost ∧ x.cost ≤ 60000
  asc : x.hops.Pairwise (· < ·)
  hop6 : Hop6 x.hops

theorem asc_len_from : ∀ {l : List Int} {a : Int}, l.Pairwise (· < ·) → (∀ z ∈ l, a ≤ z ∧ z ≤ 6) → (l.length : Int) ≤ 7 - a ∨ l = []
  | [], _, _, _ => .inr rfl
  | x :: xs, a, h, hr => by
    have h' := List.pairwise_cons.1 h
    have hx := hr x (by simp)
    rcases asc_len_from (a := x + 1) h'.2 (fun z hz => ⟨by have := h'.1 z hz; omega, (hr z (by simp [hz])).2⟩) with h1 | h1
    · left; simp; omega
    · left; subst h1; simp; omega

theorem asc6_len {l : List Int} (h : l.Pairwise (· < ·)) (h6 : Hop6 l) : l.length ≤ 6 := by
  rcases asc_len_from (a := 1) h h6 with h1 | h1
  · omega
  · subst h1; simp

theorem GoodW.len {x : WayD} (h : GoodW x) : x.hops.length ≤ 6 := asc6_len h.asc h.hop6

/-- a list of ways, ascending -/
def AscW (ds : List WayD) : Prop := ds.Pairwise (fun x y => x.to < y.to)

theorem ascW_ext : ∀ {a b : List WayD}, AscW a → AscW b → (∀ x, x ∈ a ↔ x ∈ b) → a = b
  | [], [], _, _, _ => rfl
  | [], y :: ys, _, _, h => by have := (h y).2 (by simp); cases this
  | x :: xs, [], _, _, h => by have := (h x).1 (by simp); cases this
  | x :: xs, y :: ys, ha, hb, h => by
    have ha' := List.pairwise_cons.1 ha
    have hb' := List.pairwise_cons.1 hb
    have hxy : x = y := by
      have h1 := (h x).1 (by simp)
      have h2 := (h y).2 (by simp)
      rcases List.mem_cons.1 h1 with e | e
      · exact e
      · rcases List.mem_cons.1 h2 with e2 | e2
        · exact e2.symm
        · have := ha'.1 y e2; have := hb'.1 x e; omega
    subst hxy
    have : xs = ys := by
      refine ascW_ext ha'.2 hb'.2 (fun z => ?_)
      have hz := h z
      constructor
      · intro hm
        have h1 := hz.1 (List.mem_cons_of_mem _ hm)
        rcases List.mem_cons.1 h1 with e | e
        · have := ha'.1 z hm; subst e; omega
        · exact e
      · intro hm
        have h1 := hz.2 (List.mem_cons_of_mem _ hm)
        rcases List.mem_cons.1 h1 with e | e
        · have := hb'.1 z hm; subst e; omega
        · exact e
    rw [this]

theorem findW_some {ds : List WayD} {to : Int} {w : WayD} (h : findW ds to = some w) : w ∈ ds ∧ w.to = to := by
  unfold findW at h
  exact ⟨List.mem_of_find?_eq_some h, by have := List.find?_some h; simpa using this⟩

theorem findW_none {ds : List WayD} {to : Int} (h : findW ds to = none) : ∀ w ∈ ds, w.to ≠ to := by
  unfold findW at h
  rw [List.find?_eq_none] at h
  intro w hw
  simpa using h w hw

theorem ascW_same {ds : List WayD} (h : AscW ds) {x y : WayD} (hx : x ∈ ds) (hy : y ∈ ds) (e : x.to = y.to) : x = y := by
  induction ds with
  | nil => cases hx
  | cons a ds ih =>
    have h' := List.pairwise_cons.1 h
    rcases List.mem_cons.1 hx with e1 | e1
    · rcases List.mem_cons.1 hy with e2 | e2
      · rw [e1, e2]
      · have := h'.1 y e2; subst e1; omega
    · rcases List.mem_cons.1 hy with e2 | e2
      · have := h'.1 x e1; subst e2; omega
      · exact ih h'.2 e1 e2

theorem findW_of {ds : List WayD} (h : AscW ds) {w : WayD} (hw : w ∈ ds) : findW ds w.to = some w := by
  cases e : findW ds w.to with
  | none => exact absurd rfl (findW_none e w hw)
  | some x =>
    have h1 := findW_some e
    rw [ascW_same h h1.1 hw h1.2]

/-- lists that tell of the same ways -/
theorem ascW_find {a b : List WayD} (ha : AscW a) (hb : AscW b) (h : ∀ to, findW a to = findW b to) : a = b := by
  refine ascW_ext ha hb (fun x => ⟨fun hx => ?_, fun hx => ?_⟩)
  · have := findW_of ha hx
    rw [h] at this
    exact (findW_some this).1
  · have := findW_of hb hx
    rw [← h] at this
    exact (findW_some this).1

/-- of the ways S to a node: the best, with the hops of all that are as short -/
def BestOf (to : Int) (S : WayD → Prop) : Option WayD → Prop
  | none => ∀ w, ¬ S w
  | some b => b.to = to ∧ (∃ w, S w ∧ w.cost = b.cost) ∧ (∀ w, S w → b.cost ≤ w.cost) ∧ b.hops.Pairwise (· < ·) ∧ ∀ x, x ∈ b.hops ↔ ∃ w, S w ∧ w.cost = b.cost ∧ x ∈ w.hops

theorem BestOf.unique {to : Int} {S : WayD → Prop} {o o' : Option WayD} (h : BestOf to S o) (h' : BestOf to S o') : o = o' := by
  cases o with
  | none =>
    cases o' with
    | none => rfl
    | some b =>
      obtain ⟨_, ⟨w, hw, _⟩, _⟩ := h'
      exact absurd hw (h w)
  | some a =>
    cases o' with
    | none =>
      obtain ⟨_, ⟨w, hw, _⟩, _⟩ := h
      exact absurd hw (h' w)
    | some b =>
      obtain ⟨h1, ⟨w, hw, e1⟩, h3, h4, h5⟩ := h
      obtain ⟨k1, ⟨v, hv, e2⟩, k3, k4, k5⟩ := h'
      have hc : a.cost = b.cost := by
        have := h3 v hv
        have := k3 w hw
        omega
      have hh : a.hops = b.hops := asc_ext h4 k4 (fun x => by rw [h5, k5, hc])
      cases a; cases b
      simp at *
      exact ⟨by rw [h1, k1], hc, hh⟩

theorem BestOf.congr {to : Int} {S T : WayD → Prop} {o : Option WayD} (h : BestOf to S o) (e : ∀ w, S w ↔ T w) : BestOf to T o := by
  have : S = T := funext fun w => propext (e w)
  rw [← this]
  exact h

/-- two ways to one node, Together -/
def TogOk (tog : WayD → WayD → WayD) : Prop := ∀ x y : WayD, Hop6 x.hops → Hop6 y.hops → (x.cost < y.cost → tog x y = x) ∧ (y.cost < x.cost → tog x y = y) ∧
  (x.cost = y.cost → (tog x y).to = x.to ∧ (tog x y).cost = x.cost ∧ (tog x y).hops.Pairwise (· < ·) ∧ ∀ z, z ∈ (tog x y).hops ↔ z ∈ x.hops ∨ z ∈ y.hops)

theorem togOk_D : TogOk togD := by
  intro x y hx hy
  unfold togD betterB
  refine ⟨fun h => by simp [h], fun h => ?_, fun h => ?_⟩
  · rw [if_neg (by simp; omega), if_pos (by simpa using h)]
  · rw [if_neg (by simp; omega), if_neg (by simp; omega)]
    refine ⟨rfl, rfl, addL_asc _ _, fun z => ?_⟩
    show z ∈ addL x.hops y.hops ↔ _
    rw [addL_mem]
    constructor
    · exact fun h => h.2.2
    · rintro (h1 | h1)
      · exact ⟨(hx z h1).1, (hx z h1).2, .inl h1⟩
      · exact ⟨(hy z h1).1, (hy z h1).2, .inr h1⟩

theorem togOk_I : TogOk togI := by
  intro x y hx hy
  unfold togI betterB
  refine ⟨fun h => by simp [h], fun h => ?_, fun h => ?_⟩
  · rw [if_neg (by simp; omega), if_pos (by simpa using h)]
  · rw [if_neg (by simp; omega), if_neg (by simp; omega)]
    exact ⟨rfl, rfl, hopsI_asc _ _, fun z => hopsI_mem⟩

theorem BestOf.hop6 {to : Int} {S : WayD → Prop} {b : WayD} (h : BestOf to S (some b)) (hS : ∀ w, S w → Hop6 w.hops) : Hop6 b.hops := by
  intro z hz
  obtain ⟨w, hw, _, hm⟩ := (h.2.2.2.2 z).1 hz
  exact hS w hw z hm

/-- one way more -/
theorem BestOf.add {tog : WayD → WayD → WayD} (ht : TogOk tog) {to : Int} {S : WayD → Prop} {o : Option WayD} {w : WayD} (h : BestOf to S o) (hS : ∀ w, S w → Hop6 w.hops) (hto : w.to = to) (hasc : w.hops.Pairwise (· < ·)) (h6 : Hop6 w.hops) : BestOf to (fun x => S x ∨ x = w) (moreW tog o (some w)) := by
  cases o with
  | none =>
    refine ⟨hto, ⟨w, .inr rfl, rfl⟩, fun x hx => ?_, hasc, fun x => ⟨fun hx => ⟨w, .inr rfl, rfl, hx⟩, ?_⟩⟩
    · rcases hx with h1 | rfl
      · exact absurd h1 (h x)
      · exact Int.le_refl _
    · rintro ⟨v, h1 | rfl, _, hm⟩
      · exact absurd h1 (h v)
      · exact hm
  | some b =>
    have hb6 := h.hop6 hS
    obtain ⟨h1, ⟨u, hu, e1⟩, h3, h4, h5⟩ := h
    obtain ⟨t1, t2, t3⟩ := ht b w hb6 h6
    show BestOf to _ (some (tog b w))
    rcases Int.lt_trichotomy b.cost w.cost with hl | hl | hl
    · rw [t1 hl]
      refine ⟨h1, ⟨u, .inl hu, e1⟩, fun x hx => ?_, h4, fun x => ?_⟩
      · rcases hx with hx | rfl
        · exact h3 x hx
        · omega
      · rw [h5]
        constructor
        · rintro ⟨v, hv, e, hm⟩
          exact ⟨v, .inl hv, e, hm⟩
        · rintro ⟨v, hv | rfl, e, hm⟩
          · exact ⟨v, hv, e, hm⟩
          · omega
    · obtain ⟨s1, s2, s3, s4⟩ := t3 hl
      refine ⟨by rw [s1, h1], ⟨w, .inr rfl, by rw [s2, hl]⟩, fun x hx => ?_, s3, fun x => ?_⟩
      · rw [s2]
        rcases hx with hx | rfl
        · exact h3 x hx
        · omega
      · rw [s4, h5, s2]
        constructor
        · rintro (⟨v, hv, e, hm⟩ | hm)
          · exact ⟨v, .inl hv, e, hm⟩
          · exact ⟨w, .inr rfl, hl.symm, hm⟩
        · rintro ⟨v, hv | rfl, e, hm⟩
          · exact .inl ⟨v, hv, e, hm⟩
          · exact .inr hm
    · rw [t2 hl]
      refine ⟨hto, ⟨w, .inr rfl, rfl⟩, fun x hx => ?_, hasc, fun x => ⟨fun hx => ⟨w, .inr rfl, rfl, hx⟩, ?_⟩⟩
      · rcases hx with hx | rfl
        · have := h3 x hx; omega
        · exact Int.le_refl _
      · rintro ⟨v, hv | rfl, e, hm⟩
        · have := h3 v hv; omega
        · exact hm

/-- a best way is a way as it is told -/
theorem BestOf.good {to : Int} {S : WayD → Prop} {b : WayD} (h : BestOf to S (some b)) (hS : ∀ w, S w → GoodW w ∧ w.to = to) : GoodW b := by
  have h6 := h.hop6 (fun w hw => (hS w hw).1.hop6)
  obtain ⟨h1, ⟨u, hu, e1⟩, h3, h4, h5⟩ := h
  have hg := hS u hu
  exact ⟨by rw [h1, ← hg.2]; exact hg.1.node, by rw [← e1]; exact hg.1.cost, h4, h6⟩

/-- an ascending list of ways that is told by sets of ways -/
def IsBest (S : Int → WayD → Prop) (ds : List WayD) : Prop := AscW ds ∧ ∀ to, BestOf to (S to) (findW ds to)

theorem IsBest.unique {S : Int → WayD → Prop} {a b : List WayD} (ha : IsBest S a) (hb : IsBest S b) : a = b :=
  ascW_find ha.1 hb.1 (fun to => (ha.2 to).unique (hb.2 to))

theorem IsBest.congr {S T : Int → WayD → Prop} {a : List WayD} (ha : IsBest S a) (e : ∀ to w, S to w ↔ T to w) : IsBest T a :=
  ⟨ha.1, fun to => (ha.2 to).congr (e to)⟩

theorem IsBest.good {S : Int → WayD → Prop} {ds : List WayD} (h : IsBest S ds) (hS : ∀ to w, S to w → GoodW w ∧ w.to = to) : ∀ w ∈ ds, GoodW w := by
  intro w hw
  have h1 := h.2 w.to
  rw [findW_of h.1 hw] at h1
  exact h1.good (hS w.to)

theorem asc_tos {ds : List WayD} (h : AscW ds) (hg : ∀ w ∈ ds, 1 ≤ w.to ∧ w.to ≤ 6) : ds.length ≤ 6 := by
  have h1 : (ds.map (·.to)).Pairwise (· < ·) := by rw [List.pairwise_map]; exact h
  have := asc6_len h1 (fun z hz => by
    obtain ⟨w, hw, rfl⟩ := List.mem_map.1 hz
    exact hg w hw)
  simpa using this

/-- one way more in a list -/
theorem IsBest.put {tog : WayD → WayD → WayD} (ht : TogOk tog) {S : Int → WayD → Prop} {ds es : List WayD} {w : WayD} (h : IsBest S ds) (hS : ∀ to w, S to w → GoodW w ∧ w.to = to) (hw : GoodW w) (he : AscW es) (hf : ∀ to, findW es to = if to = w.to then moreW tog (findW ds to) (some w) else findW ds to) : IsBest (fun to x => S to x ∨ (x = w ∧ w.to = to)) es := by
  refine ⟨he, fun to => ?_⟩
  rw [hf]
  by_cases e : to = w.to
  · rw [if_pos e]
    refine ((h.2 to).add ht (fun v hv => (hS to v hv).1.hop6) e.symm hw.asc hw.hop6).congr (fun x => ?_)
    constructor
    · rintro (h1 | h1)
      · exact .inl h1
      · exact .inr ⟨h1, e.symm⟩
    · rintro (h1 | h1)
      · exact .inl h1
      · exact .inr h1.1
  · rw [if_neg e]
    refine (h.2 to).congr (fun x => ⟨.inl, ?_⟩)
    rintro (h1 | h1)
    · exact h1
    · exact absurd h1.2.symm e

/-- the lists that withT makes -/
theorem withT_mem {f : Int → Option WayD} {w : WayD} : ∀ k : Nat, w ∈ withT f k ↔ ∃ v : Nat, 1 ≤ v ∧ v ≤ k ∧ f (v : Int) = some w
  | 0 => by simp [withT]; omega
  | k + 1 => by
    have ih := withT_mem (f := f) (w := w) k
    have step : (∃ v : Nat, 1 ≤ v ∧ v ≤ k + 1 ∧ f (v : Int) = some w) ↔ (∃ v : Nat, 1 ≤ v ∧ v ≤ k ∧ f (v : Int) = some w) ∨ f ((k + 1 : Nat) : Int) = some w := by
      constructor
      · rintro ⟨v, h1, h2, h3⟩
        by_cases e : v = k + 1
        · subst e; exact .inr h3
        · exact .inl ⟨v, h1, by omega, h3⟩
      · rintro (⟨v, h1, h2, h3⟩ | h3)
        · exact ⟨v, h1, by omega, h3⟩
        · exact ⟨k + 1, by omega, by omega, h3⟩
    rw [step]
    cases e : f ((k + 1 : Nat) : Int) with
    | none =>
      rw [withT_none (by omega) e]
      simp only [Nat.add_sub_cancel]
      rw [ih]
      simp
    | some x =>
      rw [withT_some (by omega) e]
      simp only [Nat.add_sub_cancel, List.mem_append, List.mem_singleton]
      rw [ih]
      constructor
      · rintro (h | h)
        · exact .inl h
        · exact .inr (by rw [h])
      · rintro (h | h)
        · exact .inl h
        · exact .inr (by cases h; rfl)

theorem withT_asc {f : Int → Option WayD} (hf : ∀ v w, f v = some w → w.to = v) : ∀ k : Nat, AscW (withT f k)
  | 0 => by simp [withT, AscW]
  | k + 1 => by
    have ih := withT_asc hf k
    cases e : f ((k + 1 : Nat) : Int) with
    | none => rw [withT_none (by omega) e]; exact ih
    | some x =>
      rw [withT_some (by omega) e]
      unfold AscW
      rw [List.pairwise_append]
      refine ⟨ih, by simp, fun a ha b hb => ?_⟩
      have hb' : b = x := by simpa using hb
      subst hb'
      obtain ⟨v, h1, h2, h3⟩ := (withT_mem k).1 ha
      rw [hf _ _ h3, hf _ _ e]
      omega

theorem withT_find {f : Int → Option WayD} (hf : ∀ v w, f v = some w → w.to = v) (hr : ∀ v, f v ≠ none → 1 ≤ v ∧ v ≤ 6) (to : Int) : findW (withT f 6) to = f to := by
  have ha := withT_asc hf 6
  cases e : f to with
  | none =>
    cases e2 : findW (withT f 6) to with
    | none => rfl
    | some w =>
      have h1 := findW_some e2
      obtain ⟨v, _, _, h3⟩ := (withT_mem 6).1 h1.1
      rw [← hf _ _ h3, h1.2, e] at h3
      cases h3
  | some w =>
    have hv := hr to (by rw [e]; simp)
    have hm : w ∈ withT f 6 := (withT_mem 6).2 ⟨to.toNat, by omega, by omega, by rw [show ((to.toNat : Nat) : Int) = to by omega]; exact e⟩
    have := findW_of ha hm
    rw [hf _ _ e] at this
    exact this

/-- what a search tells, member by member -/
theorem coll_mem {c : Nat → Int} {h : Nat → List Int} {w : WayD} : ∀ k : Nat, w ∈ collT c h k ↔ ∃ v : Nat, 1 ≤ v ∧ v ≤ k ∧ 0 ≤ c v ∧ w = ⟨(v : Int), c v, h v⟩
  | 0 => by simp [collT]; omega
  | k + 1 => by
    have ih := coll_mem (c := c) (h := h) (w := w) k
    rw [coll_step c h (by omega)]
    simp only [Nat.add_sub_cancel, List.mem_append]
    rw [ih]
    constructor
    · rintro (⟨v, h1, h2, h3⟩ | h4)
      · exact ⟨v, h1, by omega, h3⟩
      · split at h4
        · rename_i h0
          exact ⟨k + 1, by omega, by omega, h0, by simpa using h4⟩
        · simp at h4
    · rintro ⟨v, h1, h2, h3, h4⟩
      by_cases e : v = k + 1
      · subst e
        right
        rw [if_pos h3, h4]
        simp
      · exact .inl ⟨v, h1, by omega, h3, h4⟩

theorem coll_asc (c : Nat → Int) (h : Nat → List Int) : ∀ k : Nat, AscW (collT c h k)
  | 0 => by simp [collT, AscW]
  | k + 1 => by
    have ih := coll_asc c h k
    rw [coll_step c h (by omega)]
    simp only [Nat.add_sub_cancel]
    unfold AscW
    rw [List.pairwise_append]
    refine ⟨ih, by split <;> simp, fun a ha b hb => ?_⟩
    obtain ⟨v, h1, h2, _, rfl⟩ := (coll_mem k).1 ha
    split at hb
    · have hb' : b = ⟨((k + 1 : Nat) : Int), c (k + 1), h (k + 1)⟩ := by simpa using hb
      subst hb'
      show (v : Int) < ((k + 1 : Nat) : Int)
      omega
    · simp at hb

theorem card_mono {F G : Nat → Bool} (h : ∀ u, F u = true → G u = true) : cardF F ≤ cardF G := by
  have h1 : ∀ u, (F u).toNat ≤ (G u).toNat := fun u => by
    cases e : F u
    · simp
    · rw [h u e]; exact Nat.le_refl _
  unfold cardF
  have := h1 1; have := h1 2; have := h1 3; have := h1 4; have := h1 5; have := h1 6
  omega

/-- no way costs more than six links -/
theorem Fix.bound {L : Nat → Nat → Int} {src : Nat} {c : Nat → Int} {h : Nat → List Int} (A : Fix L src c h) (hL : Links L 1000) : ∀ (n v : Nat), 0 ≤ c v → (c v).toNat ≤ n → c v ≤ 1000 * (cardF (fun x => decide (0 ≤ c x ∧ c x < c v)) : Int) := by
  obtain ⟨F, I, hF⟩ := A
  intro n
  induction n with
  | zero =>
    intro v h0 hn
    have : c v = 0 := by omega
    omega
  | succ n ih =>
    intro v h0 hn
    by_cases hv : v = src
    · subst hv; rw [I.start]; omega
    · obtain ⟨u, hu, hl, hc⟩ := I.pred v hv h0
      have h1 := (I.fnode u hu).2
      have h2 := ih u h1 (by omega)
      have hle := hL.le u v
      have hcard : cardF (fun x => decide (0 ≤ c x ∧ c x < c u)) + 1 ≤ cardF (fun x => decide (0 ≤ c x ∧ c x < c v)) := by
        rw [← card_add (F := fun x => decide (0 ≤ c x ∧ c x < c u)) (u := u) (I.fnode u hu).1 (by simp)]
        refine card_mono (fun x hx => ?_)
        simp only [Bool.or_eq_true, decide_eq_true_eq, beq_iff_eq] at hx ⊢
        rcases hx with hx | rfl
        · omega
        · omega
      omega

theorem Fix.bound6 {L : Nat → Nat → Int} {src : Nat} {c : Nat → Int} {h : Nat → List Int} (A : Fix L src c h) (hL : Links L 1000) (v : Nat) (h0 : 0 ≤ c v) : c v ≤ 6000 := by
  have h1 := A.bound hL _ v h0 (Nat.le_refl _)
  have h2 := card_le (fun x => decide (0 ≤ c x ∧ c x < c v))
  omega

/-- what WaysIn tells is in order, and each is a way as it is told -/
theorem IsWays.asc {xs : List RecD} {area src : Int} {ds : List WayD} (h : IsWays xs area src ds) : AscW ds ∧ ∀ w ∈ ds, GoodW w ∧ w.cost ≤ 6000 := by
  unfold IsWays at h
  split at h
  · rename_i e
    have hst : storeB xs = true := by
      simp only [Bool.and_eq_true] at e
      exact e.1.1
    obtain ⟨c, g, A, rfl⟩ := h
    refine ⟨coll_asc c g 6, fun w hw => ?_⟩
    obtain ⟨v, h1, h2, h3, rfl⟩ := (coll_mem 6).1 hw
    have hb := A.bound6 (linkN_links hst) v h3
    obtain ⟨F, I, _⟩ := A
    exact ⟨⟨⟨by show 1 ≤ (v : Int); omega, by show (v : Int) ≤ 6; omega⟩, ⟨h3, by show c v ≤ 60000; omega⟩, I.asc v, fun z hz => I.rng v z hz⟩, hb⟩
  · subst h
    exact ⟨by simp [AscW], by simp⟩

theorem waysD_asc (xs : List RecD) (area src : Int) : AscW (waysD xs area src) ∧ ∀ w ∈ waysD xs area src, GoodW w ∧ w.cost ≤ 6000 := by
  by_cases h : ∃ ds, IsWays xs area src ds
  · obtain ⟨ds, hd⟩ := h
    rw [← hd.eq]
    exact hd.asc
  · unfold waysD
    rw [dif_neg h]
    exact ⟨by simp [AscW], by simp⟩

/-- how many numbers there are in such a list -/
theorem good_tot {ps : List WP} (hl : ps.length ≤ 6) (hg : ∀ w ∈ fstsW ps, w.hops.length ≤ 6) : totW ps ≤ 42 := by
  have : ∀ qs : List WP, (∀ w ∈ fstsW qs, w.hops.length ≤ 6) → totW qs ≤ 7 * qs.length := by
    intro qs
    induction qs with
    | nil => intro _; simp [totW]
    | cons q qs ih =>
      intro h
      rw [totW_cons, List.length_cons]
      have h1 := h q.1 (by simp [fstsW])
      have h2 := ih (fun w hw => h w (by simp only [fstsW, List.map_cons, List.mem_cons] at hw ⊢; exact .inr hw))
      omega
  have := this ps hg
  omega
end Go.Proofs.YtidoieolejkflaaGreat
namespace Go.Proofs.YtidoieolejkflaaGreat
open Go.RowKit

/-- a way to a node within one of the areas -/
def withinS (xs : List RecD) (al : List Int) (src : Int) (to : Int) (w : WayD) : Prop := w.to = to ∧ ∃ a ∈ al, w ∈ waysD xs a src

theorem withinS_good {xs : List RecD} {al : List Int} {src to : Int} {w : WayD} (h : withinS xs al src to w) : GoodW w ∧ w.to = to := by
  obtain ⟨h1, a, _, h2⟩ := h
  exact ⟨((waysD_asc xs a src).2 w h2).1, h1⟩

/-- only areas have ways -/
theorem waysD_area {xs : List RecD} {a src : Int} {w : WayD} (h : w ∈ waysD xs a src) : storeB xs = true ∧ 0 ≤ a ∧ a < 3 := by
  by_cases he : ∃ ds, IsWays xs a src ds
  · obtain ⟨ds, hd⟩ := he
    rw [← hd.eq] at h
    unfold IsWays at hd
    split at hd
    · rename_i e
      simp only [Bool.and_eq_true] at e
      obtain ⟨⟨e1, _⟩, e3⟩ := e
      refine ⟨e1, ?_⟩
      unfold nodeB findB at e3
      rcases atZ_cases xs (nodeR a src) with hz | ⟨j, y, hz, hy, hs⟩
      · rw [hz] at e3; simp at e3
      · have hm : y ∈ xs := List.mem_of_getElem? hy
        unfold storeB at e1
        simp only [Bool.and_eq_true] at e1
        have hok := allOk_mem e1.1.2 hm
        simp only [sameKeyB, nodeR, Bool.and_eq_true, beq_iff_eq] at hs
        obtain ⟨⟨⟨s1, s2⟩, _⟩, _⟩ := hs
        unfold recOkB at hok
        rw [if_pos s2] at hok
        simp only [Bool.and_eq_true, inB, decide_eq_true_eq] at hok
        omega
    · rw [hd] at h; cases h
  · unfold waysD at h
    rw [dif_neg he] at h
    cases h

/-- the areas alone count -/
theorem withinS_areas {xs : List RecD} {al bs : List Int} {src : Int} (h : ∀ a, 0 ≤ a → a < 3 → (a ∈ al ↔ a ∈ bs)) (to : Int) (w : WayD) : withinS xs al src to w ↔ withinS xs bs src to w := by
  constructor
  · rintro ⟨h1, a, h2, h3⟩
    have := (waysD_area h3).2
    exact ⟨h1, a, (h a this.1 this.2).1 h2, h3⟩
  · rintro ⟨h1, a, h2, h3⟩
    have := (waysD_area h3).2
    exact ⟨h1, a, (h a this.1 this.2).2 h2, h3⟩

/-- one area more -/
theorem withinS_step {xs : List RecD} {al : List Int} {src a : Int} {k : Nat} (h : al[k]? = some a) (to : Int) (w : WayD) : withinS xs (al.take (k + 1)) src to w ↔ withinS xs (al.take k) src to w ∨ (w.to = to ∧ w ∈ waysD xs a src) := by
  obtain ⟨hk, e⟩ := List.getElem?_eq_some_iff.1 h
  unfold withinS
  rw [List.take_succ_eq_append_getElem hk, e]
  constructor
  · rintro ⟨h1, b, h2, h3⟩
    rcases List.mem_append.1 h2 with h4 | h4
    · exact .inl ⟨h1, b, h4, h3⟩
    · have : b = a := by simpa using h4
      subst this
      exact .inr ⟨h1, h3⟩
  · rintro (⟨h1, b, h2, h3⟩ | ⟨h1, h3⟩)
    · exact ⟨h1, b, List.mem_append.2 (.inl h2), h3⟩
    · exact ⟨h1, a, List.mem_append.2 (.inr (by simp)), h3⟩

theorem take_mem_step {ds : List WayD} {j : Nat} {r : WayD} (h : ds[j]? = some r) (w : WayD) : w ∈ ds.take (j + 1) ↔ w ∈ ds.take j ∨ w = r := by
  obtain ⟨hk, e⟩ := List.getElem?_eq_some_iff.1 h
  rw [List.take_succ_eq_append_getElem hk, e]
  simp

/-- no ways yet -/
theorem isBest_none {S : Int → WayD → Prop} (h : ∀ to w, ¬ S to w) : IsBest S [] := ⟨by simp [AscW], fun to => h to⟩

/-- the best way to node t, put at the end of those to the nodes below t -/
theorem IsBest.push {S : Int → WayD → Prop} {ds : List WayD} {t : Int} {b : WayD} (h : IsBest (fun to w => to < t ∧ S to w) ds) (hb : BestOf t (S t) (some b)) : IsBest (fun to w => to < t + 1 ∧ S to w) (ds ++ [b]) := by
  have hlt : ∀ w ∈ ds, w.to < t := by
    intro w hw
    have h1 := h.2 w.to
    rw [findW_of h.1 hw] at h1
    obtain ⟨_, ⟨u, hu, _⟩, _⟩ := h1
    exact hu.1
  have hbt : b.to = t := hb.1
  have hasc : AscW (ds ++ [b]) := by
    unfold AscW
    rw [List.pairwise_append]
    refine ⟨h.1, by simp, fun x hx y hy => ?_⟩
    have : y = b := by simpa using hy
    subst this
    rw [hbt]
    exact hlt x hx
  refine ⟨hasc, fun to => ?_⟩
  by_cases e : to = t
  · subst e
    have hf : findW (ds ++ [b]) b.to = some b := findW_of hasc (by simp)
    rw [hbt] at hf
    rw [hf]
    refine hb.congr (fun w => ⟨fun hw => ⟨by omega, hw⟩, fun hw => hw.2⟩)
  · have hf : findW (ds ++ [b]) to = findW ds to := by
      unfold findW
      rw [List.find?_append]
      cases e2 : ds.find? (fun x => x.to == to) with
      | some w => rfl
      | none =>
        simp only [Option.none_or, List.find?_cons, List.find?_nil]
        have : (b.to == to) = false := by rw [hbt]; simpa using fun h => e h.symm
        rw [this]
    rw [hf]
    refine (h.2 to).congr (fun w => ⟨fun hw => ⟨by omega, hw.2⟩, fun hw => ⟨by have := hw.1; omega, hw.2⟩⟩)

theorem IsBest.skip {S : Int → WayD → Prop} {ds : List WayD} {t : Int} (h : IsBest (fun to w => to < t ∧ S to w) ds) (hb : BestOf t (S t) none) : IsBest (fun to w => to < t + 1 ∧ S to w) ds := by
  refine h.congr (fun to w => ⟨fun hw => ⟨by omega, hw.2⟩, fun hw => ⟨?_, hw.2⟩⟩)
  have h1 := hw.1
  by_cases e : to = t
  · subst e; exact absurd hw.2 (hb w)
  · omega

/-- what wayTo tells of such a list -/
theorem wayTo_find (ds : List WayD) (to : Int) : (wayToB ds to = true ∧ findW ds to = some (wayToD ds to)) ∨ (wayToB ds to = false ∧ findW ds to = none) := by
  unfold wayToB wayToD findW
  cases e : ds.find? (fun x => x.to == to) with
  | none => exact .inr ⟨rfl, rfl⟩
  | some w => exact .inl ⟨rfl, rfl⟩

/-- one area more, one node: what is found there -/
theorem bestOf_area {tog : WayD → WayD → WayD} (ht : TogOk tog) {xs : List RecD} {al : List Int} {src a t : Int} {k : Nat} {o : Option WayD} (h : al[k]? = some a) (hb : BestOf t (withinS xs (al.take k) src t) o) :
    BestOf t (withinS xs (al.take (k + 1)) src t) (moreW tog o (findW (waysD xs a src) t)) := by
  have hw := waysD_asc xs a src
  cases e : findW (waysD xs a src) t with
  | none =>
    refine BestOf.congr hb (fun w => ?_)
    rw [withinS_step h]
    constructor
    · exact .inl
    · rintro (h1 | ⟨h1, h2⟩)
      · exact h1
      · exact absurd h1 (findW_none e w h2)
  | some r =>
    have hr := findW_some e
    have hg := (hw.2 r hr.1).1
    refine (hb.add ht (fun w hw => (withinS_good hw).1.hop6) hr.2 hg.asc hg.hop6).congr (fun w => ?_)
    rw [withinS_step h]
    constructor
    · rintro (h1 | h1)
      · exact .inl h1
      · subst h1; exact .inr ⟨hr.2, hr.1⟩
    · rintro (h1 | ⟨h1, h2⟩)
      · exact .inl h1
      · exact .inr (ascW_same hw.1 h2 hr.1 (by rw [h1, hr.2]))

/-- a row that lies in none of the blocks lo .. hi -/
def Off (x : Value) (lo hi : Nat) : Prop := ∀ b, x.ownBlock = some b → b < lo ∨ hi ≤ b

theorem Off.kept {x : Value} {lo hi : Nat} (h : Off x lo hi) {W W' : World} (hg : W.grownBy W' x.ownBlock) : ∀ k, lo ≤ k → k < hi → k < W.heap.size → W'.heap[k]? = W.heap[k]? :=
  fun k h1 h2 h3 => hg.block k h3 (fun e => by have := h k e.symm; omega)

theorem Off.next {x x' : Value} {lo hi B : Nat} (h : Off x lo hi) (hn : ∀ b, x'.ownBlock = some b → x.ownBlock = some b ∨ B ≤ b) (hB : hi ≤ B) : Off x' lo hi := fun b hb => by
  rcases hn b hb with h1 | h1
  · exact h b h1
  · omega
end Go.Proofs.YtidoieolejkflaaGreat
namespace Go.Proofs.YtidoieolejkflaaGreat
open Go.RowKit

theorem encW_one (x : WayD) (a : Option Addr) (n c : Nat) : ∀ u ∈ encW (x, .slice a n c), u.oneCell' = true := by
  intro u hu
  simp only [encW, List.mem_cons, List.not_mem_nil, or_false] at hu
  rcases hu with rfl | rfl | rfl <;> rfl

theorem hop_row_ne {W : World} {lo lo2 hi n size2 : Nat} {v : Value} {xs : List Value} {q : WP} (hq : HopOwn W lo hi q) (hr : W.ownsRow lo2 46 size2 v n xs) (j : Nat) (hj : q.2.ownBlock = some j) : some j ≠ v.ownBlock := by
  intro e
  rcases hr.2 with ⟨h0, _⟩ | ⟨g, cap, cur, hv, _, hh, _⟩
  · rw [h0] at e; simp [Value.ownBlock] at e
  · rw [hv] at e
    simp [Value.ownBlock] at e
    subst e
    exact own_type_ne2 hq.1 hh (by decide) hj.symm

/-- one more way, its row behind all that was there -/
theorem WaysOwn.push {W Wa W2 : World} {lo : Nat} {v v' : Value} {qs : List WP} {p : WP} (h : WaysOwn W lo W.heap.size v qs) (hb : Below W.heap.size W Wa) (hlo : lo ≤ W.heap.size) (hp : HopOwn Wa W.heap.size Wa.heap.size p)
    (row : W2.ownsRow lo 46 3 v' (qs.length + 1) (flat encW (qs ++ [p]))) (hg : Wa.grownBy W2 v.ownBlock) : WaysOwn W2 lo W2.heap.size v' (qs ++ [p]) where
  row := by simpa using row
  top := fun k hk => (row.lt k hk).2
  apart := apartW_add h.apart h.nears (fun k hk => (hp.1.lt k hk).1)
  nears := by
    have rowa := owns_below h.row hb (Nat.le_refl _)
    have key : ∀ q, HopOwn Wa lo Wa.heap.size q → HopOwn W2 lo W2.heap.size q := fun q hq =>
      ⟨owns_keepB hq.1 (fun j hj => hg.block j (hq.2 j hj) (hop_row_ne hq rowa j hj)), fun k hk => Nat.lt_of_lt_of_le (hq.2 k hk) hg.size⟩
    intro q hq
    rcases List.mem_append.1 hq with h1 | h1
    · exact key q (((h.nears q h1).keep (W' := Wa) (fun j _ h2 _ => hb.block j h2)).wide (Nat.le_refl _) hb.size)
    · have : q = p := by simpa using h1
      subst this
      exact key q (hp.wide hlo (Nat.le_refl _))
end Go.Proofs.YtidoieolejkflaaGreat
namespace Go.Proofs.YtidoieolejkflaaGreat
open Go.RowKit

theorem append_struct6 {α : Type} {enc : α → List Value} {sz bytes : Nat} (hlen : ∀ a, (enc a).length = sz) (hpos : 0 < sz) (hbb : bytes ≤ 100) {P : Program} (w : World) {ops : Array Oper} {rest : List Oper} {o : Oper} {a : Act} {Q : Exit → Act → World → Prop} (hgd : o.guard = none) (s x : Operand) (t : TypeId)
    (ho : o.op = .call { callee := .builtin .append, args := #[s, x], argTypes := #[t, t] }) (base : Nat) (e : TypeId) (ht : P.underlying t = some (.slice e)) (zv : Value) (hzv : zv.cells.size = sz)
    (hinfo : (P.info? e).map (fun i => (i.zero, i.size, i.bytes)) = some (some zv, sz, bytes))
    (v : Value) (l : List α) (y : α) (hone : ∀ u ∈ enc y, u.oneCell' = true) (hs : a.eval s = v) (hown : w.ownsRow base e sz v l.length (flat enc l))
    (ad : Addr) (c : Nat) (hx : a.eval x = .slice (some ad) 1 c) (hnews : ∀ j u, (enc y)[j]? = some u → w.cell? (ad.add j) = some u)
    (hl : l.length + 1 ≤ 1000000000) (hbase : base ≤ w.heap.size)
    (h : ∀ v' w', w'.ownsRow base e sz v' (l ++ [y]).length (flat enc (l ++ [y])) → w.grownBy w' v.ownBlock → (v'.ownBlock = v.ownBlock ∨ v'.ownBlock = some w.heap.size) → wpList P ops Q rest (a.put o.dst v') w') : wpList P ops Q (o :: rest) a w := by
  obtain ⟨i0, hi, hz0, hz1, hz2⟩ := info_parts hinfo
  refine wpList_append_own_at w hgd s x t ho base e i0 zv sz bytes ht hi hz0 hz1 hz2 hzv hpos v l.length (flat enc l) hs hown ad 1 c (enc y) hx (by rw [hlen]; omega) hnews hone (by unfold maxLen; omega) ?_ hbase ?_
  · have : (l.length + 1) * bytes ≤ 1000000000 * 100 := Nat.mul_le_mul hl hbb
    omega
  · intro v' w' h1 h2 _ h4
    have e1 : flat enc l ++ enc y = flat enc (l ++ [y]) := by rw [flat_append]; simp [flat]
    rw [e1] at h1
    exact h v' w' (by simpa using h1) h2 h4
end Go.Proofs.YtidoieolejkflaaGreat
