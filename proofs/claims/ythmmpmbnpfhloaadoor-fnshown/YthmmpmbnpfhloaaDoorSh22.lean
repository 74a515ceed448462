/-
  A record put into a list in order: the plain mathematics.
  How many nodes are done; what the end of a search tells, as a list of ways.
  A search that keeps what is next in a heap of pointers, as values.
  spec.DrawRightNet: some right net.
-/
import Derived.Test.YthmmpmbnpfhloaaDoorSh21
import Derived.Test.YthmmpmbnpfhloaaDoorSh20
namespace Go.Proofs.YthmmpmbnpfhloaaDoor
open Go.RowKit

theorem bef_trans {x y z : RecD} (h1 : beforeB x y = true) (h2 : beforeB y z = true) : beforeB x z = true := by
  unfold beforeB at *
  simp only [Bool.or_eq_true, Bool.and_eq_true, decide_eq_true_eq, beq_iff_eq] at *
  omega

theorem bef_irrefl_same {x y : RecD} (h1 : sameKeyB x y = true) : beforeB x y = false ∧ beforeB y x = false := by
  unfold beforeB sameKeyB at *
  simp only [Bool.or_eq_false_iff, Bool.and_eq_false_iff, decide_eq_false_iff_not, beq_eq_false_iff_ne, Bool.and_eq_true, beq_iff_eq] at *
  omega

/-- in order -/
def Asc (xs : List RecD) : Prop := xs.Pairwise (fun x y => beforeB x y = true)

theorem asc_back {xs : List RecD} (h : Asc xs) : ascB ordR xs = true := by
  unfold Asc at h
  rw [List.pairwise_iff_getElem] at h
  refine all_true fun j hj => ?_
  cases j with
  | zero => rfl
  | succ k =>
    rw [ascAt_eq (List.getElem?_eq_getElem (by omega)) (List.getElem?_eq_getElem hj), ordR_neg]
    exact h k (k + 1) (by omega) hj (by omega)

/-- what l05Put makes of keys in order -/
def putD (xs : List RecD) (r : RecD) : List RecD := xs.filter (fun x => beforeB x r) ++ [r] ++ xs.filter (fun x => beforeB r x)

theorem putL_fsts (ps : List RP) (r : RP) : fsts (putL ps r) = putD (fsts ps) r.1 := by
  unfold putL putD fsts
  simp [List.filter_map, Function.comp_def]

section
variable {xs : List RecD} {r : RecD} {i : Nat}

end
end Go.Proofs.YthmmpmbnpfhloaaDoor
namespace Go.Proofs.YthmmpmbnpfhloaaDoor
open Go.RowKit

set_option linter.unusedSimpArgs false

def cardF (F : Nat → Bool) : Nat := (F 1).toNat + (F 2).toNat + (F 3).toNat + (F 4).toNat + (F 5).toNat + (F 6).toNat

theorem node_cases {u : Nat} (h : 1 ≤ u ∧ u ≤ 6) : u = 1 ∨ u = 2 ∨ u = 3 ∨ u = 4 ∨ u = 5 ∨ u = 6 := by omega

theorem card_add {F : Nat → Bool} {u : Nat} (hu : 1 ≤ u ∧ u ≤ 6) (hF : F u = false) : cardF (fun v => F v || v == u) = cardF F + 1 := by
  unfold cardF
  rcases node_cases hu with rfl | rfl | rfl | rfl | rfl | rfl <;> simp [hF] <;> omega

theorem card_le (F : Nat → Bool) : cardF F ≤ 6 := by
  unfold cardF
  have h1 := Bool.toNat_le (F 1)
  have h2 := Bool.toNat_le (F 2)
  have h3 := Bool.toNat_le (F 3)
  have h4 := Bool.toNat_le (F 4)
  have h5 := Bool.toNat_le (F 5)
  have h6 := Bool.toNat_le (F 6)
  omega

theorem card_full {F : Nat → Bool} (h : cardF F = 6) {u : Nat} (hu : 1 ≤ u ∧ u ≤ 6) : F u = true := by
  cases e : F u with
  | true => rfl
  | false =>
    have := card_add hu e
    have := card_le (fun v => F v || v == u)
    omega

theorem card_zero : cardF (fun _ => false) = 0 := rfl

/-- the ways to the first k nodes -/
def collT (c : Nat → Int) (h : Nat → List Int) : Nat → List WayD
  | 0 => []
  | k + 1 => collT c h k ++ (if 0 ≤ c (k + 1) then [⟨((k + 1 : Nat) : Int), c (k + 1), h (k + 1)⟩] else [])

theorem coll_congr {c d : Nat → Int} {h g : Nat → List Int} (e : ∀ v, (0 ≤ c v → d v = c v ∧ g v = h v) ∧ (0 ≤ d v → 0 ≤ c v)) : ∀ k, collT c h k = collT d g k
  | 0 => rfl
  | k + 1 => by
    unfold collT
    rw [coll_congr e k]
    congr 1
    by_cases h0 : 0 ≤ c (k + 1)
    · have := (e (k + 1)).1 h0
      rw [if_pos h0, if_pos (by omega), this.1, this.2]
    · rw [if_neg h0, if_neg (fun hc => h0 ((e (k + 1)).2 hc))]

theorem Fix.coll {L : Nat → Nat → Int} {src : Nat} {c d : Nat → Int} {h g : Nat → List Int} (A : Fix L src c h) (B : Fix L src d g) : collT c h 6 = collT d g 6 := by
  refine coll_congr (fun v => ⟨fun h0 => ⟨A.cost B v h0, A.hops B v h0⟩, fun h0 => ?_⟩) 6
  have := B.cost A v h0
  omega

/-- what WaysIn tells -/
def IsWays (xs : List RecD) (area src : Int) (ds : List WayD) : Prop :=
  if (storeB xs && inB src 1 6 && nodeB xs area src) = true then ∃ c h, Fix (linkN xs area) src.toNat c h ∧ ds = collT c h 6 else ds = []

theorem IsWays.unique {xs : List RecD} {area src : Int} {ds es : List WayD} (h1 : IsWays xs area src ds) (h2 : IsWays xs area src es) : ds = es := by
  unfold IsWays at h1 h2
  split at h1
  · rename_i e
    rw [if_pos e] at h2
    obtain ⟨c, h, A, rfl⟩ := h1
    obtain ⟨d, g, B, rfl⟩ := h2
    exact A.coll B
  · rename_i e
    rw [if_neg e] at h2
    rw [h1, h2]

theorem coll_step (c : Nat → Int) (h : Nat → List Int) {v : Nat} (hv : 1 ≤ v) : collT c h v = collT c h (v - 1) ++ (if 0 ≤ c v then [⟨(v : Int), c v, h v⟩] else []) := by
  obtain ⟨k, rfl⟩ : ∃ k, v = k + 1 := ⟨v - 1, by omega⟩
  rfl

theorem coll_len (c : Nat → Int) (h : Nat → List Int) : ∀ k, (collT c h k).length ≤ k
  | 0 => by simp [collT]
  | k + 1 => by
    unfold collT
    have := coll_len c h k
    rw [List.length_append]
    split <;> simp <;> omega

theorem mixC_at {L : Nat → Nat → Int} {c : Nat → Int} {u j : Nat} (hu : 0 ≤ c u) : mixC L c u j u = c u := by
  unfold mixC
  split
  · exact relaxC_same hu (Int.le_refl _)
  · rfl

theorem relaxL_done {L : Nat → Nat → Int} {src : Nat} {c : Nat → Int} {h : Nat → List Int} {u v : Nat} (h0 : 0 ≤ c v) (hv : c v ≤ c u) : relaxL L src c h u v = h v ∧ relaxC L c u v = c v := by
  by_cases hl : 0 < L u v
  · exact relaxL_dear h0 (by omega)
  · exact relaxL_none hl

theorem mixH_at {L : Nat → Nat → Int} {src : Nat} {c : Nat → Int} {h : Nat → List Int} {u j : Nat} (hu : 0 ≤ c u) : mixH L src c h u j u = h u := by
  unfold mixH
  split
  · exact (relaxL_done hu (Int.le_refl _)).1
  · rfl

theorem relaxC_bound {L : Nat → Nat → Int} {c : Nat → Int} {u v : Nat} {B : Int} (h : ∀ v, c v ≤ B) (hL : ∀ u v, L u v ≤ 1000) : relaxC L c u v ≤ B + 1000 := by
  unfold relaxC
  have := h v
  have := h u
  have := hL u v
  split <;> omega

/-- a is the cheapest of the nodes below v that are not done, 0 where there is none -/
def MinAt (F : Nat → Bool) (c : Nat → Int) (v a : Nat) : Prop :=
  (a = 0 ∧ ∀ x, 1 ≤ x → x < v → F x = false → c x < 0) ∨ (1 ≤ a ∧ a < v ∧ F a = false ∧ 0 ≤ c a ∧ ∀ x, 1 ≤ x → x < v → F x = false → 0 ≤ c x → c a ≤ c x)

theorem minAt_skip {F : Nat → Bool} {c : Nat → Int} {v a : Nat} (h : MinAt F c v a) (hs : F v = true ∨ c v < 0 ∨ (1 ≤ a ∧ c a ≤ c v)) : MinAt F c (v + 1) a := by
  rcases h with ⟨h1, h2⟩ | ⟨h1, h2, h3, h4, h5⟩
  · refine .inl ⟨h1, fun x hx1 hx2 hF => ?_⟩
    by_cases e : x = v
    · subst e
      rcases hs with h | h | h
      · rw [hF] at h; cases h
      · exact h
      · omega
    · exact h2 x hx1 (by omega) hF
  · refine .inr ⟨h1, by omega, h3, h4, fun x hx1 hx2 hF hc => ?_⟩
    by_cases e : x = v
    · subst e
      rcases hs with h | h | h
      · rw [hF] at h; cases h
      · omega
      · exact h.2
    · exact h5 x hx1 (by omega) hF hc

theorem minAt_take {F : Nat → Bool} {c : Nat → Int} {v a : Nat} (h : MinAt F c v a) (h1v : 1 ≤ v) (hF : F v = false) (hc : 0 ≤ c v) (hs : a = 0 ∨ c v < c a) : MinAt F c (v + 1) v := by
  refine .inr ⟨h1v, by omega, hF, hc, fun x hx1 hx2 hFx hcx => ?_⟩
  by_cases e : x = v
  · subst e; omega
  · rcases h with ⟨h1, h2⟩ | ⟨h1, h2, h3, h4, h5⟩
    · have := h2 x hx1 (by omega) hFx; omega
    · have := h5 x hx1 (by omega) hFx hcx; omega

/-- what holds of a search at a round's beginning -/
structure AtRound (L : Nat → Nat → Int) (src : Nat) (F : Nat → Bool) (c : Nat → Int) (h : Nat → List Int) (r : Nat) : Prop where
  inv : Inv L src F c h
  bnd : ∀ v, c v ≤ 1000 * (cardF F : Int)
  at' : cardF F + 1 = r ∨ (r = 7 ∧ ∀ v, 0 ≤ c v → F v = true)

theorem AtRound.init {L : Nat → Nat → Int} {src : Nat} (hs : IsNode src) : AtRound L src (fun _ => false) (fun v => if v = src then 0 else -1) (fun _ => []) 1 := by
  refine ⟨Inv.init hs, fun v => ?_, .inl rfl⟩
  rw [card_zero]
  show (if v = src then (0 : Int) else -1) ≤ _
  split <;> omega

theorem AtRound.fin {L : Nat → Nat → Int} {src : Nat} {F : Nat → Bool} {c : Nat → Int} {h : Nat → List Int} (a : AtRound L src F c h 7) : Fix L src c h ∧ ∀ v, F v = true ↔ 0 ≤ c v := by
  have hf : ∀ v, 0 ≤ c v → F v = true := by
    rcases a.at' with h1 | ⟨_, h1⟩
    · intro v hv
      exact card_full (by omega) (a.inv.cnode v hv)
    · exact h1
  exact ⟨⟨F, a.inv, hf⟩, fun v => ⟨fun hv => (a.inv.fnode v hv).2, hf v⟩⟩

theorem AtRound.none {L : Nat → Nat → Int} {src : Nat} {F : Nat → Bool} {c : Nat → Int} {h : Nat → List Int} {r : Nat} (a : AtRound L src F c h r) (hm : MinAt F c 7 0) : AtRound L src F c h 7 := by
  refine ⟨a.inv, a.bnd, .inr ⟨rfl, fun v hv => ?_⟩⟩
  have hn := a.inv.cnode v hv
  unfold IsNode at hn
  cases e : F v with
  | true => rfl
  | false =>
    rcases hm with ⟨_, h2⟩ | ⟨h1, _⟩
    · have := h2 v hn.1 (by omega) e; omega
    · omega

theorem AtRound.next {L : Nat → Nat → Int} {src : Nat} {F : Nat → Bool} {c : Nat → Int} {h : Nat → List Int} {r u : Nat} (a : AtRound L src F c h r) (hL : Links L 1000) (hr : r < 7) (hm : MinAt F c 7 u) (hu : 1 ≤ u) : AtRound L src (fun v => F v || v == u) (fun v => relaxC L c u v) (fun v => relaxL L src c h u v) (r + 1) := by
  rcases hm with ⟨h1, _⟩ | ⟨h1, h2, h3, h4, h5⟩
  · omega
  · have hcard : cardF (fun v => F v || v == u) = cardF F + 1 := card_add ⟨h1, by omega⟩ h3
    refine ⟨a.inv.step hL h3 h4 (fun v hv hc => ?_) (fun v => relaxL_spec a.inv hL h4 v), fun v => ?_, .inl ?_⟩
    · have hn := a.inv.cnode v hc
      unfold IsNode at hn
      exact h5 v hn.1 (by omega) hv hc
    · rw [hcard]
      have := relaxC_bound (L := L) (u := u) (v := v) a.bnd hL.le
      omega
    · rw [hcard]
      rcases a.at' with h6 | ⟨h6, _⟩
      · omega
      · omega

theorem ways_lit (W : World) (lo : Nat) (hb : lo ≤ W.heap.size) : WaysOwn (W.alloc (.cells #[] 93)) lo (W.alloc (.cells #[] 93)).heap.size (.slice (some ⟨W.heap.size, 0, none⟩) 0 0) [] where
  row := World.ownsRow_lit W #[] 0 hb (by unfold maxLen; omega) (by simp)
  top := by intro k hk; simp [Value.ownBlock] at hk; subst hk; simp
  nears := by simp
  apart := by simp
end Go.Proofs.YthmmpmbnpfhloaaDoor
namespace Go.Proofs.YthmmpmbnpfhloaaDoor

def cOf (bp : Nat → Option Nat) (wd : Nat → WayD) (v : Nat) : Int := match bp v with
  | some k => (wd k).cost
  | none => -1

def hOf (bp : Nat → Option Nat) (wd : Nat → WayD) (v : Nat) : List Int := match bp v with
  | some k => (wd k).hops
  | none => []

theorem cOf_some {bp : Nat → Option Nat} {wd : Nat → WayD} {v k : Nat} (h : bp v = some k) : cOf bp wd v = (wd k).cost := by unfold cOf; rw [h]

theorem hOf_some {bp : Nat → Option Nat} {wd : Nat → WayD} {v k : Nat} (h : bp v = some k) : hOf bp wd v = (wd k).hops := by unfold hOf; rw [h]

/-- the best ways bp (by node) and the row q of n that are next, over the ways wd -/
structure GI (F : Nat → Bool) (c : Nat → Int) (h : Nat → List Int) (n : Nat) (q : Nat → Nat) (bp : Nat → Option Nat) (wd : Nat → WayD) : Prop where
  cc : ∀ v, cOf bp wd v = c v
  hh : ∀ v, hOf bp wd v = h v
  to : ∀ v k, bp v = some k → (wd k).to = (v : Int)
  ent : ∀ i, i < n → ∃ v kb : Nat, (wd (q i)).to = (v : Int) ∧ bp v = some kb ∧ ((q i = kb ∧ F v = false) ∨ (wd kb).cost < (wd (q i)).cost)
  live : ∀ v k, bp v = some k → F v = false → ∃ i, i < n ∧ q i = k
  inj : ∀ i j, i < n → j < n → q i = q j → i = j
  nn : ∀ v k, bp v = some k → 0 ≤ (wd k).cost

theorem GI.push {F : Nat → Bool} {c : Nat → Int} {h : Nat → List Int} {n : Nat} {q q' : Nat → Nat} {bp : Nat → Option Nat} {wd : Nat → WayD} (g : GI F c h n q bp wd) {t k : Nat} {x : WayD} (hF : F t = false) (hx : x.to = (t : Int)) (hc : c t < 0 ∨ x.cost < c t)
    (hk1 : ∀ i, i < n → q i ≠ k) (hk2 : ∀ v, bp v ≠ some k) (hs : Shuf (fun y => if y = n then k else q y) q' (n + 1)) (hx0 : 0 ≤ x.cost) : GI F (upd c t x.cost) (upd h t x.hops) (n + 1) q' (upd bp t (some k)) (upd wd k x) := by
  have wk : ∀ i, i < n → upd wd k x (q i) = wd (q i) := fun i hi => upd_other _ _ (hk1 i hi)
  have wb : ∀ v k', bp v = some k' → upd wd k x k' = wd k' := fun v k' e => upd_other _ _ (fun e2 => hk2 v (by rw [e, e2]))
  have hin : ∀ i, i < n + 1 → q' i = k ∨ ∃ j, j < n ∧ q' i = q j := by
    intro i hi
    obtain ⟨j, hj, e⟩ := hs.into i hi
    by_cases e2 : j = n
    · left; rw [e]; exact if_pos e2
    · right
      refine ⟨j, by omega, ?_⟩
      rw [e]
      exact if_neg e2
  refine ⟨fun v => ?_, fun v => ?_, fun v k' e => ?_, fun i hi => ?_, fun v k' e hFv => ?_, ?_, fun v k' e => ?_⟩
  · by_cases e : v = t
    · subst e
      rw [cOf_some (k := k) (upd_same _ _ _), upd_same, upd_same]
    · rw [upd_other _ _ e, ← g.cc v]
      unfold cOf
      rw [upd_other _ _ e]
      cases e2 : bp v with
      | none => rfl
      | some k' => show (upd wd k x k').cost = (wd k').cost; rw [wb v k' e2]
  · by_cases e : v = t
    · subst e
      rw [hOf_some (k := k) (upd_same _ _ _), upd_same, upd_same]
    · rw [upd_other _ _ e, ← g.hh v]
      unfold hOf
      rw [upd_other _ _ e]
      cases e2 : bp v with
      | none => rfl
      | some k' => show (upd wd k x k').hops = (wd k').hops; rw [wb v k' e2]
  · by_cases e2 : v = t
    · subst e2
      rw [upd_same] at e
      cases e
      rw [upd_same]; exact hx
    · rw [upd_other _ _ e2] at e
      rw [wb v k' e]; exact g.to v k' e
  · rcases hin i hi with e | ⟨j, hj, e⟩
    · refine ⟨t, k, ?_, upd_same _ _ _, .inl ⟨e, hF⟩⟩
      rw [e, upd_same]; exact hx
    · obtain ⟨v, kb, h1, h2, h3⟩ := g.ent j hj
      rw [e, wk j hj]
      by_cases ev : v = t
      · subst ev
        refine ⟨v, k, h1, upd_same _ _ _, .inr ?_⟩
        rw [upd_same]
        have hcv := g.cc v
        rw [cOf_some h2] at hcv
        have h0 := g.nn v kb h2
        rcases h3 with ⟨h4, _⟩ | h4
        · rw [h4]; omega
        · omega
      · refine ⟨v, kb, h1, by rw [upd_other _ _ ev]; exact h2, ?_⟩
        rw [wb v kb h2]
        exact h3
  · by_cases e2 : v = t
    · subst e2
      rw [upd_same] at e
      cases e
      obtain ⟨i, hi, e3⟩ := hs.onto n (by omega)
      exact ⟨i, hi, by rw [e3]; exact if_pos rfl⟩
    · rw [upd_other _ _ e2] at e
      obtain ⟨j, hj, e3⟩ := g.live v k' e hFv
      obtain ⟨i, hi, e4⟩ := hs.onto j (by omega)
      refine ⟨i, hi, ?_⟩
      rw [e4, ← e3]
      exact if_neg (by omega)
  · refine hs.inj (fun i j hi hj e => ?_)
    by_cases ei : i = n <;> by_cases ej : j = n
    · omega
    · have e2 : k = q j := by simpa [ei, ej] using e
      exact absurd e2.symm (hk1 j (by omega))
    · have e2 : q i = k := by simpa [ei, ej] using e
      exact absurd e2 (hk1 i (by omega))
    · have e2 : q i = q j := by simpa [ei, ej] using e
      exact g.inj i j (by omega) (by omega) e2
  · by_cases e2 : v = t
    · subst e2
      rw [upd_same] at e
      cases e
      rw [upd_same]; exact hx0
    · rw [upd_other _ _ e2] at e
      rw [wb v k' e]; exact g.nn v k' e

theorem GI.join {F : Nat → Bool} {c : Nat → Int} {h : Nat → List Int} {n : Nat} {q : Nat → Nat} {bp : Nat → Option Nat} {wd : Nat → WayD} (g : GI F c h n q bp wd) {t k : Nat} {y : WayD} (hb : bp t = some k) (hc : y.cost = (wd k).cost) (ht : y.to = (wd k).to) : GI F c (upd h t y.hops) n q bp (upd wd k y) := by
  have hcost : ∀ k', (upd wd k y k').cost = (wd k').cost := by
    intro k'
    by_cases e : k' = k
    · rw [e, upd_same]; exact hc
    · rw [upd_other _ _ e]
  have hto : ∀ k', (upd wd k y k').to = (wd k').to := by
    intro k'
    by_cases e : k' = k
    · rw [e, upd_same]; exact ht
    · rw [upd_other _ _ e]
  refine ⟨fun v => ?_, fun v => ?_, fun v k' e => ?_, fun i hi => ?_, g.live, g.inj, fun v k' e => by rw [hcost]; exact g.nn v k' e⟩
  · rw [← g.cc v]
    unfold cOf
    cases bp v with
    | none => rfl
    | some k' => exact hcost k'
  · by_cases e : v = t
    · subst e
      rw [hOf_some hb, upd_same, upd_same]
    · rw [upd_other _ _ e, ← g.hh v]
      unfold hOf
      cases e2 : bp v with
      | none => rfl
      | some k' =>
        show (upd wd k y k').hops = (wd k').hops
        rw [upd_other]
        intro e3
        subst e3
        have h1 := g.to v k' e2
        have h2 := g.to t k' hb
        omega
  · rw [hto]; exact g.to v k' e
  · obtain ⟨v, kb, h1, h2, h3⟩ := g.ent i hi
    refine ⟨v, kb, by rw [hto]; exact h1, h2, ?_⟩
    rw [hcost, hcost]
    exact h3

theorem asc_addL {l a b : List Int} (hl : l.Pairwise (· < ·)) (hm : ∀ x, x ∈ l ↔ (x ∈ a ∨ x ∈ b)) (hr : ∀ x, x ∈ l → 1 ≤ x ∧ x ≤ 6) : l = addL a b := by
  refine asc_ext hl (addL_asc a b) (fun x => ?_)
  rw [addL_mem]
  constructor
  · intro hx
    have := hr x hx
    exact ⟨this.1, this.2, (hm x).1 hx⟩
  · rintro ⟨_, _, h3⟩
    exact (hm x).2 h3

end Go.Proofs.YthmmpmbnpfhloaaDoor
namespace Go.Proofs.YthmmpmbnpfhloaaDoor
open Go.RowKit

theorem new_at (p : Nat) (a : Option Addr) (len cap : Nat) (w : World) (hp : w.heap.size = p) (hc : Code w a len w.heap.size) :
    Calls Tryd.prog 9 #[.slice a len cap] w fun e w' => e = .returned (.pointer (some ⟨p, 0, none⟩)) ∧ Cur w' p a len cap ∧ Below p w w' := by
  subst hp
  exact new_any a len cap w hc

theorem netOkI_n {x : NetD} (h : netOkI x = true) : 1 ≤ x.n ∧ x.n ≤ 6 := by
  simp [netOkI, inB] at h
  omega

theorem netOkI_l {x : NetD} (h : netOkI x = true) : x.ls.length ≤ 12 ∧ x.ts.length ≤ 4 := by
  simp [netOkI, linksB, thingsB] at h
  omega

structure DSt (w w5 wr : World) (p z : Nat) (a : Option Addr) (len cap : Nat) : Prop where
  cur : Cur wr p a len cap
  bel : Below w.heap.size w wr
  kept : ∀ b, b < z + 1 → b ≠ p → wr.heap[b]? = w5.heap[b]?
  size : z + 1 ≤ wr.heap.size

theorem DSt.grown {w w5 wr w' : World} {p z : Nat} {a : Option Addr} {len cap : Nat} (h : DSt w w5 wr p z a len cap) (hc : Cur w' p a len cap) (hg : wr.grownBy w' (some p)) (hp : w.heap.size ≤ p) : DSt w w5 w' p z a len cap where
  cur := hc
  bel := h.bel.grown hg h.bel.size (fun k hk => by simp at hk; omega)
  kept := fun b hb hbp => by rw [hg.block b (by have := h.size; omega) (by simp; exact hbp)]; exact h.kept b hb hbp
  size := Nat.le_trans h.size hg.size

theorem DSt.alloc {w w5 wr : World} {p z : Nat} {a : Option Addr} {len cap : Nat} (h : DSt w w5 wr p z a len cap) (o : Obj) : DSt w w5 (wr.alloc o) p z a len cap where
  cur := cur_alloc h.cur o
  bel := h.bel.alloc h.bel.size o
  kept := fun b hb hbp => by rw [Below.heap_alloc _ _ _ (by have := h.size; omega)]; exact h.kept b hb hbp
  size := by have := h.size; simp; omega

end Go.Proofs.YthmmpmbnpfhloaaDoor
