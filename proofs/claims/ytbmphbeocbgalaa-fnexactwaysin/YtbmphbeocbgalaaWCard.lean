/-
  How many nodes are done; what the end of a search tells, as a list of ways.
-/
import Derived.Test.YtbmphbeocbgalaaWSt
import Derived.Test.YtbmphbeocbgalaaGrJ
namespace Go.Proofs.Ytbmphbeocbgalaa
open Go.RowKit

set_option linter.unusedSimpArgs false

def cardF (F : Nat → Bool) : Nat := (F 1).toNat + (F 2).toNat + (F 3).toNat + (F 4).toNat + (F 5).toNat + (F 6).toNat

theorem node_cases {u : Nat} (h : 1 ≤ u ∧ u ≤ 6) : u = 1 ∨ u = 2 ∨ u = 3 ∨ u = 4 ∨ u = 5 ∨ u = 6 := by omega

theorem card_add {F : Nat → Bool} {u : Nat} (hu : 1 ≤ u ∧ u ≤ 6) (hF : F u = false) : cardF (fun v => F v || v == u) = cardF F + 1 := by
  unfold cardF
  rcases node_cases hu with rfl | rfl | rfl | rfl | rfl | rfl <;> simp [hF] <;> omega

theorem card_le (F : Nat → Bool) : cardF F ≤ 6 := by
  unfold cardF
  have h1 := Bool.toNat_le (F 1)
  have h2 := Bool.toNat_le (F 2)
  have h3 := Bool.toNat_le (F 3)
  have h4 := Bool.toNat_le (F 4)
  have h5 := Bool.toNat_le (F 5)
  have h6 := Bool.toNat_le (F 6)
  omega

theorem card_full {F : Nat → Bool} (h : cardF F = 6) {u : Nat} (hu : 1 ≤ u ∧ u ≤ 6) : F u = true := by
  cases e : F u with
  | true => rfl
  | false =>
    have := card_add hu e
    have := card_le (fun v => F v || v == u)
    omega

theorem card_zero : cardF (fun _ => false) = 0 := rfl

/-- the ways to the first k nodes -/
def collT (c : Nat → Int) (h : Nat → List Int) : Nat → List WayD
  | 0 => []
  | k + 1 => collT c h k ++ (if 0 ≤ c (k + 1) then [⟨((k + 1 : Nat) : Int), c (k + 1), h (k + 1)⟩] else [])

theorem coll_congr {c d : Nat → Int} {h g : Nat → List Int} (e : ∀ v, (0 ≤ c v → d v = c v ∧ g v = h v) ∧ (0 ≤ d v → 0 ≤ c v)) : ∀ k, collT c h k = collT d g k
  | 0 => rfl
  | k + 1 => by
    unfold collT
    rw [coll_congr e k]
    congr 1
    by_cases h0 : 0 ≤ c (k + 1)
    · have := (e (k + 1)).1 h0
      rw [if_pos h0, if_pos (by omega), this.1, this.2]
    · rw [if_neg h0, if_neg (fun hc => h0 ((e (k + 1)).2 hc))]

theorem Fix.coll {L : Nat → Nat → Int} {src : Nat} {c d : Nat → Int} {h g : Nat → List Int} (A : Fix L src c h) (B : Fix L src d g) : collT c h 6 = collT d g 6 := by
  refine coll_congr (fun v => ⟨fun h0 => ⟨A.cost B v h0, A.hops B v h0⟩, fun h0 => ?_⟩) 6
  have := B.cost A v h0
  omega

/-- what WaysIn tells -/
def IsWays (xs : List RecD) (area src : Int) (ds : List WayD) : Prop :=
  if (storeB xs && inB src 1 6 && nodeB xs area src) = true then ∃ c h, Fix (linkN xs area) src.toNat c h ∧ ds = collT c h 6 else ds = []

theorem IsWays.unique {xs : List RecD} {area src : Int} {ds es : List WayD} (h1 : IsWays xs area src ds) (h2 : IsWays xs area src es) : ds = es := by
  unfold IsWays at h1 h2
  split at h1
  · rename_i e
    rw [if_pos e] at h2
    obtain ⟨c, h, A, rfl⟩ := h1
    obtain ⟨d, g, B, rfl⟩ := h2
    exact A.coll B
  · rename_i e
    rw [if_neg e] at h2
    rw [h1, h2]

theorem coll_step (c : Nat → Int) (h : Nat → List Int) {v : Nat} (hv : 1 ≤ v) : collT c h v = collT c h (v - 1) ++ (if 0 ≤ c v then [⟨(v : Int), c v, h v⟩] else []) := by
  obtain ⟨k, rfl⟩ : ∃ k, v = k + 1 := ⟨v - 1, by omega⟩
  rfl

theorem coll_len (c : Nat → Int) (h : Nat → List Int) : ∀ k, (collT c h k).length ≤ k
  | 0 => by simp [collT]
  | k + 1 => by
    unfold collT
    have := coll_len c h k
    rw [List.length_append]
    split <;> simp <;> omega

theorem mixC_at {L : Nat → Nat → Int} {c : Nat → Int} {u j : Nat} (hu : 0 ≤ c u) : mixC L c u j u = c u := by
  unfold mixC
  split
  · exact relaxC_same hu (Int.le_refl _)
  · rfl

theorem relaxL_done {L : Nat → Nat → Int} {src : Nat} {c : Nat → Int} {h : Nat → List Int} {u v : Nat} (h0 : 0 ≤ c v) (hv : c v ≤ c u) : relaxL L src c h u v = h v ∧ relaxC L c u v = c v := by
  by_cases hl : 0 < L u v
  · exact relaxL_dear h0 (by omega)
  · exact relaxL_none hl

theorem mixH_at {L : Nat → Nat → Int} {src : Nat} {c : Nat → Int} {h : Nat → List Int} {u j : Nat} (hu : 0 ≤ c u) : mixH L src c h u j u = h u := by
  unfold mixH
  split
  · exact (relaxL_done hu (Int.le_refl _)).1
  · rfl

theorem relaxC_bound {L : Nat → Nat → Int} {c : Nat → Int} {u v : Nat} {B : Int} (h : ∀ v, c v ≤ B) (hL : ∀ u v, L u v ≤ 1000) : relaxC L c u v ≤ B + 1000 := by
  unfold relaxC
  have := h v
  have := h u
  have := hL u v
  split <;> omega

/-- a is the cheapest of the nodes below v that are not done, 0 where there is none -/
def MinAt (F : Nat → Bool) (c : Nat → Int) (v a : Nat) : Prop :=
  (a = 0 ∧ ∀ x, 1 ≤ x → x < v → F x = false → c x < 0) ∨ (1 ≤ a ∧ a < v ∧ F a = false ∧ 0 ≤ c a ∧ ∀ x, 1 ≤ x → x < v → F x = false → 0 ≤ c x → c a ≤ c x)

theorem minAt_skip {F : Nat → Bool} {c : Nat → Int} {v a : Nat} (h : MinAt F c v a) (hs : F v = true ∨ c v < 0 ∨ (1 ≤ a ∧ c a ≤ c v)) : MinAt F c (v + 1) a := by
  rcases h with ⟨h1, h2⟩ | ⟨h1, h2, h3, h4, h5⟩
  · refine .inl ⟨h1, fun x hx1 hx2 hF => ?_⟩
    by_cases e : x = v
    · subst e
      rcases hs with h | h | h
      · rw [hF] at h; cases h
      · exact h
      · omega
    · exact h2 x hx1 (by omega) hF
  · refine .inr ⟨h1, by omega, h3, h4, fun x hx1 hx2 hF hc => ?_⟩
    by_cases e : x = v
    · subst e
      rcases hs with h | h | h
      · rw [hF] at h; cases h
      · omega
      · exact h.2
    · exact h5 x hx1 (by omega) hF hc

theorem minAt_take {F : Nat → Bool} {c : Nat → Int} {v a : Nat} (h : MinAt F c v a) (h1v : 1 ≤ v) (hF : F v = false) (hc : 0 ≤ c v) (hs : a = 0 ∨ c v < c a) : MinAt F c (v + 1) v := by
  refine .inr ⟨h1v, by omega, hF, hc, fun x hx1 hx2 hFx hcx => ?_⟩
  by_cases e : x = v
  · subst e; omega
  · rcases h with ⟨h1, h2⟩ | ⟨h1, h2, h3, h4, h5⟩
    · have := h2 x hx1 (by omega) hFx; omega
    · have := h5 x hx1 (by omega) hFx hcx; omega

/-- what holds of a search at a round's beginning -/
structure AtRound (L : Nat → Nat → Int) (src : Nat) (F : Nat → Bool) (c : Nat → Int) (h : Nat → List Int) (r : Nat) : Prop where
  inv : Inv L src F c h
  bnd : ∀ v, c v ≤ 1000 * (cardF F : Int)
  at' : cardF F + 1 = r ∨ (r = 7 ∧ ∀ v, 0 ≤ c v → F v = true)

theorem AtRound.init {L : Nat → Nat → Int} {src : Nat} (hs : IsNode src) : AtRound L src (fun _ => false) (fun v => if v = src then 0 else -1) (fun _ => []) 1 := by
  refine ⟨Inv.init hs, fun v => ?_, .inl rfl⟩
  rw [card_zero]
  show (if v = src then (0 : Int) else -1) ≤ _
  split <;> omega

theorem AtRound.fin {L : Nat → Nat → Int} {src : Nat} {F : Nat → Bool} {c : Nat → Int} {h : Nat → List Int} (a : AtRound L src F c h 7) : Fix L src c h ∧ ∀ v, F v = true ↔ 0 ≤ c v := by
  have hf : ∀ v, 0 ≤ c v → F v = true := by
    rcases a.at' with h1 | ⟨_, h1⟩
    · intro v hv
      exact card_full (by omega) (a.inv.cnode v hv)
    · exact h1
  exact ⟨⟨F, a.inv, hf⟩, fun v => ⟨fun hv => (a.inv.fnode v hv).2, hf v⟩⟩

theorem AtRound.none {L : Nat → Nat → Int} {src : Nat} {F : Nat → Bool} {c : Nat → Int} {h : Nat → List Int} {r : Nat} (a : AtRound L src F c h r) (hm : MinAt F c 7 0) : AtRound L src F c h 7 := by
  refine ⟨a.inv, a.bnd, .inr ⟨rfl, fun v hv => ?_⟩⟩
  have hn := a.inv.cnode v hv
  unfold IsNode at hn
  cases e : F v with
  | true => rfl
  | false =>
    rcases hm with ⟨_, h2⟩ | ⟨h1, _⟩
    · have := h2 v hn.1 (by omega) e; omega
    · omega

theorem AtRound.next {L : Nat → Nat → Int} {src : Nat} {F : Nat → Bool} {c : Nat → Int} {h : Nat → List Int} {r u : Nat} (a : AtRound L src F c h r) (hL : Links L 1000) (hr : r < 7) (hm : MinAt F c 7 u) (hu : 1 ≤ u) : AtRound L src (fun v => F v || v == u) (fun v => relaxC L c u v) (fun v => relaxL L src c h u v) (r + 1) := by
  rcases hm with ⟨h1, _⟩ | ⟨h1, h2, h3, h4, h5⟩
  · omega
  · have hcard : cardF (fun v => F v || v == u) = cardF F + 1 := card_add ⟨h1, by omega⟩ h3
    refine ⟨a.inv.step hL h3 h4 (fun v hv hc => ?_) (fun v => relaxL_spec a.inv hL h4 v), fun v => ?_, .inl ?_⟩
    · have hn := a.inv.cnode v hc
      unfold IsNode at hn
      exact h5 v hn.1 (by omega) hv hc
    · rw [hcard]
      have := relaxC_bound (L := L) (u := u) (v := v) a.bnd hL.le
      omega
    · rw [hcard]
      rcases a.at' with h6 | ⟨h6, _⟩
      · omega
      · omega

theorem ways_lit (W : World) (lo : Nat) (hb : lo ≤ W.heap.size) : WaysOwn (W.alloc (.cells #[] 27)) lo (W.alloc (.cells #[] 27)).heap.size (.slice (some ⟨W.heap.size, 0, none⟩) 0 0) [] where
  row := World.ownsRow_lit W #[] 0 hb (by unfold maxLen; omega) (by simp)
  top := by intro k hk; simp [Value.ownBlock] at hk; subst hk; simp
  nears := by simp
  apart := by simp
end Go.Proofs.Ytbmphbeocbgalaa
