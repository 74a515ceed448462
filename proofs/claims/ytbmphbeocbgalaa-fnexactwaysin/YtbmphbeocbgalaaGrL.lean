/-
  A search that keeps what is next in a heap of pointers, as values.
  (*impl.wayFinder).found: its contract.
-/
import Derived.Test.YtbmphbeocbgalaaGrE
import Derived.Test.YtbmphbeocbgalaaWSt
import Derived.Test.YtbmphbeocbgalaaHeapP
import Derived.Test.YtbmphbeocbgalaaTogI
import Derived.Test.YtbmphbeocbgalaaWCard
namespace Go.Proofs.Ytbmphbeocbgalaa

def cOf (bp : Nat → Option Nat) (wd : Nat → WayD) (v : Nat) : Int := match bp v with
  | some k => (wd k).cost
  | none => -1

def hOf (bp : Nat → Option Nat) (wd : Nat → WayD) (v : Nat) : List Int := match bp v with
  | some k => (wd k).hops
  | none => []

theorem cOf_some {bp : Nat → Option Nat} {wd : Nat → WayD} {v k : Nat} (h : bp v = some k) : cOf bp wd v = (wd k).cost := by unfold cOf; rw [h]

theorem hOf_some {bp : Nat → Option Nat} {wd : Nat → WayD} {v k : Nat} (h : bp v = some k) : hOf bp wd v = (wd k).hops := by unfold hOf; rw [h]

theorem cOf_none {bp : Nat → Option Nat} {wd : Nat → WayD} {v : Nat} (h : bp v = none) : cOf bp wd v = -1 := by unfold cOf; rw [h]

theorem hOf_none {bp : Nat → Option Nat} {wd : Nat → WayD} {v : Nat} (h : bp v = none) : hOf bp wd v = [] := by unfold hOf; rw [h]

/-- the best ways bp (by node) and the row q of n that are next, over the ways wd -/
structure GI (F : Nat → Bool) (c : Nat → Int) (h : Nat → List Int) (n : Nat) (q : Nat → Nat) (bp : Nat → Option Nat) (wd : Nat → WayD) : Prop where
  cc : ∀ v, cOf bp wd v = c v
  hh : ∀ v, hOf bp wd v = h v
  to : ∀ v k, bp v = some k → (wd k).to = (v : Int)
  ent : ∀ i, i < n → ∃ v kb : Nat, (wd (q i)).to = (v : Int) ∧ bp v = some kb ∧ ((q i = kb ∧ F v = false) ∨ (wd kb).cost < (wd (q i)).cost)
  live : ∀ v k, bp v = some k → F v = false → ∃ i, i < n ∧ q i = k
  inj : ∀ i j, i < n → j < n → q i = q j → i = j
  nn : ∀ v k, bp v = some k → 0 ≤ (wd k).cost

theorem GI.push {F : Nat → Bool} {c : Nat → Int} {h : Nat → List Int} {n : Nat} {q q' : Nat → Nat} {bp : Nat → Option Nat} {wd : Nat → WayD} (g : GI F c h n q bp wd) {t k : Nat} {x : WayD} (hF : F t = false) (hx : x.to = (t : Int)) (hc : c t < 0 ∨ x.cost < c t)
    (hk1 : ∀ i, i < n → q i ≠ k) (hk2 : ∀ v, bp v ≠ some k) (hs : Shuf (fun y => if y = n then k else q y) q' (n + 1)) (hx0 : 0 ≤ x.cost) : GI F (upd c t x.cost) (upd h t x.hops) (n + 1) q' (upd bp t (some k)) (upd wd k x) := by
  have wk : ∀ i, i < n → upd wd k x (q i) = wd (q i) := fun i hi => upd_other _ _ (hk1 i hi)
  have wb : ∀ v k', bp v = some k' → upd wd k x k' = wd k' := fun v k' e => upd_other _ _ (fun e2 => hk2 v (by rw [e, e2]))
  have hin : ∀ i, i < n + 1 → q' i = k ∨ ∃ j, j < n ∧ q' i = q j := by
    intro i hi
    obtain ⟨j, hj, e⟩ := hs.into i hi
    by_cases e2 : j = n
    · left; rw [e]; exact if_pos e2
    · right
      refine ⟨j, by omega, ?_⟩
      rw [e]
      exact if_neg e2
  refine ⟨fun v => ?_, fun v => ?_, fun v k' e => ?_, fun i hi => ?_, fun v k' e hFv => ?_, ?_, fun v k' e => ?_⟩
  · by_cases e : v = t
    · subst e
      rw [cOf_some (k := k) (upd_same _ _ _), upd_same, upd_same]
    · rw [upd_other _ _ e, ← g.cc v]
      unfold cOf
      rw [upd_other _ _ e]
      cases e2 : bp v with
      | none => rfl
      | some k' => show (upd wd k x k').cost = (wd k').cost; rw [wb v k' e2]
  · by_cases e : v = t
    · subst e
      rw [hOf_some (k := k) (upd_same _ _ _), upd_same, upd_same]
    · rw [upd_other _ _ e, ← g.hh v]
      unfold hOf
      rw [upd_other _ _ e]
      cases e2 : bp v with
      | none => rfl
      | some k' => show (upd wd k x k').hops = (wd k').hops; rw [wb v k' e2]
  · by_cases e2 : v = t
    · subst e2
      rw [upd_same] at e
      cases e
      rw [upd_same]; exact hx
    · rw [upd_other _ _ e2] at e
      rw [wb v k' e]; exact g.to v k' e
  · rcases hin i hi with e | ⟨j, hj, e⟩
    · refine ⟨t, k, ?_, upd_same _ _ _, .inl ⟨e, hF⟩⟩
      rw [e, upd_same]; exact hx
    · obtain ⟨v, kb, h1, h2, h3⟩ := g.ent j hj
      rw [e, wk j hj]
      by_cases ev : v = t
      · subst ev
        refine ⟨v, k, h1, upd_same _ _ _, .inr ?_⟩
        rw [upd_same]
        have hcv := g.cc v
        rw [cOf_some h2] at hcv
        have h0 := g.nn v kb h2
        rcases h3 with ⟨h4, _⟩ | h4
        · rw [h4]; omega
        · omega
      · refine ⟨v, kb, h1, by rw [upd_other _ _ ev]; exact h2, ?_⟩
        rw [wb v kb h2]
        exact h3
  · by_cases e2 : v = t
    · subst e2
      rw [upd_same] at e
      cases e
      obtain ⟨i, hi, e3⟩ := hs.onto n (by omega)
      exact ⟨i, hi, by rw [e3]; exact if_pos rfl⟩
    · rw [upd_other _ _ e2] at e
      obtain ⟨j, hj, e3⟩ := g.live v k' e hFv
      obtain ⟨i, hi, e4⟩ := hs.onto j (by omega)
      refine ⟨i, hi, ?_⟩
      rw [e4, ← e3]
      exact if_neg (by omega)
  · refine hs.inj (fun i j hi hj e => ?_)
    by_cases ei : i = n <;> by_cases ej : j = n
    · omega
    · have e2 : k = q j := by simpa [ei, ej] using e
      exact absurd e2.symm (hk1 j (by omega))
    · have e2 : q i = k := by simpa [ei, ej] using e
      exact absurd e2 (hk1 i (by omega))
    · have e2 : q i = q j := by simpa [ei, ej] using e
      exact g.inj i j (by omega) (by omega) e2
  · by_cases e2 : v = t
    · subst e2
      rw [upd_same] at e
      cases e
      rw [upd_same]; exact hx0
    · rw [upd_other _ _ e2] at e
      rw [wb v k' e]; exact g.nn v k' e

theorem GI.join {F : Nat → Bool} {c : Nat → Int} {h : Nat → List Int} {n : Nat} {q : Nat → Nat} {bp : Nat → Option Nat} {wd : Nat → WayD} (g : GI F c h n q bp wd) {t k : Nat} {y : WayD} (hb : bp t = some k) (hc : y.cost = (wd k).cost) (ht : y.to = (wd k).to) : GI F c (upd h t y.hops) n q bp (upd wd k y) := by
  have hcost : ∀ k', (upd wd k y k').cost = (wd k').cost := by
    intro k'
    by_cases e : k' = k
    · rw [e, upd_same]; exact hc
    · rw [upd_other _ _ e]
  have hto : ∀ k', (upd wd k y k').to = (wd k').to := by
    intro k'
    by_cases e : k' = k
    · rw [e, upd_same]; exact ht
    · rw [upd_other _ _ e]
  refine ⟨fun v => ?_, fun v => ?_, fun v k' e => ?_, fun i hi => ?_, g.live, g.inj, fun v k' e => by rw [hcost]; exact g.nn v k' e⟩
  · rw [← g.cc v]
    unfold cOf
    cases bp v with
    | none => rfl
    | some k' => exact hcost k'
  · by_cases e : v = t
    · subst e
      rw [hOf_some hb, upd_same, upd_same]
    · rw [upd_other _ _ e, ← g.hh v]
      unfold hOf
      cases e2 : bp v with
      | none => rfl
      | some k' =>
        show (upd wd k y k').hops = (wd k').hops
        rw [upd_other]
        intro e3
        subst e3
        have h1 := g.to v k' e2
        have h2 := g.to t k' hb
        omega
  · rw [hto]; exact g.to v k' e
  · obtain ⟨v, kb, h1, h2, h3⟩ := g.ent i hi
    refine ⟨v, kb, by rw [hto]; exact h1, h2, ?_⟩
    rw [hcost, hcost]
    exact h3

theorem pop_in {q q' : Nat → Nat} {n : Nat} (hs : Shuf (swapF q 0 n) q' n) {i : Nat} (hi : i < n) : ∃ j, 0 < j ∧ j < n + 1 ∧ q' i = q j := by
  obtain ⟨j, hj, e⟩ := hs.into i hi
  rcases swapF_cases q 0 n j with ⟨a, b⟩ | ⟨a, b⟩ | ⟨a, _, b⟩
  · exact ⟨n, by omega, by omega, e.trans b⟩
  · omega
  · exact ⟨j, by omega, by omega, e.trans b⟩

theorem pop_on {q q' : Nat → Nat} {n : Nat} (hs : Shuf (swapF q 0 n) q' n) {j : Nat} (h0 : 0 < j) (hj : j < n + 1) : ∃ i, i < n ∧ q' i = q j := by
  by_cases e : j = n
  · obtain ⟨i, hi, e2⟩ := hs.onto 0 (by omega)
    refine ⟨i, hi, ?_⟩
    rw [e2]
    unfold swapF
    rw [if_pos rfl, e]
  · obtain ⟨i, hi, e2⟩ := hs.onto j (by omega)
    refine ⟨i, hi, ?_⟩
    rw [e2]
    unfold swapF
    rw [if_neg (by omega), if_neg e]

theorem pop_inj {q q' : Nat → Nat} {n : Nat} (hs : Shuf (swapF q 0 n) q' n) (hi : ∀ i j, i < n + 1 → j < n + 1 → q i = q j → i = j) : ∀ i j, i < n → j < n → q' i = q' j → i = j :=
  hs.inj (fun i j h1 h2 e => (Shuf.swap q (n := n + 1) (i := 0) (j := n) (by omega) (by omega)).inj hi i j (by omega) (by omega) e)

theorem GI.pop {F F' : Nat → Bool} {c : Nat → Int} {h : Nat → List Int} {n : Nat} {q q' : Nat → Nat} {bp : Nat → Option Nat} {wd : Nat → WayD} (g : GI F c h (n + 1) q bp wd) (hs : Shuf (swapF q 0 n) q' n)
    (hF1 : ∀ v, F' v = false → F v = false) (hF2 : ∀ v k, bp v = some k → F' v = false → k ≠ q 0) (hF3 : ∀ v, F v = false → F' v = true → bp v = some (q 0)) : GI F' c h n q' bp wd := by
  refine ⟨g.cc, g.hh, g.to, fun i hi => ?_, fun v k e hFv => ?_, pop_inj hs g.inj, g.nn⟩
  · obtain ⟨j, h0, hj, e⟩ := pop_in hs hi
    obtain ⟨v, kb, h1, h2, h3⟩ := g.ent j hj
    rw [e]
    refine ⟨v, kb, h1, h2, ?_⟩
    rcases h3 with ⟨h4, h5⟩ | h4
    · left
      refine ⟨h4, ?_⟩
      cases e2 : F' v with
      | false => rfl
      | true =>
        have h6 := hF3 v h5 e2
        rw [h2] at h6
        cases h6
        have := g.inj j 0 hj (by omega) h4
        omega
    · exact .inr h4
  · obtain ⟨j, hj, e2⟩ := g.live v k e (hF1 v hFv)
    have h0 : 0 < j := by
      by_cases e3 : j = 0
      · subst e3; exact absurd e2.symm (hF2 v k e hFv)
      · omega
    obtain ⟨i, hi, e4⟩ := pop_on hs h0 hj
    exact ⟨i, hi, e4.trans e2⟩
/-- in a search every node but the first one has hops, once it has a cost -/
theorem Inv.hops_ne {L : Nat → Nat → Int} {src : Nat} {F : Nat → Bool} {c : Nat → Int} {h : Nat → List Int} (I : Inv L src F c h) : ∀ (m v : Nat), v ≠ src → 0 ≤ c v → (c v).toNat ≤ m → h v ≠ []
  | m, v, hv, h0, hm => by
    obtain ⟨u, hu, hl, hc⟩ := I.pred v hv h0
    have hu0 := (I.fnode u hu).2
    by_cases e : u = src
    · have : (v : Int) ∈ h v := (I.hop v hv v).2 ⟨h0, u, hu, hl, hc, .inl ⟨e, rfl⟩⟩
      intro e2
      rw [e2] at this
      cases this
    · match m, hm with
      | 0, hm => omega
      | m + 1, hm =>
        have ih := I.hops_ne m u e hu0 (by omega)
        obtain ⟨x, hx⟩ := List.exists_mem_of_ne_nil _ ih
        have : x ∈ h v := (I.hop v hv x).2 ⟨h0, u, hu, hl, hc, .inr ⟨e, hx⟩⟩
        intro e2
        rw [e2] at this
        cases this

theorem asc_addL {l a b : List Int} (hl : l.Pairwise (· < ·)) (hm : ∀ x, x ∈ l ↔ (x ∈ a ∨ x ∈ b)) (hr : ∀ x, x ∈ l → 1 ≤ x ∧ x ≤ 6) : l = addL a b := by
  refine asc_ext hl (addL_asc a b) (fun x => ?_)
  rw [addL_mem]
  constructor
  · intro hx
    have := hr x hx
    exact ⟨this.1, this.2, (hm x).1 hx⟩
  · rintro ⟨_, _, h3⟩
    exact (hm x).2 h3

theorem least_exists {P : Nat → Prop} (h : ∃ m, P m) : ∃ m, P m ∧ ∀ k, P k → m ≤ k := by
  obtain ⟨m, hm⟩ := h
  induction m using Nat.strongRecOn with
  | ind m ih =>
    by_cases e : ∃ k, k < m ∧ P k
    · obtain ⟨k, hk, hP⟩ := e
      exact ih k hk hP
    · exact ⟨m, hm, fun k hk => by
        by_cases e2 : k < m
        · exact absurd ⟨k, e2, hk⟩ e
        · omega⟩

open Classical in
noncomputable def leastM (P : Nat → Prop) : Nat := if h : ∃ m, P m then Classical.choose (least_exists h) else 0

theorem leastM_spec {P : Nat → Prop} (h : ∃ m, P m) : P (leastM P) := by
  unfold leastM
  rw [dif_pos h]
  exact (Classical.choose_spec (least_exists h)).1

theorem leastM_le {P : Nat → Prop} {m : Nat} (h : P m) : leastM P ≤ m := by
  unfold leastM
  rw [dif_pos ⟨m, h⟩]
  exact (Classical.choose_spec (least_exists ⟨m, h⟩)).2 m h
end Go.Proofs.Ytbmphbeocbgalaa
namespace Go.Proofs.Ytbmphbeocbgalaa
open Go.RowKit

set_option linter.unusedSimpArgs false

def ptrO : Option Nat → Value
  | some k => .pointer (some ⟨k, 0, none⟩)
  | none => .pointer none

def finC (bp : Nat → Option Nat) (u : Value) : Array Value := #[ptrO (bp 0), ptrO (bp 1), ptrO (bp 2), ptrO (bp 3), ptrO (bp 4), ptrO (bp 5), ptrO (bp 6), u]

theorem finC_at (bp : Nat → Option Nat) (u : Value) {t : Nat} (ht : 1 ≤ t ∧ t ≤ 6) : (finC bp u)[t]? = some (ptrO (bp t)) := by
  rcases node_cases ht with rfl | rfl | rfl | rfl | rfl | rfl <;> rfl

theorem finC_set (bp : Nat → Option Nat) (u : Value) {t : Nat} (ht : 1 ≤ t ∧ t ≤ 6) (k : Nat) : (finC bp u).setIfInBounds t (.pointer (some ⟨k, 0, none⟩)) = finC (upd bp t (some k)) u := by
  rcases node_cases ht with rfl | rfl | rfl | rfl | rfl | rfl <;> simp [finC, upd, ptrO]

theorem finC_next (bp : Nat → Option Nat) (u u' : Value) : (finC bp u).setIfInBounds 7 u' = finC bp u' := by simp [finC]

/-- a finder at z: the best ways bp by node, the row u of what is next -/
structure FS (W : World) (lo z : Nat) (u : Value) (n : Nat) (q : Nat → Nat) (bp : Nat → Option Nat) (wd : Nat → WayD) (wv : Nat → Value) : Prop where
  lz : lo ≤ z
  hb : HB W lo z (finC bp u) u n q wd wv
  hp : IsHeap (fun k => (wd k).cost) q n
  way : ∀ v k, bp v = some k → W.heap[k]? = some (.cells (wayC (wd k) (wv k)) 27) ∧ lo ≤ k
  row : ∀ v k, bp v = some k → W.ownsRow lo 3 1 (wv k) (wd k).hops.length (flat intE (wd k).hops)
  short : ∀ v k, bp v = some k → (wd k).hops.length ≤ 6
  apart : ∀ v v' k k', v ≠ v' → bp v = some k → bp v' = some k' → ∀ b, (wv k).ownBlock = some b → (wv k').ownBlock ≠ some b
  to : ∀ v k, bp v = some k → (wd k).to = (v : Int)
  b0 : bp 0 = none

theorem FS.size {W : World} {lo z n : Nat} {u : Value} {q : Nat → Nat} {bp : Nat → Option Nat} {wd : Nat → WayD} {wv : Nat → Value} (s : FS W lo z u n q bp wd wv) : lo ≤ W.heap.size := by
  have := lt_of_heap s.hb.box; have := s.lz; omega

theorem FS.below {W W' : World} {lo z n : Nat} {u : Value} {q : Nat → Nat} {bp : Nat → Option Nat} {wd : Nat → WayD} {wv : Nat → Value} (s : FS W lo z u n q bp wd wv) (hb : Below W.heap.size W W') : FS W' lo z u n q bp wd wv :=
  ⟨s.lz, s.hb.below hb, s.hp, fun v k e => ⟨(hb.block _ (lt_of_heap (s.way v k e).1)).trans (s.way v k e).1, (s.way v k e).2⟩, fun v k e => owns_below (s.row v k e) hb (Nat.le_refl _), s.short, s.apart, s.to, s.b0⟩

theorem FS.known {W : World} {lo z n : Nat} {u : Value} {q : Nat → Nat} {bp : Nat → Option Nat} {wd : Nat → WayD} {wv : Nat → Value} (s : FS W lo z u n q bp wd wv) {t : Nat} (ht : 1 ≤ t ∧ t ≤ 6) : W.cell? ⟨z, t, none⟩ = some (ptrO (bp t)) := (cells_at s.hb.box t).trans (finC_at bp u ht)

/-- the finder has one more best way, which lies at k and is not in the row yet -/
theorem FS.put {W : World} {lo z n : Nat} {u : Value} {q : Nat → Nat} {bp : Nat → Option Nat} {wd : Nat → WayD} {wv : Nat → Value} (s : FS W lo z u n q bp wd wv) {t k : Nat} (ht : 1 ≤ t ∧ t ≤ 6) (x : WayD) (v : Value)
    (hq : ∀ i, i < n → q i ≠ k) (hk : W.heap[k]? = some (.cells (wayC x v) 27)) :
    HB (W.setCell ⟨z, t, none⟩ (.pointer (some ⟨k, 0, none⟩))) lo z (finC (upd bp t (some k)) u) u n q (upd wd k x) (upd wv k v) ∧ (W.setCell ⟨z, t, none⟩ (.pointer (some ⟨k, 0, none⟩))).heap[k]? = some (.cells (wayC (upd wd k x k) (upd wv k v k)) 27) ∧ FK W (W.setCell ⟨z, t, none⟩ (.pointer (some ⟨k, 0, none⟩))) lo z := by
  have hkz : ∀ (j : Nat) (cs : Array Value), W.heap[j]? = some (.cells cs 27) → (W.setCell ⟨z, t, none⟩ (.pointer (some ⟨k, 0, none⟩))).heap[j]? = some (.cells cs 27) := by
    intro j cs hj
    rw [heap_setCell_other W ⟨z, t, none⟩ j _ (fun e => by
      have e' : j = z := e
      rw [e', s.hb.box] at hj
      simp at hj)]
    exact hj
  refine ⟨⟨?_, rfl, ?_, fun i hi => ?_, fun i hi => ?_⟩, ?_, FK.of_set _ s.lz⟩
  · have e := heap_setCell_same W z t _ _ (.pointer (some ⟨k, 0, none⟩)) s.hb.box
    rw [finC_set bp u ht k] at e
    exact e
  · exact owns_keepB s.hb.hq.row (fun j hj => heap_setCell_other W ⟨z, t, none⟩ j _ (fun e => by
      have e' : j = z := e
      exact own_type_ne2 s.hb.hq.row s.hb.box (by decide) (by rw [hj, e'])))
  · rw [upd_other _ _ (hq i hi), upd_other _ _ (hq i hi)]
    exact hkz _ _ (s.hb.hq.way i hi)
  · rw [upd_other _ _ (hq i hi)]
    exact s.hb.hq.sl i hi
  · rw [upd_same, upd_same]
    exact hkz _ _ hk

theorem FS.pushed {W W2 W' : World} {lo z n : Nat} {u u' : Value} {q q' : Nat → Nat} {bp : Nat → Option Nat} {wd : Nat → WayD} {wv : Nat → Value} (s : FS W lo z u n q bp wd wv) {t k : Nat} (ht : 1 ≤ t ∧ t ≤ 6) {x : WayD} {v : Value} (hx : x.to = (t : Int)) (hxl : x.hops.length ≤ 6)
    (hk : W.heap[k]? = some (.cells (wayC x v) 27)) (hlk : lo ≤ k) (hbk : ∀ v, bp v ≠ some k) (hrow : W.ownsRow lo 3 1 v x.hops.length (flat intE x.hops)) (hfr : ∀ v' k' b, bp v' = some k' → (wv k').ownBlock = some b → v.ownBlock ≠ some b)
    (f1 : FK W W2 lo z) (f2 : FK W2 W' lo z) (hb' : HB W' lo z (finC (upd bp t (some k)) u') u' (n + 1) q' (upd wd k x) (upd wv k v)) (hi : IsHeap (fun k' => (upd wd k x k').cost) q' (n + 1)) : FS W' lo z u' (n + 1) q' (upd bp t (some k)) (upd wd k x) (upd wv k v) := by
  have F := f1.trans f2
  have keepW : ∀ (j : Nat) (cs : Array Value), W.heap[j]? = some (.cells cs 27) → W'.heap[j]? = some (.cells cs 27) := by
    intro j cs hj
    exact (F.typed j cs _ _ hj (by decide) (fun e => by rw [e, s.hb.box] at hj; simp at hj)).trans hj
  have keepR : ∀ (v : Value) (l : List Int), W.ownsRow lo 3 1 v l.length (flat intE l) → W'.ownsRow lo 3 1 v l.length (flat intE l) := by
    intro v l ho
    refine owns_keepB ho (fun j hj => ?_)
    rcases ho.2 with ⟨e1, _⟩ | ⟨g2, cap, cur, e1, _, hh, _⟩
    · rw [e1] at hj; cases hj
    · rw [e1] at hj
      simp [Value.ownBlock] at hj
      subst hj
      exact F.typed _ _ _ _ hh (by decide) (fun e => by rw [e, s.hb.box] at hh; simp at hh)
  have wb : ∀ v k', bp v = some k' → k' ≠ k := fun v k' e e2 => hbk v (by rw [e, e2])
  refine ⟨s.lz, hb', hi, fun v' k' e => ?_, fun v' k' e => ?_, fun v' k' e => ?_, fun v1 v2 k1 k2 hne e1 e2 b hb1 hb2 => ?_, fun v' k' e => ?_, ?_⟩
  · by_cases e2 : v' = t
    · subst e2; rw [upd_same] at e; cases e
      rw [upd_same, upd_same]; exact ⟨keepW _ _ hk, hlk⟩
    · rw [upd_other _ _ e2] at e
      rw [upd_other _ _ (wb v' k' e), upd_other _ _ (wb v' k' e)]
      exact ⟨keepW _ _ (s.way v' k' e).1, (s.way v' k' e).2⟩
  · by_cases e2 : v' = t
    · subst e2; rw [upd_same] at e; cases e
      rw [upd_same, upd_same]; exact keepR _ _ hrow
    · rw [upd_other _ _ e2] at e
      rw [upd_other _ _ (wb v' k' e), upd_other _ _ (wb v' k' e)]
      exact keepR _ _ (s.row v' k' e)
  · by_cases e2 : v' = t
    · subst e2; rw [upd_same] at e; cases e
      rw [upd_same]; exact hxl
    · rw [upd_other _ _ e2] at e
      rw [upd_other _ _ (wb v' k' e)]
      exact s.short v' k' e
  · by_cases a1 : v1 = t
    · subst a1; rw [upd_same] at e1; cases e1
      rw [upd_same] at hb1
      rw [upd_other _ _ (fun e => hne e.symm)] at e2
      rw [upd_other _ _ (wb v2 k2 e2)] at hb2
      exact hfr v2 k2 b e2 hb2 hb1
    · rw [upd_other _ _ a1] at e1
      rw [upd_other _ _ (wb v1 k1 e1)] at hb1
      by_cases a2 : v2 = t
      · subst a2; rw [upd_same] at e2; cases e2
        rw [upd_same] at hb2
        exact hfr v1 k1 b e1 hb1 hb2
      · rw [upd_other _ _ a2] at e2
        rw [upd_other _ _ (wb v2 k2 e2)] at hb2
        exact s.apart v1 v2 k1 k2 hne e1 e2 b hb1 hb2
  · by_cases e2 : v' = t
    · subst e2; rw [upd_same] at e; cases e
      rw [upd_same]; exact hx
    · rw [upd_other _ _ e2] at e
      rw [upd_other _ _ (wb v' k' e)]
      exact s.to v' k' e
  · rw [upd_other _ _ (by omega)]; exact s.b0

/-- a best way is another one, of the same cost, with a row of its own -/
theorem FS.joined {W W2 : World} {lo z n : Nat} {u : Value} {q : Nat → Nat} {bp : Nat → Option Nat} {wd : Nat → WayD} {wv : Nat → Value} (s : FS W lo z u n q bp wd wv) {t k B : Nat} {y : WayD} {vy : Value} (hbt : bp t = some k) (hc : y.cost = (wd k).cost) (hto : y.to = (wd k).to) (hyl : y.hops.length ≤ 6)
    (hb2 : Below W.heap.size W W2) (hB : W.heap.size ≤ B) (hrow : W2.ownsRow B 3 1 vy y.hops.length (flat intE y.hops)) : FS (putW3 W2 k y vy) lo z u n q bp (upd wd k y) (upd wv k vy) := by
  have s2 := s.below hb2
  have hk := (s2.way t k hbt).1
  have G := grownW3 W2 k y vy
  have hfin : (putW3 W2 k y vy).heap[k]? = some (.cells (wayC y vy) 27) := finW3 y vy (by rw [hk]; rfl)
  have hcost : ∀ k', (upd wd k y k').cost = (wd k').cost := by
    intro k'
    by_cases e : k' = k
    · rw [e, upd_same]; exact hc
    · rw [upd_other _ _ e]
  have hkz : z ≠ k := fun e => by rw [← e, s2.hb.box] at hk; simp at hk
  have keepR : ∀ (b0 : Nat) (v : Value) (l : List Int), W2.ownsRow b0 3 1 v l.length (flat intE l) → (putW3 W2 k y vy).ownsRow b0 3 1 v l.length (flat intE l) := by
    intro b0 v l ho
    refine owns_keepB ho (fun j hj => G.block j (ho.lt j hj).2 (fun e => ?_))
    have e' : j = k := by simpa using e
    exact own_type_ne2 ho hk (by decide) (by rw [hj, e'])
  have hway : ∀ k', (∃ x v, W2.heap[k']? = some (.cells (wayC x v) 27) ∧ x = wd k' ∧ v = wv k') → (putW3 W2 k y vy).heap[k']? = some (.cells (wayC (upd wd k y k') (upd wv k vy k')) 27) := by
    rintro k' ⟨x, v, h1, rfl, rfl⟩
    by_cases e : k' = k
    · rw [e, upd_same, upd_same]; exact hfin
    · rw [upd_other _ _ e, upd_other _ _ e, G.block k' (lt_of_heap h1) (by simpa using e)]; exact h1
  have lowRow : ∀ v' k', bp v' = some k' → ∀ b, (wv k').ownBlock = some b → b < W.heap.size := fun v' k' e b hb => ((s.row v' k' e).lt b hb).2
  have newRow : ∀ b, vy.ownBlock = some b → W.heap.size ≤ b := fun b hb => by have := (hrow.lt b hb).1; omega
  refine ⟨s.lz, ⟨?_, rfl, ?_, fun i hi => ?_, fun i hi => ?_⟩, ?_, fun v' k' e => ⟨hway k' ⟨_, _, (s2.way v' k' e).1, rfl, rfl⟩, (s.way v' k' e).2⟩, fun v' k' e => ?_, fun v' k' e => ?_, fun v1 v2 k1 k2 hne e1 e2 b hb1 hb2 => ?_, fun v' k' e => ?_, s.b0⟩
  · rw [G.block z (lt_of_heap s2.hb.box) (by simpa using hkz)]; exact s2.hb.box
  · refine owns_keepB s2.hb.hq.row (fun j hj => G.block j (s2.hb.hq.row.lt j hj).2 (fun e => ?_))
    have e' : j = k := by simpa using e
    exact own_type_ne2 s2.hb.hq.row hk (by decide) (by rw [hj, e'])
  · exact hway (q i) ⟨_, _, s2.hb.hq.way i hi, rfl, rfl⟩
  · by_cases e : q i = k
    · rw [e, upd_same]
      obtain ⟨a, c, e2⟩ := owns_lenS hrow
      exact ⟨a, _, c, e2⟩
    · rw [upd_other _ _ e]; exact s.hb.hq.sl i hi
  · intro i h0 hi
    show (upd wd k y (q (par i))).cost ≤ (upd wd k y (q i)).cost
    rw [hcost, hcost]
    exact s.hp i h0 hi
  · by_cases e2 : k' = k
    · rw [e2, upd_same, upd_same]
      exact owns_baseS (keepR B vy y.hops hrow) (by have := s.size; omega)
    · rw [upd_other _ _ e2, upd_other _ _ e2]
      exact keepR lo _ _ (s2.row v' k' e)
  · by_cases e2 : k' = k
    · rw [e2, upd_same]; exact hyl
    · rw [upd_other _ _ e2]; exact s.short v' k' e
  · by_cases a1 : k1 = k
    · have a2 : k2 ≠ k := fun a2 => by
        have h1 := s.to v1 k1 e1
        have h2 := s.to v2 k2 e2
        rw [a1] at h1
        rw [a2] at h2
        omega
      rw [a1, upd_same] at hb1
      rw [upd_other _ _ a2] at hb2
      have h1 := newRow b hb1
      have h2 := lowRow v2 k2 e2 b hb2
      omega
    · rw [upd_other _ _ a1] at hb1
      by_cases a2 : k2 = k
      · rw [a2, upd_same] at hb2
        have h1 := newRow b hb2
        have h2 := lowRow v1 k1 e1 b hb1
        omega
      · rw [upd_other _ _ a2] at hb2
        exact s.apart v1 v2 k1 k2 hne e1 e2 b hb1 hb2
  · by_cases e2 : k' = k
    · rw [e2, upd_same, hto]
      rw [e2] at e
      exact s.to v' k e
    · rw [upd_other _ _ e2]; exact s.to v' k' e
end Go.Proofs.Ytbmphbeocbgalaa
