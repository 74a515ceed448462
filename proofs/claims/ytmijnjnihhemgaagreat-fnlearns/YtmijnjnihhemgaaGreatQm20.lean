/-
  How many nodes are done; what the end of a search tells, as a list of ways.
  Ways of several areas, Together: as values.
  spec.Better, impl.Better: their contracts.
  spec.Together: its contract.
  Contracts of the library, laid at this program: slices_Sort_int, slices_Sort_int_none, slices_Compact_int, slices_Compact_int_empty.
  slices.Sort and slices.Compact of a row of the call's own; what they make of it.
  spec.WayTo: its contract.
  impl.ownHops, ownWay, WayTo: their contracts.
  impl.hopsOfBoth, Together: their contracts.
  The best of several ways to one node, with the hops of all that are as short: determined by the set of the ways.
  What is within several areas: the sets of ways; lists under way.
  What is beyond: the sets of ways that records tell of.
-/
import Derived.Test.YtmijnjnihhemgaaGreatQm19
import Derived.Test.YtmijnjnihhemgaaGreatQm6
import Derived.Deep.RegionHeld3
import Derived.Shelf.Sort.Plain
import Derived.Ground.Names2Prog
import Derived.Shelf.Slices.CompactI
import Derived.Shelf.Slices.In.SortNone
import Derived.Test.YtmijnjnihhemgaaGreatProg
import Derived.Test.YtmijnjnihhemgaaGreatQm1
import Derived.Test.YtmijnjnihhemgaaGreatQm5
import Derived.Lib.OwnBridge
import Derived.Sort.OwnSortedInts
import Derived.Test.YtmijnjnihhemgaaGreatQm10
import Derived.Test.YtmijnjnihhemgaaGreatQm3
namespace Go.Proofs.YtmijnjnihhemgaaGreat
open Go.RowKit
set_option linter.unusedSimpArgs false
set_option linter.unusedVariables false
set_option maxRecDepth 100000
set_option maxHeartbeats 8000000
def cardF (F : Nat → Bool) : Nat := (F 1).toNat + (F 2).toNat + (F 3).toNat + (F 4).toNat + (F 5).toNat + (F 6).toNat
theorem node_cases {u : Nat} (h : 1 ≤ u ∧ u ≤ 6) : u = 1 ∨ u = 2 ∨ u = 3 ∨ u = 4 ∨ u = 5 ∨ u = 6 := by omega
theorem card_add {F : Nat → Bool} {u : Nat} (hu : 1 ≤ u ∧ u ≤ 6) (hF : F u = false) : cardF (fun v => F v || v == u) = cardF F + 1 := by
 unfold cardF
 rcases node_cases hu with rfl | rfl | rfl | rfl | rfl | rfl <;> simp [hF] <;> omega
theorem card_le (F : Nat → Bool) : cardF F ≤ 6 := by
 unfold cardF
 have h1 := Bool.toNat_le (F 1)
 have h2 := Bool.toNat_le (F 2)
 have h3 := Bool.toNat_le (F 3)
 have h4 := Bool.toNat_le (F 4)
 have h5 := Bool.toNat_le (F 5)
 have h6 := Bool.toNat_le (F 6)
 omega
theorem card_full {F : Nat → Bool} (h : cardF F = 6) {u : Nat} (hu : 1 ≤ u ∧ u ≤ 6) : F u = true := by
 cases e : F u with
 | true => rfl
 | false =>
  have := card_add hu e
  have := card_le (fun v => F v || v == u)
  omega
theorem card_zero : cardF (fun _ => false) = 0 := rfl
def collT (c : Nat → Int) (h : Nat → List Int) : Nat → List WayD
 | 0 => []
 | k + 1 => collT c h k ++ (if 0 ≤ c (k + 1) then [⟨((k + 1 : Nat) : Int), c (k + 1), h (k + 1)⟩] else [])
theorem coll_congr {c d : Nat → Int} {h g : Nat → List Int} (e : ∀ v, (0 ≤ c v → d v = c v ∧ g v = h v) ∧ (0 ≤ d v → 0 ≤ c v)) : ∀ k, collT c h k = collT d g k
 | 0 => rfl
 | k + 1 => by
  unfold collT
  rw [coll_congr e k]
  congr 1
  by_cases h0 : 0 ≤ c (k + 1)
  ·have := (e (k + 1)).1 h0
   rw [if_pos h0, if_pos (by omega), this.1, this.2]
  ·rw [if_neg h0, if_neg (fun hc => h0 ((e (k + 1)).2 hc))]
theorem Fix.coll {L : Nat → Nat → Int} {src : Nat} {c d : Nat → Int} {h g : Nat → List Int} (A : Fix L src c h) (B : Fix L src d g) : collT c h 6 = collT d g 6 := by
 refine coll_congr (fun v => ⟨fun h0 => ⟨A.cost B v h0, A.hops B v h0⟩, fun h0 => ?_⟩) 6
 have := B.cost A v h0
 omega
def IsWays (xs : List RecD) (area src : Int) (ds : List WayD) : Prop :=
 if (storeB xs && inB src 1 6 && nodeB xs area src) = true then ∃ c h, Fix (linkN xs area) src.toNat c h ∧ ds = collT c h 6 else ds = []
theorem IsWays.unique {xs : List RecD} {area src : Int} {ds es : List WayD} (h1 : IsWays xs area src ds) (h2 : IsWays xs area src es) : ds = es := by
 unfold IsWays at h1 h2
 split at h1
 ·rename_i e
  rw [if_pos e] at h2
  obtain ⟨c, h, A, rfl⟩ := h1
  obtain ⟨d, g, B, rfl⟩ := h2
  exact A.coll B
 ·rename_i e
  rw [if_neg e] at h2
  rw [h1, h2]
theorem coll_step (c : Nat → Int) (h : Nat → List Int) {v : Nat} (hv : 1 ≤ v) : collT c h v = collT c h (v - 1) ++ (if 0 ≤ c v then [⟨(v : Int), c v, h v⟩] else []) := by
 obtain ⟨k, rfl⟩ : ∃ k, v = k + 1 := ⟨v - 1, by omega⟩
 rfl
theorem coll_len (c : Nat → Int) (h : Nat → List Int) : ∀ k, (collT c h k).length ≤ k
 | 0 => by simp [collT]
 | k + 1 => by
  unfold collT
  have := coll_len c h k
  rw [List.length_append]
  split <;> simp <;> omega
theorem mixC_at {L : Nat → Nat → Int} {c : Nat → Int} {u j : Nat} (hu : 0 ≤ c u) : mixC L c u j u = c u := by
 unfold mixC
 split
 ·exact relaxC_same hu (Int.le_refl _)
 ·rfl
theorem relaxL_done {L : Nat → Nat → Int} {src : Nat} {c : Nat → Int} {h : Nat → List Int} {u v : Nat} (h0 : 0 ≤ c v) (hv : c v ≤ c u) : relaxL L src c h u v = h v ∧ relaxC L c u v = c v := by
 by_cases hl : 0 < L u v
 ·exact relaxL_dear h0 (by omega)
 ·exact relaxL_none hl
theorem mixH_at {L : Nat → Nat → Int} {src : Nat} {c : Nat → Int} {h : Nat → List Int} {u j : Nat} (hu : 0 ≤ c u) : mixH L src c h u j u = h u := by
 unfold mixH
 split
 ·exact (relaxL_done hu (Int.le_refl _)).1
 ·rfl
theorem relaxC_bound {L : Nat → Nat → Int} {c : Nat → Int} {u v : Nat} {B : Int} (h : ∀ v, c v ≤ B) (hL : ∀ u v, L u v ≤ 1000) : relaxC L c u v ≤ B + 1000 := by
 unfold relaxC
 have := h v
 have := h u
 have := hL u v
 split <;> omega
def MinAt (F : Nat → Bool) (c : Nat → Int) (v a : Nat) : Prop :=
 (a = 0 ∧ ∀ x, 1 ≤ x → x < v → F x = false → c x < 0) ∨ (1 ≤ a ∧ a < v ∧ F a = false ∧ 0 ≤ c a ∧ ∀ x, 1 ≤ x → x < v → F x = false → 0 ≤ c x → c a ≤ c x)
theorem minAt_skip {F : Nat → Bool} {c : Nat → Int} {v a : Nat} (h : MinAt F c v a) (hs : F v = true ∨ c v < 0 ∨ (1 ≤ a ∧ c a ≤ c v)) : MinAt F c (v + 1) a := by
 rcases h with ⟨h1, h2⟩ | ⟨h1, h2, h3, h4, h5⟩
 ·refine .inl ⟨h1, fun x hx1 hx2 hF => ?_⟩
  by_cases e : x = v
  ·subst e
   rcases hs with h | h | h
   ·rw [hF] at h; cases h
   ·exact h
   ·omega
  ·exact h2 x hx1 (by omega) hF
 ·refine .inr ⟨h1, by omega, h3, h4, fun x hx1 hx2 hF hc => ?_⟩
  by_cases e : x = v
  ·subst e
   rcases hs with h | h | h
   ·rw [hF] at h; cases h
   ·omega
   ·exact h.2
  ·exact h5 x hx1 (by omega) hF hc
theorem minAt_take {F : Nat → Bool} {c : Nat → Int} {v a : Nat} (h : MinAt F c v a) (h1v : 1 ≤ v) (hF : F v = false) (hc : 0 ≤ c v) (hs : a = 0 ∨ c v < c a) : MinAt F c (v + 1) v := by
 refine .inr ⟨h1v, by omega, hF, hc, fun x hx1 hx2 hFx hcx => ?_⟩
 by_cases e : x = v
 ·subst e; omega
 ·rcases h with ⟨h1, h2⟩ | ⟨h1, h2, h3, h4, h5⟩
  ·have := h2 x hx1 (by omega) hFx; omega
  ·have := h5 x hx1 (by omega) hFx hcx; omega
structure AtRound (L : Nat → Nat → Int) (src : Nat) (F : Nat → Bool) (c : Nat → Int) (h : Nat → List Int) (r : Nat) : Prop where
 inv : Inv L src F c h
 bnd : ∀ v, c v ≤ 1000 * (cardF F : Int)
 at' : cardF F + 1 = r ∨ (r = 7 ∧ ∀ v, 0 ≤ c v → F v = true)
theorem AtRound.init {L : Nat → Nat → Int} {src : Nat} (hs : IsNode src) : AtRound L src (fun _ => false) (fun v => if v = src then 0 else -1) (fun _ => []) 1 := by
 refine ⟨Inv.init hs, fun v => ?_, .inl rfl⟩
 rw [card_zero]
 show (if v = src then (0 : Int) else -1) ≤ _
 split <;> omega
theorem AtRound.fin {L : Nat → Nat → Int} {src : Nat} {F : Nat → Bool} {c : Nat → Int} {h : Nat → List Int} (a : AtRound L src F c h 7) : Fix L src c h ∧ ∀ v, F v = true ↔ 0 ≤ c v := by
 have hf : ∀ v, 0 ≤ c v → F v = true := by
  rcases a.at' with h1 | ⟨_, h1⟩
  ·intro v hv
   exact card_full (by omega) (a.inv.cnode v hv)
  ·exact h1
 exact ⟨⟨F, a.inv, hf⟩, fun v => ⟨fun hv => (a.inv.fnode v hv).2, hf v⟩⟩
theorem AtRound.none {L : Nat → Nat → Int} {src : Nat} {F : Nat → Bool} {c : Nat → Int} {h : Nat → List Int} {r : Nat} (a : AtRound L src F c h r) (hm : MinAt F c 7 0) : AtRound L src F c h 7 := by
 refine ⟨a.inv, a.bnd, .inr ⟨rfl, fun v hv => ?_⟩⟩
 have hn := a.inv.cnode v hv
 unfold IsNode at hn
 cases e : F v with
 | true => rfl
 | false =>
  rcases hm with ⟨_, h2⟩ | ⟨h1, _⟩
  ·have := h2 v hn.1 (by omega) e; omega
  ·omega
theorem AtRound.next {L : Nat → Nat → Int} {src : Nat} {F : Nat → Bool} {c : Nat → Int} {h : Nat → List Int} {r u : Nat} (a : AtRound L src F c h r) (hL : Links L 1000) (hr : r < 7) (hm : MinAt F c 7 u) (hu : 1 ≤ u) : AtRound L src (fun v => F v || v == u) (fun v => relaxC L c u v) (fun v => relaxL L src c h u v) (r + 1) := by
 rcases hm with ⟨h1, _⟩ | ⟨h1, h2, h3, h4, h5⟩
 ·omega
 ·have hcard : cardF (fun v => F v || v == u) = cardF F + 1 := card_add ⟨h1, by omega⟩ h3
  refine ⟨a.inv.step hL h3 h4 (fun v hv hc => ?_) (fun v => relaxL_spec a.inv hL h4 v), fun v => ?_, .inl ?_⟩
  ·have hn := a.inv.cnode v hc
   unfold IsNode at hn
   exact h5 v hn.1 (by omega) hv hc
  ·rw [hcard]
   have := relaxC_bound (L := L) (u := u) (v := v) a.bnd hL.le
   omega
  ·rw [hcard]
   rcases a.at' with h6 | ⟨h6, _⟩
   ·omega
   ·omega
theorem ways_lit (W : World) (lo : Nat) (hb : lo ≤ W.heap.size) : WaysOwn (W.alloc (.cells #[] 77)) lo (W.alloc (.cells #[] 77)).heap.size (.slice (some ⟨W.heap.size, 0, none⟩) 0 0) [] where
 row := World.ownsRow_lit W #[] 0 hb (by unfold maxLen; omega) (by simp)
 top := by intro k hk; simp [Value.ownBlock] at hk; subst hk; simp
 nears := by simp
 apart := by simp
end Go.Proofs.YtmijnjnihhemgaaGreat
namespace Go.Proofs.YtmijnjnihhemgaaGreat
open Go.RowKit

open Classical in
noncomputable def waysD (xs : List RecD) (area src : Int) : List WayD := if h : ∃ ds, IsWays xs area src ds then Classical.choose h else []

theorem IsWays.eq {xs : List RecD} {area src : Int} {ds : List WayD} (h : IsWays xs area src ds) : ds = waysD xs area src := by
 unfold waysD
 rw [dif_pos ⟨ds, h⟩]
 exact h.unique (Classical.choose_spec (⟨ds, h⟩ : ∃ ds, IsWays xs area src ds))

def moreW (tog : WayD → WayD → WayD) (best : Option WayD) (w : Option WayD) : Option WayD := match w with
 | none => best
 | some w => match best with
  | none => some w
  | some b => some (tog b w)

def findW (ds : List WayD) (to : Int) : Option WayD := ds.find? (fun x => x.to == to)

end Go.Proofs.YtmijnjnihhemgaaGreat
namespace Go.Proofs.YtmijnjnihhemgaaGreat
open Go.RowKit
set_option linter.unusedSimpArgs false
set_option linter.unusedVariables false
set_option maxRecDepth 100000
set_option maxHeartbeats 8000000
def betterB (x y : WayD) : Bool := decide (x.cost < y.cost)
theorem sbetter_any (u1 u2 : Value) (x y : WayD) (w : World) : Calls Tryz.prog 229 #[.agg (wayC x u1), .agg (wayC y u2)] w fun e w' => e = .returned (.bool (betterB x y)) ∧ Below w.heap.size w w' := by
 unfold wayC betterB
 go_enter Tryz.func229, Tryz.ntmps229
 go_wp2
 go_ret
 exact ⟨rfl, below_two _ _⟩
def togD (x y : WayD) : WayD := if betterB x y then x else if betterB y x then y else ⟨x.to, x.cost, addL x.hops y.hops⟩
theorem addL_len (a b : List Int) : (addL a b).length ≤ 6 := addT_len a b 6
theorem tog_len {x y : WayD} {n : Nat} (hx : x.hops.length ≤ n) (hy : y.hops.length ≤ n) (h6 : 6 ≤ n) : (togD x y).hops.length ≤ n := by
 unfold togD
 split
 ·exact hx
 ·split
  ·exact hy
  ·exact Nat.le_trans (addL_len _ _) h6
theorem cellW3 {W : World} {g b j : Nat} {x0 x1 x2 : Value} (h : b ≠ g) : (((W.setCell ⟨g, 0, none⟩ x0).setCell ⟨g, 1, none⟩ x1).setCell ⟨g, 2, none⟩ x2).cell? ⟨b, j, none⟩ = W.cell? ⟨b, j, none⟩ := by
 refine World.cell?_of_block ?_
 show (((W.setCell ⟨g, 0, none⟩ x0).setCell ⟨g, 1, none⟩ x1).setCell ⟨g, 2, none⟩ x2).heap[b]? = W.heap[b]?
 rw [heap_setCell_other _ ⟨g, 2, none⟩ b _ h, heap_setCell_other _ ⟨g, 1, none⟩ b _ h, heap_setCell_other _ ⟨g, 0, none⟩ b _ h]
theorem stog_any (x y : WayD) (u1 u2 : Value) (b1 b2 : Nat) (w : World) (h1 : w.ownsRow b1 3 1 u1 x.hops.length (flat intE x.hops)) (h2 : w.ownsRow b2 3 1 u2 y.hops.length (flat intE y.hops)) (hx : x.hops.length ≤ 1048576) (hy : y.hops.length ≤ 1048576) :
  Calls Tryz.prog 184 #[.agg (wayC x u1), .agg (wayC y u2)] w fun e w' => ∃ v', e = .returned (.agg (wayC (togD x y) v')) ∧ w'.ownsRow w.heap.size 3 1 v' (togD x y).hops.length (flat intE (togD x y).hops) ∧ Below w.heap.size w w' := by
 obtain ⟨a1, c1, rfl⟩ := owns_lenS h1
 obtain ⟨a2, c2, rfl⟩ := owns_lenS h2
 have HC1 := hide (fun W (hb : Below w.heap.size w W) => copyW_any x (.slice a1 x.hops.length c1) b1 W (owns_below h1 hb (Nat.le_refl _)) hx)
 have HC2 := hide (fun W (hb : Below w.heap.size w W) => copyW_any y (.slice a2 y.hops.length c2) b2 W (owns_below h2 hb (Nat.le_refl _)) hy)
 have HB1 := hide (fun W => sbetter_any (.slice a1 x.hops.length c1) (.slice a2 y.hops.length c2) x y W)
 have HB2 := hide (fun W => sbetter_any (.slice a2 y.hops.length c2) (.slice a1 x.hops.length c1) y x W)
 have HAD := hide (fun W (hb : Below w.heap.size w W) => sadd_any (.slice a1 x.hops.length c1) (.slice a2 y.hops.length c2) x.hops y.hops W hx hy ((RowAt.later (owns_rowAt h1) hb (Nat.le_refl _)).more hb.size) ((RowAt.later (owns_rowAt h2) hb (Nat.le_refl _)).more hb.size))
 obtain ⟨P, hP⟩ : ∃ P, P = betterB x y := ⟨_, rfl⟩
 obtain ⟨Q, hQ⟩ : ∃ Q, Q = betterB y x := ⟨_, rfl⟩
 obtain ⟨D, hD⟩ : ∃ D, D = togD x y := ⟨_, rfl⟩
 rw [← hP] at HB1
 rw [← hQ] at HB2
 rw [← hD]
 have HD := hide hD
 unfold togD at HD
 rw [← hP, ← hQ] at HD
 have BW := below_three (w := w) (.cells #[.int .i64 x.to, .int .i64 x.cost, .slice a1 x.hops.length c1] 77) (.cells #[.int .i64 y.to, .int .i64 y.cost, .slice a2 y.hops.length c2] 77) (.cells #[.int .i64 0, .int .i64 0, .slice none 0 0] 77)
 have q0 := heap3_0 w (.cells #[.int .i64 x.to, .int .i64 x.cost, .slice a1 x.hops.length c1] 77) (.cells #[.int .i64 y.to, .int .i64 y.cost, .slice a2 y.hops.length c2] 77) (.cells #[.int .i64 0, .int .i64 0, .slice none 0 0] 77)
 have q1 := heap3_1 w (.cells #[.int .i64 x.to, .int .i64 x.cost, .slice a1 x.hops.length c1] 77) (.cells #[.int .i64 y.to, .int .i64 y.cost, .slice a2 y.hops.length c2] 77) (.cells #[.int .i64 0, .int .i64 0, .slice none 0 0] 77)
 have q2 := heap3_2 w (.cells #[.int .i64 x.to, .int .i64 x.cost, .slice a1 x.hops.length c1] 77) (.cells #[.int .i64 y.to, .int .i64 y.cost, .slice a2 y.hops.length c2] 77) (.cells #[.int .i64 0, .int .i64 0, .slice none 0 0] 77)
 obtain ⟨w0, hw0⟩ : ∃ W, W = ((w.alloc (.cells #[.int .i64 x.to, .int .i64 x.cost, .slice a1 x.hops.length c1] 77)).alloc (.cells #[.int .i64 y.to, .int .i64 y.cost, .slice a2 y.hops.length c2] 77)).alloc (.cells #[.int .i64 0, .int .i64 0, .slice none 0 0] 77) := ⟨_, rfl⟩
 rw [← hw0] at BW q0 q1 q2
 clear h1 h2 hP hQ hD
 unfold wayC at *
 have fin : ∀ (X : WayD) (na : Option Addr) (nc lo : Nat) (W : World), W.heap[w.heap.size + 1 + 1]? = some (.cells #[.int .i64 0, .int .i64 0, .slice none 0 0] 77) → W.ownsRow lo 3 1 (.slice na X.hops.length nc) X.hops.length (flat intE X.hops) → w.heap.size + 1 + 1 < lo → Below w.heap.size w W → (putW3 W (w.heap.size + 1 + 1) X (.slice na X.hops.length nc)).heap[w.heap.size + 1 + 1]? = some (.cells (wayC X (.slice na X.hops.length nc)) 77) ∧ (putW3 W (w.heap.size + 1 + 1) X (.slice na X.hops.length nc)).ownsRow w.heap.size 3 1 (.slice na X.hops.length nc) X.hops.length (flat intE X.hops) ∧ Below w.heap.size w (putW3 W (w.heap.size + 1 + 1) X (.slice na X.hops.length nc)) := by
  intro X na nc lo W hz ho hlo hb
  have G := grownW3 W (w.heap.size + 1 + 1) X (.slice na X.hops.length nc)
  refine ⟨finW3 X _ hz, owns_baseS (owns_keepB ho (fun k hk => G.block k (ho.lt k hk).2 (fun e => by have := (ho.lt k hk).1; simp at e; omega))) (by omega), hb.grown G hb.size (fun k hk => by simp at hk; omega)⟩
 have FIN := hide fin
 clear fin
 have r0 := cells_at q0 0
 have r1 := cells_at q0 1
 have r2 := cells_at q0 2
 have s0 := cells_at q1 0
 have s1 := cells_at q1 1
 have s2 := cells_at q1 2
 simp at r0 r1 r2 s0 s1 s2
 have z0 := lt_of_heap q0
 have z1 := lt_of_heap q1
 have z2 := lt_of_heap q2
 go_enter Tryz.func184, Tryz.ntmps184
 go_wp2_with fail
 rw [← hw0]
 clear hw0
 refine (HB1.out _).mono ?_
 rintro e w1 ⟨rfl, e1⟩
 have e1s := e1.size
 have B1 : Below w.heap.size w w1 := BW.trans (e1.mono BW.size)
 have p0 := (e1.block _ z0).trans q0
 have p1 := (e1.block _ z1).trans q1
 have p2 := (e1.block _ z2).trans q2
 clear r0 r1 r2 s0 s1 s2 q0 q1 q2 e1
 have r0 := cells_at p0 0
 have r1 := cells_at p0 1
 have r2 := cells_at p0 2
 have s0 := cells_at p1 0
 have s1 := cells_at p1 1
 have s2 := cells_at p1 2
 simp at r0 r1 r2 s0 s1 s2
 cases P
 ·go_wp2_with fail
  refine (HB2.out _).mono ?_
  rintro e w2 ⟨rfl, e2⟩
  have e2s := e2.size
  have B2 : Below w.heap.size w w2 := B1.trans (e2.mono B1.size)
  have k0 := (e2.block _ (lt_of_heap p0)).trans p0
  have k1 := (e2.block _ (lt_of_heap p1)).trans p1
  have k2 := (e2.block _ (lt_of_heap p2)).trans p2
  clear r0 r1 r2 s0 s1 s2 p0 p1 p2 e2
  have r0 := cells_at k0 0
  have r1 := cells_at k0 1
  have r2 := cells_at k0 2
  have s0 := cells_at k1 0
  have s1 := cells_at k1 1
  have s2 := cells_at k1 2
  simp at r0 r1 r2 s0 s1 s2
  cases Q
  ·have hDe : D = ⟨x.to, x.cost, addL x.hops y.hops⟩ := HD.out
   have zz0 : w.heap.size < w2.heap.size := by omega
   have zz1 : w.heap.size + 1 < w2.heap.size := by omega
   have B2D : Below w.heap.size w w2.drew := B2.drew
   have HAL := hide (addL_len x.hops y.hops)
   have K2 := hide k2
   clear k0 k1 k2
   go_wp2
   go_region_held3 (fun W => W.cell? ⟨w.heap.size, 0, none⟩ = some (.int .i64 x.to) ∧ W.cell? ⟨w.heap.size, 1, none⟩ = some (.int .i64 x.cost) ∧ W.cell? ⟨w.heap.size, 2, none⟩ = some (.slice a1 x.hops.length c1) ∧ W.cell? ⟨w.heap.size + 1, 2, none⟩ = some (.slice a2 y.hops.length c2)) (first | (refine ⟨?_, ?_, ?_, ?_⟩ <;> (rw [b3.cell (by assumption)]; assumption)) | (refine ⟨?_, ?_, ?_, ?_⟩ <;> (rw [cellW3 (by omega), b3.cell (by assumption)]; assumption)) | go_keep) (first | (go_at_call 117; refine (HAD.out _ B2D).mono ?_; rintro e w3 ⟨v3, rfl, o3, b3⟩; obtain ⟨na, nc, rfl⟩ := owns_lenS o3; have k3 := (b3.block _ (show w.heap.size + 1 + 1 < w2.drew.heap.size from lt_of_heap K2.out)).trans K2.out; have t0 := cells_at k3 0; have t1 := cells_at k3 1; have t2 := cells_at k3 2; simp at t0 t1 t2; have ft := frozen_at k3))
   have F := FIN.out ⟨x.to, x.cost, addL x.hops y.hops⟩ na nc _ w3 k3 o3 (lt_of_heap K2.out) (B2D.trans (b3.mono B2D.size))
   subst hDe
   clear k3 t0 t1 t2 ft
   have FF := hide F.1
   have O5 := hide F.2.1
   have B5 := hide F.2.2
   clear F
   go_wp2_with fail
   (try simp only [Exit.inBlock, Exit.then])
   refine bodyPost_ret (results_cell_row rfl _ _ (w.heap.size + 1 + 1) 77 (wayC _ _) (0, 0) _ rfl FF.out Tryz.underlying77 rfl (by kernel_rfl)) rfl ?_
   exact ⟨_, rfl, O5.out, B5.out⟩
  ·have hDe : D = y := HD.out
   subst hDe
   go_wp2_with fail
   refine (HC2.out _ B2).mono ?_
   rintro e w3 ⟨v3, rfl, o3, b3⟩
   obtain ⟨na, nc, rfl⟩ := owns_lenS o3
   have k3 := (b3.block _ (lt_of_heap k2)).trans k2
   have t0 := cells_at k3 0
   have t1 := cells_at k3 1
   have t2 := cells_at k3 2
   simp at t0 t1 t2
   have ft := frozen_at k3
   have F := FIN.out D na nc _ w3 k3 o3 (lt_of_heap k2) (B2.trans (b3.mono B2.size))
   clear k0 k1 k2 k3 o3 r0 r1 r2 s0 s1 s2
   have FF := hide F.1
   have O5 := hide F.2.1
   have B5 := hide F.2.2
   clear F
   go_wp2_with fail
   (try simp only [Exit.inBlock, Exit.then])
   refine bodyPost_ret (results_cell_row rfl _ _ (w.heap.size + 1 + 1) 77 (wayC _ _) (0, 0) _ rfl FF.out Tryz.underlying77 rfl (by kernel_rfl)) rfl ?_
   exact ⟨_, rfl, O5.out, B5.out⟩
 ·have hDe : D = x := HD.out
  subst hDe
  go_wp2_with fail
  refine (HC1.out _ B1).mono ?_
  rintro e w3 ⟨v3, rfl, o3, b3⟩
  obtain ⟨na, nc, rfl⟩ := owns_lenS o3
  have k3 := (b3.block _ (lt_of_heap p2)).trans p2
  have t0 := cells_at k3 0
  have t1 := cells_at k3 1
  have t2 := cells_at k3 2
  simp at t0 t1 t2
  have ft := frozen_at k3
  have F := FIN.out D na nc _ w3 k3 o3 (lt_of_heap p2) (B1.trans (b3.mono B1.size))
  clear p0 p1 p2 k3 o3 r0 r1 r2 s0 s1 s2
  have FF := hide F.1
  have O5 := hide F.2.1
  have B5 := hide F.2.2
  clear F
  go_wp2_with fail
  (try simp only [Exit.inBlock, Exit.then])
  refine bodyPost_ret (results_cell_row rfl _ _ (w.heap.size + 1 + 1) 77 (wayC _ _) (0, 0) _ rfl FF.out Tryz.underlying77 rfl (by kernel_rfl)) rfl ?_
  exact ⟨_, rfl, O5.out, B5.out⟩
end Go.Proofs.YtmijnjnihhemgaaGreat
namespace Go.Proofs
open Go.Shelf
end Go.Proofs
namespace Go.Proofs.YtmijnjnihhemgaaGreat
open Go.RowKit
set_option linter.unusedSimpArgs false
set_option linter.unusedVariables false
set_option maxRecDepth 100000
set_option maxHeartbeats 8000000

theorem results_cell_row_tmpW {P : Program} {fn : Func} {p u : Tmp} {ty : TypeId} (h : fn.results = #[.cell p ty, .tmp u]) (tmps : Array Value) (w : World) (g : Nat) (t : TypeId) (cs : Array Value) (fr : Nat × Nat) (d : TypeDesc)
  (hp : tmps.getD p undef = .pointer (some ⟨g, 0, none⟩)) (hg : w.heap[g]? = some (.cells cs t fr))
  (hu : P.underlying ty = some d) (hd : (match d with | .struct _ | .array _ _ => true | _ => false) = true) (hi : (P.info? ty).map (·.size) = some cs.size) :
  (results fn tmps).run P w = .ok (.tuple #[.agg cs, tmps.getD u undef]) w := by
 have hp' : tmps[p]?.getD undef = .pointer (some ⟨g, 0, none⟩) := by simpa using hp
 rw [results_cell_tmp h]
 simp [hp', asAddr, run_loadVar_row w g t ty cs fr d hg hu hd hi]
def wayToD (xs : List WayD) (z : Int) : WayD := (xs.find? (fun x => x.to == z)).getD zeroWD
def wayToB (xs : List WayD) (z : Int) : Bool := (xs.find? (fun x => x.to == z)).isSome
theorem wayTo_hit {ps : List WP} {k : Nat} {p : WP} {z : Int} (h : ps[k]? = some p) (hno : ∀ q ∈ ps.take k, q.1.to ≠ z) (hz : p.1.to = z) : wayToD (fstsW ps) z = p.1 ∧ wayToB (fstsW ps) z = true := by
 have e : (fstsW ps).find? (fun x => x.to == z) = some p.1 := by
  have h1 := fstsW_at h
  obtain ⟨hk, e1⟩ := List.getElem?_eq_some_iff.1 h1
  rw [List.find?_eq_some_iff_append]
  refine ⟨by simpa using hz, (fstsW ps).take k, (fstsW ps).drop (k + 1), ?_, ?_⟩
  ·rw [← e1, ← List.drop_eq_getElem_cons hk, List.take_append_drop]
  ·intro x hx
   have e2 : (fstsW ps).take k = fstsW (ps.take k) := by simp [fstsW]
   rw [e2] at hx
   simp only [fstsW, List.mem_map] at hx
   obtain ⟨q, hq, rfl⟩ := hx
   simpa using hno q hq
 unfold wayToD wayToB
 rw [e]
 exact ⟨rfl, rfl⟩
theorem wayTo_none {ps : List WP} {z : Int} (hno : ∀ q ∈ ps, q.1.to ≠ z) : wayToD (fstsW ps) z = zeroWD ∧ wayToB (fstsW ps) z = false := by
 have e : (fstsW ps).find? (fun x => x.to == z) = none := by
  rw [List.find?_eq_none]
  intro x hx
  simp only [fstsW, List.mem_map] at hx
  obtain ⟨q, hq, rfl⟩ := hx
  simpa using hno q hq
 unfold wayToD wayToB
 rw [e]
 exact ⟨rfl, rfl⟩
theorem take_all {ps : List WP} {k : Nat} {p : WP} {z : Int} (h : ps[k]? = some p) (hno : ∀ q ∈ ps.take k, q.1.to ≠ z) (hz : p.1.to ≠ z) : ∀ q ∈ ps.take (k + 1), q.1.to ≠ z := by
 obtain ⟨hk, e⟩ := List.getElem?_eq_some_iff.1 h
 rw [List.take_succ_eq_append_getElem hk, e]
 intro q hq
 rcases List.mem_append.1 hq with h1 | h1
 ·exact hno q h1
 ·have : q = p := by simpa using h1
  subst this
  exact hz
theorem swayTo_any (v : Value) (ps : List WP) (lo hi : Nat) (z : Int) (w : World) (hv : WaysOwn w lo hi v ps) (hhi : hi ≤ w.heap.size) (hn : totW ps ≤ 1048576) :
  Calls Tryz.prog 40 #[v, .int .i64 z] w fun e w' => ∃ u, e = .returned (.tuple #[.agg (wayC (wayToD (fstsW ps) z) u), .bool (wayToB (fstsW ps) z)]) ∧ w'.ownsRow w.heap.size 3 1 u (wayToD (fstsW ps) z).hops.length (flat intE (wayToD (fstsW ps) z).hops) ∧ Below w.heap.size w w' := by
 have hnl := totW_len ps
 obtain ⟨D, hD⟩ : ∃ D, D = wayToD (fstsW ps) z := ⟨_, rfl⟩
 obtain ⟨F, hF⟩ : ∃ F, F = wayToB (fstsW ps) z := ⟨_, rfl⟩
 rw [← hD, ← hF]
 have HD := hide hD
 have HF := hide hF
 clear hD hF
 obtain ⟨a1, c1, rfl⟩ := owns_lenS hv.row
 have HV := hide hv
 clear hv
 have BX : Below w.heap.size w (w.alloc (.cells #[.int .i64 0, .int .i64 0, .slice none 0 0] 77)) := (Below.refl _ _).alloc (Nat.le_refl _) _
 have hq := heap_alloc_new w (.cells #[.int .i64 0, .int .i64 0, .slice none 0 0] 77)
 obtain ⟨w0, hw0⟩ : ∃ W, W = w.alloc (.cells #[.int .i64 0, .int .i64 0, .slice none 0 0] 77) := ⟨_, rfl⟩
 rw [← hw0] at BX hq
 have hs0 := lt_of_heap hq
 have HQ := hide hq
 clear hq
 unfold wayC
 go_enter Tryz.func40, Tryz.ntmps40
 go_wp2
 rw [← hw0]
 clear hw0
 go_loopw [6] (fun i wr => ∃ k : Nat, k ≤ ps.length ∧ i = .int .i64 k ∧ Hid (∀ q ∈ ps.take k, q.1.to ≠ z) ∧ Below w0.heap.size w0 wr) (fun i _ => ps.length - (intOf i).toNat)
 case atStart => exact ⟨0, by omega, rfl, hide (by simp), Below.refl _ _⟩
 case round =>
  obtain ⟨k, hk, rfl, HNO, hnx⟩ := hrel
  have hsz := hnx.size
  have BWR : Below w.heap.size w wr := BX.trans (hnx.mono (by omega))
  have hz1 := (hnx.block _ hs0).trans HQ.out
  by_cases hlt : k < ps.length
  ·obtain ⟨p, hp⟩ : ∃ p, ps[k]? = some p := ⟨ps[k], List.getElem?_eq_getElem hlt⟩
   obtain ⟨b, off, cp, hve, hbb, c0, c1, c2, _⟩ := HV.out.at.cells k p hp
   cases hve
   have hbw : b < w.heap.size := by omega
   have hno := HV.out.nears p (List.mem_of_getElem? hp)
   obtain ⟨pa, pc, hpn⟩ := owns_lenS hno.1
   have HCP := hide (fun W (hb : Below w.heap.size w W) => copyW_any p.1 p.2 lo W (owns_below hno.1 hb (Nat.le_refl _)) (by have := totW_mem (List.mem_of_getElem? hp); omega))
   unfold wayC at HCP
   rw [hpn] at c2 HCP
   rw [← BWR.cell (p := ⟨b, off + k * 3, none⟩) hbw] at c0
   rw [← BWR.cell (p := ⟨b, off + k * 3 + 1, none⟩) hbw] at c1
   rw [← BWR.cell (p := ⟨b, off + k * 3 + 2, none⟩) hbw] at c2
   have hki : (0 : Int) ≤ (k : Int) := by omega
   have hkj : (k : Int) < (ps.length : Int) := by omega
   by_cases hzz : p.1.to = z
   ·have hh := wayTo_hit hp HNO.out hzz
    have hDe : D = p.1 := HD.out.trans hh.1
    have hFe : F = true := HF.out.trans hh.2
    subst hDe hFe
    subst hzz
    clear hp hno hpn hh
    go_wp2_with fail
    refine (HCP.out _ BWR).mono ?_
    rintro e w2 ⟨v1, rfl, hn2, b2⟩
    obtain ⟨na, nc, rfl⟩ := owns_lenS hn2
    have b2s := b2.size
    have hz2 := (b2.block _ (lt_of_heap hz1)).trans hz1
    have u0 := cells_at hz2 0
    have u1 := cells_at hz2 1
    have u2 := cells_at hz2 2
    simp at u0 u1 u2
    have fu := frozen_at hz2
    have FF := hide (finW3 p.1 (.slice na p.1.hops.length nc) hz2)
    have G8 := grownW3 w2 w.heap.size p.1 (.slice na p.1.hops.length nc)
    have O3 := hide (owns_baseS (b0 := w.heap.size) (hn2.kept G8 (by
     cases hv : (Value.slice na p.1.hops.length nc).ownBlock with
     | none => exact .inl rfl
     | some g => exact .inr (fun e => by have := (hn2.lt g hv).1; simp at e; omega))) (by omega))
    have B2 : Below w.heap.size w w2 := BWR.trans (b2.mono (by omega))
    have BF := hide (B2.grown G8 B2.size (fun k hk => by simp at hk; omega))
    clear hz2 hn2 b2 G8 hz1
    go_wp2_with fail
    (try simp only [Exit.inBlock, Exit.then])
    refine bodyPost_ret (results_cell_row_tmpW rfl _ _ w.heap.size 77 (wayC p.1 (.slice na p.1.hops.length nc)) (0, 0) _ rfl FF.out Tryz.underlying77 rfl (by kernel_rfl)) rfl ?_
    exact ⟨_, rfl, O3.out, BF.out⟩
   ·have HN := hide (take_all hp HNO.out hzz)
    have hd : (p.1.to == z) = false := by simpa using hzz
    clear hp hno hpn hz1
    go_wp2
    go_roundw
    case rel => exact ⟨k + 1, by omega, by go_num, HN, hnx⟩
    case measure => simp [intOf]; omega
  ·have hh := wayTo_none (ps := ps) (z := z) (by have h := HNO.out; rw [List.take_of_length_le (by omega)] at h; exact h)
   have hDe : D = zeroWD := HD.out.trans hh.1
   have hFe : F = false := HF.out.trans hh.2
   subst hDe hFe
   have u0 := cells_at hz1 0
   have u1 := cells_at hz1 1
   have u2 := cells_at hz1 2
   simp at u0 u1 u2
   have fu := frozen_at hz1
   have FF := hide (finW3 zeroWD (.slice none 0 0) hz1)
   have G8 := hide (grownW3 wr w.heap.size zeroWD (.slice none 0 0))
   clear hz1 hh
   go_wp2_with fail
   (try simp only [Exit.inBlock, Exit.then])
   refine bodyPost_ret (results_cell_row_tmpW rfl _ _ w.heap.size 77 (wayC zeroWD (.slice none 0 0)) (0, 0) _ rfl FF.out Tryz.underlying77 rfl (by kernel_rfl)) rfl ?_
   exact ⟨.slice none 0 0, rfl, World.ownsRow_nil _ _ _ _, BWR.grown G8.out BWR.size (fun k hk => by simp at hk; omega)⟩


def Hop6 (l : List Int) : Prop := ∀ z ∈ l, 1 ≤ z ∧ z ≤ 6
structure GoodW (x : WayD) : Prop where
 node : 1 ≤ x.to ∧ x.to ≤ 6
 cost : 0 ≤ x.cost ∧ x.cost ≤ 60000
 asc : x.hops.Pairwise (· < ·)
 hop6 : Hop6 x.hops
theorem asc_len_from : ∀ {l : List Int} {a : Int}, l.Pairwise (· < ·) → (∀ z ∈ l, a ≤ z ∧ z ≤ 6) → (l.length : Int) ≤ 7 - a ∨ l = []
 | [], _, _, _ => .inr rfl
 | x :: xs, a, h, hr => by
  have h' := List.pairwise_cons.1 h
  have hx := hr x (by simp)
  rcases asc_len_from (a := x + 1) h'.2 (fun z hz => ⟨by have := h'.1 z hz; omega, (hr z (by simp [hz])).2⟩) with h1 | h1
  ·left; simp; omega
  ·left; subst h1; simp; omega
theorem asc6_len {l : List Int} (h : l.Pairwise (· < ·)) (h6 : Hop6 l) : l.length ≤ 6 := by
 rcases asc_len_from (a := 1) h h6 with h1 | h1
 ·omega
 ·subst h1; simp
theorem GoodW.len {x : WayD} (h : GoodW x) : x.hops.length ≤ 6 := asc6_len h.asc h.hop6
def AscW (ds : List WayD) : Prop := ds.Pairwise (fun x y => x.to < y.to)
theorem ascW_ext : ∀ {a b : List WayD}, AscW a → AscW b → (∀ x, x ∈ a ↔ x ∈ b) → a = b
 | [], [], _, _, _ => rfl
 | [], y :: ys, _, _, h => by have := (h y).2 (by simp); cases this
 | x :: xs, [], _, _, h => by have := (h x).1 (by simp); cases this
 | x :: xs, y :: ys, ha, hb, h => by
  have ha' := List.pairwise_cons.1 ha
  have hb' := List.pairwise_cons.1 hb
  have hxy : x = y := by
   have h1 := (h x).1 (by simp)
   have h2 := (h y).2 (by simp)
   rcases List.mem_cons.1 h1 with e | e
   ·exact e
   ·rcases List.mem_cons.1 h2 with e2 | e2
    ·exact e2.symm
    ·have := ha'.1 y e2; have := hb'.1 x e; omega
  subst hxy
  have : xs = ys := by
   refine ascW_ext ha'.2 hb'.2 (fun z => ?_)
   have hz := h z
   constructor
   ·intro hm
    have h1 := hz.1 (List.mem_cons_of_mem _ hm)
    rcases List.mem_cons.1 h1 with e | e
    ·have := ha'.1 z hm; subst e; omega
    ·exact e
   ·intro hm
    have h1 := hz.2 (List.mem_cons_of_mem _ hm)
    rcases List.mem_cons.1 h1 with e | e
    ·have := hb'.1 z hm; subst e; omega
    ·exact e
  rw [this]
theorem findW_some {ds : List WayD} {to : Int} {w : WayD} (h : findW ds to = some w) : w ∈ ds ∧ w.to = to := by
 unfold findW at h
 exact ⟨List.mem_of_find?_eq_some h, by have := List.find?_some h; simpa using this⟩
theorem findW_none {ds : List WayD} {to : Int} (h : findW ds to = none) : ∀ w ∈ ds, w.to ≠ to := by
 unfold findW at h
 rw [List.find?_eq_none] at h
 intro w hw
 simpa using h w hw
theorem ascW_same {ds : List WayD} (h : AscW ds) {x y : WayD} (hx : x ∈ ds) (hy : y ∈ ds) (e : x.to = y.to) : x = y := by
 induction ds with
 | nil => cases hx
 | cons a ds ih =>
  have h' := List.pairwise_cons.1 h
  rcases List.mem_cons.1 hx with e1 | e1
  ·rcases List.mem_cons.1 hy with e2 | e2
   ·rw [e1, e2]
   ·have := h'.1 y e2; subst e1; omega
  ·rcases List.mem_cons.1 hy with e2 | e2
   ·have := h'.1 x e1; subst e2; omega
   ·exact ih h'.2 e1 e2
theorem findW_of {ds : List WayD} (h : AscW ds) {w : WayD} (hw : w ∈ ds) : findW ds w.to = some w := by
 cases e : findW ds w.to with
 | none => exact absurd rfl (findW_none e w hw)
 | some x =>
  have h1 := findW_some e
  rw [ascW_same h h1.1 hw h1.2]
theorem ascW_find {a b : List WayD} (ha : AscW a) (hb : AscW b) (h : ∀ to, findW a to = findW b to) : a = b := by
 refine ascW_ext ha hb (fun x => ⟨fun hx => ?_, fun hx => ?_⟩)
 ·have := findW_of ha hx
  rw [h] at this
  exact (findW_some this).1
 ·have := findW_of hb hx
  rw [← h] at this
  exact (findW_some this).1
def BestOf (to : Int) (S : WayD → Prop) : Option WayD → Prop
 | none => ∀ w, ¬ S w
 | some b => b.to = to ∧ (∃ w, S w ∧ w.cost = b.cost) ∧ (∀ w, S w → b.cost ≤ w.cost) ∧ b.hops.Pairwise (· < ·) ∧ ∀ x, x ∈ b.hops ↔ ∃ w, S w ∧ w.cost = b.cost ∧ x ∈ w.hops
theorem BestOf.unique {to : Int} {S : WayD → Prop} {o o' : Option WayD} (h : BestOf to S o) (h' : BestOf to S o') : o = o' := by
 cases o with
 | none =>
  cases o' with
  | none => rfl
  | some b =>
   obtain ⟨_, ⟨w, hw, _⟩, _⟩ := h'
   exact absurd hw (h w)
 | some a =>
  cases o' with
  | none =>
   obtain ⟨_, ⟨w, hw, _⟩, _⟩ := h
   exact absurd hw (h' w)
  | some b =>
   obtain ⟨h1, ⟨w, hw, e1⟩, h3, h4, h5⟩ := h
   obtain ⟨k1, ⟨v, hv, e2⟩, k3, k4, k5⟩ := h'
   have hc : a.cost = b.cost := by
    have := h3 v hv
    have := k3 w hw
    omega
   have hh : a.hops = b.hops := asc_ext h4 k4 (fun x => by rw [h5, k5, hc])
   cases a; cases b
   simp at *
   exact ⟨by rw [h1, k1], hc, hh⟩
theorem BestOf.congr {to : Int} {S T : WayD → Prop} {o : Option WayD} (h : BestOf to S o) (e : ∀ w, S w ↔ T w) : BestOf to T o := by
 have : S = T := funext fun w => propext (e w)
 rw [← this]
 exact h
def TogOk (tog : WayD → WayD → WayD) : Prop := ∀ x y : WayD, Hop6 x.hops → Hop6 y.hops → (x.cost < y.cost → tog x y = x) ∧ (y.cost < x.cost → tog x y = y) ∧
 (x.cost = y.cost → (tog x y).to = x.to ∧ (tog x y).cost = x.cost ∧ (tog x y).hops.Pairwise (· < ·) ∧ ∀ z, z ∈ (tog x y).hops ↔ z ∈ x.hops ∨ z ∈ y.hops)
theorem togOk_D : TogOk togD := by
 intro x y hx hy
 unfold togD betterB
 refine ⟨fun h => by simp [h], fun h => ?_, fun h => ?_⟩
 ·rw [if_neg (by simp; omega), if_pos (by simpa using h)]
 ·rw [if_neg (by simp; omega), if_neg (by simp; omega)]
  refine ⟨rfl, rfl, addL_asc _ _, fun z => ?_⟩
  show z ∈ addL x.hops y.hops ↔ _
  rw [addL_mem]
  constructor
  ·exact fun h => h.2.2
  ·rintro (h1 | h1)
   ·exact ⟨(hx z h1).1, (hx z h1).2, .inl h1⟩
   ·exact ⟨(hy z h1).1, (hy z h1).2, .inr h1⟩
theorem BestOf.hop6 {to : Int} {S : WayD → Prop} {b : WayD} (h : BestOf to S (some b)) (hS : ∀ w, S w → Hop6 w.hops) : Hop6 b.hops := by
 intro z hz
 obtain ⟨w, hw, _, hm⟩ := (h.2.2.2.2 z).1 hz
 exact hS w hw z hm
theorem BestOf.add {tog : WayD → WayD → WayD} (ht : TogOk tog) {to : Int} {S : WayD → Prop} {o : Option WayD} {w : WayD} (h : BestOf to S o) (hS : ∀ w, S w → Hop6 w.hops) (hto : w.to = to) (hasc : w.hops.Pairwise (· < ·)) (h6 : Hop6 w.hops) : BestOf to (fun x => S x ∨ x = w) (moreW tog o (some w)) := by
 cases o with
 | none =>
  refine ⟨hto, ⟨w, .inr rfl, rfl⟩, fun x hx => ?_, hasc, fun x => ⟨fun hx => ⟨w, .inr rfl, rfl, hx⟩, ?_⟩⟩
  ·rcases hx with h1 | rfl
   ·exact absurd h1 (h x)
   ·exact Int.le_refl _
  ·rintro ⟨v, h1 | rfl, _, hm⟩
   ·exact absurd h1 (h v)
   ·exact hm
 | some b =>
  have hb6 := h.hop6 hS
  obtain ⟨h1, ⟨u, hu, e1⟩, h3, h4, h5⟩ := h
  obtain ⟨t1, t2, t3⟩ := ht b w hb6 h6
  show BestOf to _ (some (tog b w))
  rcases Int.lt_trichotomy b.cost w.cost with hl | hl | hl
  ·rw [t1 hl]
   refine ⟨h1, ⟨u, .inl hu, e1⟩, fun x hx => ?_, h4, fun x => ?_⟩
   ·rcases hx with hx | rfl
    ·exact h3 x hx
    ·omega
   ·rw [h5]
    constructor
    ·rintro ⟨v, hv, e, hm⟩
     exact ⟨v, .inl hv, e, hm⟩
    ·rintro ⟨v, hv | rfl, e, hm⟩
     ·exact ⟨v, hv, e, hm⟩
     ·omega
  ·obtain ⟨s1, s2, s3, s4⟩ := t3 hl
   refine ⟨by rw [s1, h1], ⟨w, .inr rfl, by rw [s2, hl]⟩, fun x hx => ?_, s3, fun x => ?_⟩
   ·rw [s2]
    rcases hx with hx | rfl
    ·exact h3 x hx
    ·omega
   ·rw [s4, h5, s2]
    constructor
    ·rintro (⟨v, hv, e, hm⟩ | hm)
     ·exact ⟨v, .inl hv, e, hm⟩
     ·exact ⟨w, .inr rfl, hl.symm, hm⟩
    ·rintro ⟨v, hv | rfl, e, hm⟩
     ·exact .inl ⟨v, hv, e, hm⟩
     ·exact .inr hm
  ·rw [t2 hl]
   refine ⟨hto, ⟨w, .inr rfl, rfl⟩, fun x hx => ?_, hasc, fun x => ⟨fun hx => ⟨w, .inr rfl, rfl, hx⟩, ?_⟩⟩
   ·rcases hx with hx | rfl
    ·have := h3 x hx; omega
    ·exact Int.le_refl _
   ·rintro ⟨v, hv | rfl, e, hm⟩
    ·have := h3 v hv; omega
    ·exact hm
theorem BestOf.good {to : Int} {S : WayD → Prop} {b : WayD} (h : BestOf to S (some b)) (hS : ∀ w, S w → GoodW w ∧ w.to = to) : GoodW b := by
 have h6 := h.hop6 (fun w hw => (hS w hw).1.hop6)
 obtain ⟨h1, ⟨u, hu, e1⟩, h3, h4, h5⟩ := h
 have hg := hS u hu
 exact ⟨by rw [h1, ← hg.2]; exact hg.1.node, by rw [← e1]; exact hg.1.cost, h4, h6⟩
def IsBest (S : Int → WayD → Prop) (ds : List WayD) : Prop := AscW ds ∧ ∀ to, BestOf to (S to) (findW ds to)
theorem IsBest.unique {S : Int → WayD → Prop} {a b : List WayD} (ha : IsBest S a) (hb : IsBest S b) : a = b :=
 ascW_find ha.1 hb.1 (fun to => (ha.2 to).unique (hb.2 to))
theorem IsBest.congr {S T : Int → WayD → Prop} {a : List WayD} (ha : IsBest S a) (e : ∀ to w, S to w ↔ T to w) : IsBest T a :=
 ⟨ha.1, fun to => (ha.2 to).congr (e to)⟩
theorem IsBest.good {S : Int → WayD → Prop} {ds : List WayD} (h : IsBest S ds) (hS : ∀ to w, S to w → GoodW w ∧ w.to = to) : ∀ w ∈ ds, GoodW w := by
 intro w hw
 have h1 := h.2 w.to
 rw [findW_of h.1 hw] at h1
 exact h1.good (hS w.to)
theorem asc_tos {ds : List WayD} (h : AscW ds) (hg : ∀ w ∈ ds, 1 ≤ w.to ∧ w.to ≤ 6) : ds.length ≤ 6 := by
 have h1 : (ds.map (·.to)).Pairwise (· < ·) := by rw [List.pairwise_map]; exact h
 have := asc6_len h1 (fun z hz => by
  obtain ⟨w, hw, rfl⟩ := List.mem_map.1 hz
  exact hg w hw)
 simpa using this
theorem IsBest.put {tog : WayD → WayD → WayD} (ht : TogOk tog) {S : Int → WayD → Prop} {ds es : List WayD} {w : WayD} (h : IsBest S ds) (hS : ∀ to w, S to w → GoodW w ∧ w.to = to) (hw : GoodW w) (he : AscW es) (hf : ∀ to, findW es to = if to = w.to then moreW tog (findW ds to) (some w) else findW ds to) : IsBest (fun to x => S to x ∨ (x = w ∧ w.to = to)) es := by
 refine ⟨he, fun to => ?_⟩
 rw [hf]
 by_cases e : to = w.to
 ·rw [if_pos e]
  refine ((h.2 to).add ht (fun v hv => (hS to v hv).1.hop6) e.symm hw.asc hw.hop6).congr (fun x => ?_)
  constructor
  ·rintro (h1 | h1)
   ·exact .inl h1
   ·exact .inr ⟨h1, e.symm⟩
  ·rintro (h1 | h1)
   ·exact .inl h1
   ·exact .inr h1.1
 ·rw [if_neg e]
  refine (h.2 to).congr (fun x => ⟨.inl, ?_⟩)
  rintro (h1 | h1)
  ·exact h1
  ·exact absurd h1.2.symm e
theorem coll_mem {c : Nat → Int} {h : Nat → List Int} {w : WayD} : ∀ k : Nat, w ∈ collT c h k ↔ ∃ v : Nat, 1 ≤ v ∧ v ≤ k ∧ 0 ≤ c v ∧ w = ⟨(v : Int), c v, h v⟩
 | 0 => by simp [collT]; omega
 | k + 1 => by
  have ih := coll_mem (c := c) (h := h) (w := w) k
  rw [coll_step c h (by omega)]
  simp only [Nat.add_sub_cancel, List.mem_append]
  rw [ih]
  constructor
  ·rintro (⟨v, h1, h2, h3⟩ | h4)
   ·exact ⟨v, h1, by omega, h3⟩
   ·split at h4
    ·rename_i h0
     exact ⟨k + 1, by omega, by omega, h0, by simpa using h4⟩
    ·simp at h4
  ·rintro ⟨v, h1, h2, h3, h4⟩
   by_cases e : v = k + 1
   ·subst e
    right
    rw [if_pos h3, h4]
    simp
   ·exact .inl ⟨v, h1, by omega, h3, h4⟩
theorem coll_asc (c : Nat → Int) (h : Nat → List Int) : ∀ k : Nat, AscW (collT c h k)
 | 0 => by simp [collT, AscW]
 | k + 1 => by
  have ih := coll_asc c h k
  rw [coll_step c h (by omega)]
  simp only [Nat.add_sub_cancel]
  unfold AscW
  rw [List.pairwise_append]
  refine ⟨ih, by split <;> simp, fun a ha b hb => ?_⟩
  obtain ⟨v, h1, h2, _, rfl⟩ := (coll_mem k).1 ha
  split at hb
  ·have hb' : b = ⟨((k + 1 : Nat) : Int), c (k + 1), h (k + 1)⟩ := by simpa using hb
   subst hb'
   show (v : Int) < ((k + 1 : Nat) : Int)
   omega
  ·simp at hb
theorem card_mono {F G : Nat → Bool} (h : ∀ u, F u = true → G u = true) : cardF F ≤ cardF G := by
 have h1 : ∀ u, (F u).toNat ≤ (G u).toNat := fun u => by
  cases e : F u
  ·simp
  ·rw [h u e]; exact Nat.le_refl _
 unfold cardF
 have := h1 1; have := h1 2; have := h1 3; have := h1 4; have := h1 5; have := h1 6
 omega
theorem Fix.bound {L : Nat → Nat → Int} {src : Nat} {c : Nat → Int} {h : Nat → List Int} (A : Fix L src c h) (hL : Links L 1000) : ∀ (n v : Nat), 0 ≤ c v → (c v).toNat ≤ n → c v ≤ 1000 * (cardF (fun x => decide (0 ≤ c x ∧ c x < c v)) : Int) := by
 obtain ⟨F, I, hF⟩ := A
 intro n
 induction n with
 | zero =>
  intro v h0 hn
  have : c v = 0 := by omega
  omega
 | succ n ih =>
  intro v h0 hn
  by_cases hv : v = src
  ·subst hv; rw [I.start]; omega
  ·obtain ⟨u, hu, hl, hc⟩ := I.pred v hv h0
   have h1 := (I.fnode u hu).2
   have h2 := ih u h1 (by omega)
   have hle := hL.le u v
   have hcard : cardF (fun x => decide (0 ≤ c x ∧ c x < c u)) + 1 ≤ cardF (fun x => decide (0 ≤ c x ∧ c x < c v)) := by
    rw [← card_add (F := fun x => decide (0 ≤ c x ∧ c x < c u)) (u := u) (I.fnode u hu).1 (by simp)]
    refine card_mono (fun x hx => ?_)
    simp only [Bool.or_eq_true, decide_eq_true_eq, beq_iff_eq] at hx ⊢
    rcases hx with hx | rfl
    ·omega
    ·omega
   omega
theorem Fix.bound6 {L : Nat → Nat → Int} {src : Nat} {c : Nat → Int} {h : Nat → List Int} (A : Fix L src c h) (hL : Links L 1000) (v : Nat) (h0 : 0 ≤ c v) : c v ≤ 6000 := by
 have h1 := A.bound hL _ v h0 (Nat.le_refl _)
 have h2 := card_le (fun x => decide (0 ≤ c x ∧ c x < c v))
 omega
theorem IsWays.asc {xs : List RecD} {area src : Int} {ds : List WayD} (h : IsWays xs area src ds) : AscW ds ∧ ∀ w ∈ ds, GoodW w ∧ w.cost ≤ 6000 := by
 unfold IsWays at h
 split at h
 ·rename_i e
  have hst : storeB xs = true := by
   simp only [Bool.and_eq_true] at e
   exact e.1.1
  obtain ⟨c, g, A, rfl⟩ := h
  refine ⟨coll_asc c g 6, fun w hw => ?_⟩
  obtain ⟨v, h1, h2, h3, rfl⟩ := (coll_mem 6).1 hw
  have hb := A.bound6 (linkN_links hst) v h3
  obtain ⟨F, I, _⟩ := A
  exact ⟨⟨⟨by show 1 ≤ (v : Int); omega, by show (v : Int) ≤ 6; omega⟩, ⟨h3, by show c v ≤ 60000; omega⟩, I.asc v, fun z hz => I.rng v z hz⟩, hb⟩
 ·subst h
  exact ⟨by simp [AscW], by simp⟩
theorem waysD_asc (xs : List RecD) (area src : Int) : AscW (waysD xs area src) ∧ ∀ w ∈ waysD xs area src, GoodW w ∧ w.cost ≤ 6000 := by
 by_cases h : ∃ ds, IsWays xs area src ds
 ·obtain ⟨ds, hd⟩ := h
  rw [← hd.eq]
  exact hd.asc
 ·unfold waysD
  rw [dif_neg h]
  exact ⟨by simp [AscW], by simp⟩
theorem good_tot {ps : List WP} (hl : ps.length ≤ 6) (hg : ∀ w ∈ fstsW ps, w.hops.length ≤ 6) : totW ps ≤ 42 := by
 have : ∀ qs : List WP, (∀ w ∈ fstsW qs, w.hops.length ≤ 6) → totW qs ≤ 7 * qs.length := by
  intro qs
  induction qs with
  | nil => intro _; simp [totW]
  | cons q qs ih =>
   intro h
   rw [totW_cons, List.length_cons]
   have h1 := h q.1 (by simp [fstsW])
   have h2 := ih (fun w hw => h w (by simp only [fstsW, List.map_cons, List.mem_cons] at hw ⊢; exact .inr hw))
   omega
 have := this ps hg
 omega
def withinS (xs : List RecD) (al : List Int) (src : Int) (to : Int) (w : WayD) : Prop := w.to = to ∧ ∃ a ∈ al, w ∈ waysD xs a src
theorem withinS_good {xs : List RecD} {al : List Int} {src to : Int} {w : WayD} (h : withinS xs al src to w) : GoodW w ∧ w.to = to := by
 obtain ⟨h1, a, _, h2⟩ := h
 exact ⟨((waysD_asc xs a src).2 w h2).1, h1⟩
theorem waysD_area {xs : List RecD} {a src : Int} {w : WayD} (h : w ∈ waysD xs a src) : storeB xs = true ∧ 0 ≤ a ∧ a < 3 := by
 by_cases he : ∃ ds, IsWays xs a src ds
 ·obtain ⟨ds, hd⟩ := he
  rw [← hd.eq] at h
  unfold IsWays at hd
  split at hd
  ·rename_i e
   simp only [Bool.and_eq_true] at e
   obtain ⟨⟨e1, _⟩, e3⟩ := e
   refine ⟨e1, ?_⟩
   unfold nodeB findB at e3
   rcases atZ_cases xs (nodeR a src) with hz | ⟨j, y, hz, hy, hs⟩
   ·rw [hz] at e3; simp at e3
   ·have hm : y ∈ xs := List.mem_of_getElem? hy
    unfold storeB at e1
    simp only [Bool.and_eq_true] at e1
    have hok := allOk_mem e1.1.2 hm
    simp only [sameKeyB, nodeR, Bool.and_eq_true, beq_iff_eq] at hs
    obtain ⟨⟨⟨s1, s2⟩, _⟩, _⟩ := hs
    unfold recOkB at hok
    rw [if_pos s2] at hok
    simp only [Bool.and_eq_true, inB, decide_eq_true_eq] at hok
    omega
  ·rw [hd] at h; cases h
 ·unfold waysD at h
  rw [dif_neg he] at h
  cases h
theorem withinS_step {xs : List RecD} {al : List Int} {src a : Int} {k : Nat} (h : al[k]? = some a) (to : Int) (w : WayD) : withinS xs (al.take (k + 1)) src to w ↔ withinS xs (al.take k) src to w ∨ (w.to = to ∧ w ∈ waysD xs a src) := by
 obtain ⟨hk, e⟩ := List.getElem?_eq_some_iff.1 h
 unfold withinS
 rw [List.take_succ_eq_append_getElem hk, e]
 constructor
 ·rintro ⟨h1, b, h2, h3⟩
  rcases List.mem_append.1 h2 with h4 | h4
  ·exact .inl ⟨h1, b, h4, h3⟩
  ·have : b = a := by simpa using h4
   subst this
   exact .inr ⟨h1, h3⟩
 ·rintro (⟨h1, b, h2, h3⟩ | ⟨h1, h3⟩)
  ·exact ⟨h1, b, List.mem_append.2 (.inl h2), h3⟩
  ·exact ⟨h1, a, List.mem_append.2 (.inr (by simp)), h3⟩
theorem isBest_none {S : Int → WayD → Prop} (h : ∀ to w, ¬ S to w) : IsBest S [] := ⟨by simp [AscW], fun to => h to⟩
theorem IsBest.push {S : Int → WayD → Prop} {ds : List WayD} {t : Int} {b : WayD} (h : IsBest (fun to w => to < t ∧ S to w) ds) (hb : BestOf t (S t) (some b)) : IsBest (fun to w => to < t + 1 ∧ S to w) (ds ++ [b]) := by
 have hlt : ∀ w ∈ ds, w.to < t := by
  intro w hw
  have h1 := h.2 w.to
  rw [findW_of h.1 hw] at h1
  obtain ⟨_, ⟨u, hu, _⟩, _⟩ := h1
  exact hu.1
 have hbt : b.to = t := hb.1
 have hasc : AscW (ds ++ [b]) := by
  unfold AscW
  rw [List.pairwise_append]
  refine ⟨h.1, by simp, fun x hx y hy => ?_⟩
  have : y = b := by simpa using hy
  subst this
  rw [hbt]
  exact hlt x hx
 refine ⟨hasc, fun to => ?_⟩
 by_cases e : to = t
 ·subst e
  have hf : findW (ds ++ [b]) b.to = some b := findW_of hasc (by simp)
  rw [hbt] at hf
  rw [hf]
  refine hb.congr (fun w => ⟨fun hw => ⟨by omega, hw⟩, fun hw => hw.2⟩)
 ·have hf : findW (ds ++ [b]) to = findW ds to := by
   unfold findW
   rw [List.find?_append]
   cases e2 : ds.find? (fun x => x.to == to) with
   | some w => rfl
   | none =>
    simp only [Option.none_or, List.find?_cons, List.find?_nil]
    have : (b.to == to) = false := by rw [hbt]; simpa using fun h => e h.symm
    rw [this]
  rw [hf]
  refine (h.2 to).congr (fun w => ⟨fun hw => ⟨by omega, hw.2⟩, fun hw => ⟨by have := hw.1; omega, hw.2⟩⟩)
theorem IsBest.skip {S : Int → WayD → Prop} {ds : List WayD} {t : Int} (h : IsBest (fun to w => to < t ∧ S to w) ds) (hb : BestOf t (S t) none) : IsBest (fun to w => to < t + 1 ∧ S to w) ds := by
 refine h.congr (fun to w => ⟨fun hw => ⟨by omega, hw.2⟩, fun hw => ⟨?_, hw.2⟩⟩)
 have h1 := hw.1
 by_cases e : to = t
 ·subst e; exact absurd hw.2 (hb w)
 ·omega
theorem wayTo_find (ds : List WayD) (to : Int) : (wayToB ds to = true ∧ findW ds to = some (wayToD ds to)) ∨ (wayToB ds to = false ∧ findW ds to = none) := by
 unfold wayToB wayToD findW
 cases e : ds.find? (fun x => x.to == to) with
 | none => exact .inr ⟨rfl, rfl⟩
 | some w => exact .inl ⟨rfl, rfl⟩
theorem bestOf_area {tog : WayD → WayD → WayD} (ht : TogOk tog) {xs : List RecD} {al : List Int} {src a t : Int} {k : Nat} {o : Option WayD} (h : al[k]? = some a) (hb : BestOf t (withinS xs (al.take k) src t) o) :
  BestOf t (withinS xs (al.take (k + 1)) src t) (moreW tog o (findW (waysD xs a src) t)) := by
 have hw := waysD_asc xs a src
 cases e : findW (waysD xs a src) t with
 | none =>
  refine BestOf.congr hb (fun w => ?_)
  rw [withinS_step h]
  constructor
  ·exact .inl
  ·rintro (h1 | ⟨h1, h2⟩)
   ·exact h1
   ·exact absurd h1 (findW_none e w h2)
 | some r =>
  have hr := findW_some e
  have hg := (hw.2 r hr.1).1
  refine (hb.add ht (fun w hw => (withinS_good hw).1.hop6) hr.2 hg.asc hg.hop6).congr (fun w => ?_)
  rw [withinS_step h]
  constructor
  ·rintro (h1 | h1)
   ·exact .inl h1
   ·subst h1; exact .inr ⟨hr.2, hr.1⟩
  ·rintro (h1 | ⟨h1, h2⟩)
   ·exact .inl h1
   ·exact .inr (ascW_same hw.1 h2 hr.1 (by rw [h1, hr.2]))
def Off (x : Value) (lo hi : Nat) : Prop := ∀ b, x.ownBlock = some b → b < lo ∨ hi ≤ b
theorem Off.kept {x : Value} {lo hi : Nat} (h : Off x lo hi) {W W' : World} (hg : W.grownBy W' x.ownBlock) : ∀ k, lo ≤ k → k < hi → k < W.heap.size → W'.heap[k]? = W.heap[k]? :=
 fun k h1 h2 h3 => hg.block k h3 (fun e => by have := h k e.symm; omega)
theorem Off.next {x x' : Value} {lo hi B : Nat} (h : Off x lo hi) (hn : ∀ b, x'.ownBlock = some b → x.ownBlock = some b ∨ B ≤ b) (hB : hi ≤ B) : Off x' lo hi := fun b hb => by
 rcases hn b hb with h1 | h1
 ·exact h b h1
 ·omega
def tellsOf (xs : List RecD) (area src : Int) (r : RecD) (d : WayD) : Prop :=
 r.kind = 2 ∧ r.area = area ∧ r.owner ≠ src ∧ ∃ v, findW (waysD xs area src) r.owner = some v ∧ v.cost + r.cost < 60000 ∧ d = ⟨r.key, v.cost + r.cost, v.hops⟩
def outS (xs rs : List RecD) (area src to : Int) (d : WayD) : Prop := d.to = to ∧ ∃ r ∈ rs, tellsOf xs area src r d
theorem rec_beyond {xs : List RecD} {r : RecD} (hs : storeB xs = true) (hr : r ∈ xs) (hk : r.kind = 2) : (1 ≤ r.key ∧ r.key ≤ 6) ∧ (0 ≤ r.cost ∧ r.cost ≤ 60000) := by
 unfold storeB at hs
 simp only [Bool.and_eq_true] at hs
 have hok := allOk_mem hs.1.2 hr
 unfold recOkB at hok
 rw [if_neg (by omega), if_pos hk] at hok
 simp only [Bool.and_eq_true, inB, decide_eq_true_eq] at hok
 omega
theorem tellsOf_good {xs : List RecD} {area src : Int} {r : RecD} {d : WayD} (hr : r ∈ xs) (h : tellsOf xs area src r d) : GoodW d := by
 obtain ⟨h1, _, _, v, h4, h5, rfl⟩ := h
 have hm := (findW_some h4).1
 have hv := ((waysD_asc xs area src).2 v hm).1
 have hb := rec_beyond (waysD_area hm).1 hr h1
 exact ⟨hb.1, ⟨by show 0 ≤ v.cost + r.cost; have := hv.cost; omega, by show v.cost + r.cost ≤ 60000; omega⟩, hv.asc, hv.hop6⟩
theorem outS_good {xs rs : List RecD} {area src to : Int} {d : WayD} (hs : ∀ r ∈ rs, r ∈ xs) (h : outS xs rs area src to d) : GoodW d ∧ d.to = to := by
 obtain ⟨h1, r, hr, h2⟩ := h
 exact ⟨tellsOf_good (hs r hr) h2, h1⟩
theorem outS_step {xs rs : List RecD} {area src to : Int} {k : Nat} {r : RecD} (h : rs[k]? = some r) (d : WayD) : outS xs (rs.take (k + 1)) area src to d ↔ outS xs (rs.take k) area src to d ∨ (d.to = to ∧ tellsOf xs area src r d) := by
 obtain ⟨hk, e⟩ := List.getElem?_eq_some_iff.1 h
 unfold outS
 rw [List.take_succ_eq_append_getElem hk, e]
 constructor
 ·rintro ⟨h1, x, h2, h3⟩
  rcases List.mem_append.1 h2 with h4 | h4
  ·exact .inl ⟨h1, x, h4, h3⟩
  ·have : x = r := by simpa using h4
   subst this
   exact .inr ⟨h1, h3⟩
 ·rintro (⟨h1, x, h2, h3⟩ | ⟨h1, h3⟩)
  ·exact ⟨h1, x, List.mem_append.2 (.inl h2), h3⟩
  ·exact ⟨h1, r, List.mem_append.2 (.inr (by simp)), h3⟩
def byArea (border : Bool) (a : Int) : Prop := border = true → a = 0
def beyondS (xs : List RecD) (al : List Int) (border : Bool) (src to : Int) (d : WayD) : Prop := (∀ x, ¬ withinS xs al src to x) ∧ ∃ a ∈ al, byArea border a ∧ outS xs xs a src to d
theorem beyondS_good {xs : List RecD} {al : List Int} {border : Bool} {src to : Int} {d : WayD} (h : beyondS xs al border src to d) : GoodW d ∧ d.to = to := by
 obtain ⟨_, a, _, _, h2⟩ := h
 exact outS_good (fun _ h => h) h2
theorem outS_area {xs rs : List RecD} {area src to : Int} {d : WayD} (h : outS xs rs area src to d) : storeB xs = true ∧ 0 ≤ area ∧ area < 3 := by
 obtain ⟨_, r, _, _, _, _, v, h4, _⟩ := h
 exact waysD_area (findW_some h4).1
def someS (xs : List RecD) (al : List Int) (border : Bool) (src to : Int) (d : WayD) : Prop := ∃ a ∈ al, byArea border a ∧ outS xs xs a src to d
theorem someS_good {xs : List RecD} {al : List Int} {border : Bool} {src to : Int} {d : WayD} (h : someS xs al border src to d) : GoodW d ∧ d.to = to := by
 obtain ⟨a, _, _, h2⟩ := h
 exact outS_good (fun _ h => h) h2
theorem someS_step {xs : List RecD} {al : List Int} {border : Bool} {src to a : Int} {k : Nat} (h : al[k]? = some a) (d : WayD) : someS xs (al.take (k + 1)) border src to d ↔ someS xs (al.take k) border src to d ∨ (byArea border a ∧ outS xs xs a src to d) := by
 obtain ⟨hk, e⟩ := List.getElem?_eq_some_iff.1 h
 unfold someS
 rw [List.take_succ_eq_append_getElem hk, e]
 constructor
 ·rintro ⟨b, h2, h3, h4⟩
  rcases List.mem_append.1 h2 with h5 | h5
  ·exact .inl ⟨b, h5, h3, h4⟩
  ·have : b = a := by simpa using h5
   subst this
   exact .inr ⟨h3, h4⟩
 ·rintro (⟨b, h2, h3, h4⟩ | ⟨h3, h4⟩)
  ·exact ⟨b, List.mem_append.2 (.inl h2), h3, h4⟩
  ·exact ⟨a, List.mem_append.2 (.inr (by simp)), h3, h4⟩
theorem bestOf_tell {tog : WayD → WayD → WayD} (ht : TogOk tog) {xs : List RecD} {area src to : Int} {k : Nat} {r : RecD} {o : Option WayD} {S0 : WayD → Prop} (hS0 : ∀ d, S0 d → GoodW d ∧ d.to = to) (h : xs[k]? = some r) (hb : BestOf to (fun d => S0 d ∨ outS xs (xs.take k) area src to d) o) {d : WayD} (hd : tellsOf xs area src r d) (hto : d.to = to) :
  BestOf to (fun d => S0 d ∨ outS xs (xs.take (k + 1)) area src to d) (moreW tog o (some d)) := by
 have hg := tellsOf_good (List.mem_of_getElem? h) hd
 refine (hb.add ht (fun w hw => ?_) hto hg.asc hg.hop6).congr (fun w => ?_)
 ·rcases hw with h1 | h1
  ·exact (hS0 w h1).1.hop6
  ·exact (outS_good (fun r hr => List.mem_of_mem_take hr) h1).1.hop6
 ·rw [outS_step h]
  have huniq : ∀ w, tellsOf xs area src r w → w = d := by
   rintro w ⟨_, _, _, v, h4, _, rfl⟩
   obtain ⟨_, _, _, v', h4', _, rfl⟩ := hd
   rw [h4] at h4'
   cases h4'
   rfl
  constructor
  ·rintro ((h1 | h1) | h1)
   ·exact .inl h1
   ·exact .inr (.inl h1)
   ·subst h1; exact .inr (.inr ⟨hto, hd⟩)
  ·rintro (h1 | h1 | ⟨_, h1⟩)
   ·exact .inl (.inl h1)
   ·exact .inl (.inr h1)
   ·exact .inr (huniq w h1)
theorem bestOf_quiet {xs : List RecD} {area src to : Int} {k : Nat} {r : RecD} {o : Option WayD} {S0 : WayD → Prop} (h : xs[k]? = some r) (hb : BestOf to (fun d => S0 d ∨ outS xs (xs.take k) area src to d) o) (hn : ∀ d, d.to = to → ¬ tellsOf xs area src r d) :
  BestOf to (fun d => S0 d ∨ outS xs (xs.take (k + 1)) area src to d) o := by
 refine hb.congr (fun w => ?_)
 rw [outS_step h]
 constructor
 ·rintro (h1 | h1)
  ·exact .inl h1
  ·exact .inr (.inl h1)
 ·rintro (h1 | h1 | ⟨h1, h2⟩)
  ·exact .inl h1
  ·exact .inr h1
  ·exact absurd h2 (hn w h1)
structure BoxT (W : World) (z lo : Nat) (b : WayD) (bv : Value) : Prop where
 box : W.heap[z]? = some (.cells (wayC b bv) 77)
 own : W.ownsRow lo 3 1 bv b.hops.length (flat intE b.hops)
 len : b.hops.length ≤ 6
theorem BoxT.below {W W' : World} {z lo : Nat} {b : WayD} {bv : Value} (h : BoxT W z lo b bv) (hb : Below W.heap.size W W') : BoxT W' z lo b bv :=
 ⟨(hb.block _ (lt_of_heap h.box)).trans h.box, owns_below h.own hb (Nat.le_refl _), h.len⟩
theorem BoxT.other {W W' : World} {z g lo : Nat} {b : WayD} {bv : Value} {cs : Array Value} {T : TypeId} {fr : Nat × Nat} (h : BoxT W z lo b bv) (hg : W.grownBy W' (some g)) (hgz : z ≠ g) (hbox : W.heap[g]? = some (.cells cs T fr)) (hT : (3 : TypeId) ≠ T) : BoxT W' z lo b bv :=
 ⟨(hg.block z (lt_of_heap h.box) (by simp; omega)).trans h.box, owns_keepB h.own (fun j hj => hg.block j (h.own.lt j hj).2 (fun e => own_type_ne2 h.own hbox hT (by rw [hj]; exact e.symm))), h.len⟩
theorem BoxT.put {W : World} {z lo : Nat} {b : WayD} {bv : Value} (h : BoxT W z lo b bv) {d : WayD} {u : Value} (hu : W.ownsRow lo 3 1 u d.hops.length (flat intE d.hops)) (hl : d.hops.length ≤ 6) : BoxT (putW3 W z d u) z lo d u := by
 have hb := h.box
 unfold wayC at hb
 have hg := grownW3 W z d u
 exact ⟨finW3 d u hb, owns_keepB hu (fun j hj => hg.block j (hu.lt j hj).2 (fun e => own_type_ne2 hu h.box (by decide) (by rw [hj]; exact e.symm))), hl⟩
theorem putW3_other {W : World} {z g : Nat} {d : WayD} {u : Value} {o : Obj} (h : W.heap[g]? = some o) (hne : g ≠ z) : (putW3 W z d u).heap[g]? = some o := ((grownW3 W z d u).block g (lt_of_heap h) (by simp; omega)).trans h
end Go.Proofs.YtmijnjnihhemgaaGreat
