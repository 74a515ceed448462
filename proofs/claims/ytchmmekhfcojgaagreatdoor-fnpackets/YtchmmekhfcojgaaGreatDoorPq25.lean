/-
  spec.l09Packet: some right packet.
-/
import Derived.Test.YtchmmekhfcojgaaGreatDoorPq19
import Derived.Test.YtchmmekhfcojgaaGreatDoorPq24
import Derived.Handy
namespace Go.Proofs.YtchmmekhfcojgaaGreatDoor
open Go.RowKit

set_option linter.unusedSimpArgs false

theorem store_filter {L : List RecD} (h : storeB L = true) (a : Int) : storeB (L.filter (inScope a)) = true := by
  have h3 := store_ok h
  refine (made_self (asc_filter h3.2.2 (inScope a))).store ?_ ?_
  · intro x hx
    exact h3.2.1 x (List.mem_filter.1 hx).1
  · have := List.length_filter_le (inScope a) L
    omega

theorem scope_all (a : Int) (L : List RecD) : allOk (inScope a) (L.filter (inScope a)) = true := by
  unfold allOk
  refine all_true fun j hj => ?_
  unfold okAt
  cases e : (L.filter (inScope a))[j]? with
  | none => rfl
  | some y =>
    simp only []
    exact (List.mem_filter.1 (List.mem_of_getElem? e)).2

/-- the nodes 1 .. k, some of them -/
structure SomeN (h : List Int) (k : Int) : Prop where
  asc : h.Pairwise (· < ·)
  rng : ∀ z ∈ h, 1 ≤ z ∧ z < k
  len : (h.length : Int) < k

theorem SomeN.more {h : List Int} {k : Int} (s : SomeN h k) : SomeN h (k + 1) := ⟨s.asc, fun z hz => by have := s.rng z hz; omega, by have := s.len; omega⟩

theorem SomeN.push {h : List Int} {k : Int} (s : SomeN h k) (hk : 1 ≤ k) : SomeN (h ++ [k]) (k + 1) where
  asc := by
    rw [List.pairwise_append]
    refine ⟨s.asc, by simp, fun x hx y hy => ?_⟩
    have : y = k := by simpa using hy
    have := s.rng x hx
    omega
  rng := fun z hz => by
    rcases List.mem_append.1 hz with h1 | h1
    · have := s.rng z h1; omega
    · have : z = k := by simpa using h1
      omega
  len := by have := s.len; simp; omega

theorem SomeN.ok {h : List Int} (s : SomeN h 6) : nodesB h = true := by
  unfold nodesB
  rw [Bool.and_eq_true]
  constructor
  · unfold allOk
    refine all_true fun j hj => ?_
    unfold okAt
    cases e : h[j]? with
    | none => rfl
    | some y =>
      have := s.rng y (List.mem_of_getElem? e)
      simp [inB]
      omega
  · unfold ascB
    refine all_true fun j hj => ?_
    cases j with
    | zero => rfl
    | succ j =>
      rw [ascAt_eq (List.getElem?_eq_getElem (show j < h.length by omega)) (List.getElem?_eq_getElem hj)]
      have := (List.pairwise_iff_getElem.1 s.asc) j (j + 1) (by omega) hj (by omega)
      unfold cmpN
      rw [if_pos this]
      rfl

/-- a packet's box -/
def pkC (x : PkD) (v1 v2 : Value) : Array Value := #[.int .i64 x.kind, .int .i64 x.src, .int .i64 x.dst, .int .i64 x.area, v1, v2]

abbrev putP6 (W : World) (g : Nat) (x : PkD) (v1 v2 : Value) : World := (((((W.setCell ⟨g, 0, none⟩ (.int .i64 x.kind)).setCell ⟨g, 1, none⟩ (.int .i64 x.src)).setCell ⟨g, 2, none⟩ (.int .i64 x.dst)).setCell ⟨g, 3, none⟩ (.int .i64 x.area)).setCell ⟨g, 4, none⟩ v1).setCell ⟨g, 5, none⟩ v2

theorem finP6 {W : World} {g : Nat} {c0 c1 c2 c3 c4 c5 : Value} (x : PkD) (v1 v2 : Value) (hr : W.heap[g]? = some (.cells #[c0, c1, c2, c3, c4, c5] 27)) : (putP6 W g x v1 v2).heap[g]? = some (.cells (pkC x v1 v2) 27) := by
  have k1 := heap_setCell_same _ _ 0 _ _ (.int .i64 x.kind) hr
  have k2 := heap_setCell_same _ _ 1 _ _ (.int .i64 x.src) k1
  have k3 := heap_setCell_same _ _ 2 _ _ (.int .i64 x.dst) k2
  have k4 := heap_setCell_same _ _ 3 _ _ (.int .i64 x.area) k3
  have k5 := heap_setCell_same _ _ 4 _ _ v1 k4
  have k6 := heap_setCell_same _ _ 5 _ _ v2 k5
  simp only [List.setIfInBounds_toArray, List.set_cons_zero, List.set_cons_succ] at k6
  unfold putP6 pkC
  exact k6

theorem grownP6 (W : World) (g : Nat) (x : PkD) (v1 v2 : Value) : W.grownBy (putP6 W g x v1 v2) (some g) :=
  grown_trans (grown_trans (grown_trans (grown_trans (grown_trans (grown_set W g _ _) (grown_set _ g _ _)) (grown_set _ g _ _)) (grown_set _ g _ _)) (grown_set _ g _ _)) (grown_set _ g _ _)

/-- what is read of a packet, its result's cell laid -/
theorem PkSrc.put {W : World} {z : Nat} {x y : PkD} {v1 v2 u1 u2 : Value} {ps : List RP} {cs : Array Value} (h : PkSrc W W.heap.size v1 v2 x ps) (hz : W.heap[z]? = some (.cells cs 27)) : PkSrc (putP6 W z y u1 u2) (putP6 W z y u1 u2).heap.size v1 v2 x ps := by
  have g := grownP6 W z y u1 u2
  have hs := g.size
  have key : ∀ {base : Nat} {e : TypeId} {sz n : Nat} {v : Value} {xs : List Value}, W.ownsRow base e sz v n xs → e ≠ 27 → (putP6 W z y u1 u2).ownsRow base e sz v n xs := fun hr he => owns_keepB hr (fun k hk => g.block k (hr.lt k hk).2 (fun e9 => by
    rcases hr.2 with ⟨e1, _⟩ | ⟨g2, cap, cur, e1, _, hh, _⟩
    · rw [e1] at hk; cases hk
    · rw [e1] at hk
      simp [Value.ownBlock] at hk
      subst hk
      simp at e9
      subst e9
      rw [hz] at hh
      simp at hh
      exact he hh.2.symm))
  exact ⟨key h.heard (by decide), fun k e => Nat.lt_of_lt_of_le (h.htop k e) hs, ⟨key h.list.row (by decide), fun k e => Nat.lt_of_lt_of_le (h.list.top k e) hs, fun q hq => ⟨key (h.list.nears q hq).1 (by decide), fun k e => Nat.lt_of_lt_of_le ((h.list.nears q hq).2 k e) hs⟩⟩⟩

theorem RecsIn.setBox {W : World} {z j hi : Nat} {u v : Value} {ps : List RP} {cs : Array Value} (h : RecsIn W hi v ps) (hz : W.heap[z]? = some (.cells cs 27)) : RecsIn (W.setCell ⟨z, j, none⟩ u) hi v ps := by
  have g := grown_set W z j u
  have key : ∀ {base : Nat} {e : TypeId} {sz n : Nat} {v : Value} {xs : List Value}, W.ownsRow base e sz v n xs → e ≠ 27 → (W.setCell ⟨z, j, none⟩ u).ownsRow base e sz v n xs := fun hr he => owns_keepB hr (fun k hk => g.block k (hr.lt k hk).2 (fun e9 => by
    rcases hr.2 with ⟨e1, _⟩ | ⟨g2, cap, cur, e1, _, hh, _⟩
    · rw [e1] at hk; cases hk
    · rw [e1] at hk
      simp [Value.ownBlock] at hk
      subst hk
      simp at e9
      subst e9
      rw [hz] at hh
      simp at hh
      exact he hh.2.symm))
  exact ⟨key h.row (by decide), h.top, fun q hq => ⟨key (h.nears q hq).1 (by decide), (h.nears q hq).2⟩⟩

theorem heads_tot (xs : List RecD) : totD (xs.map headD) ≤ totD xs := by
  unfold totD
  induction xs with
  | nil => simp
  | cons x xs ih =>
    simp only [List.map_cons, List.sum_cons, headD_near, List.length_nil]
    omega

theorem recsIn_nil (W : World) (hi : Nat) : RecsIn W hi (.slice none 0 0) [] := ⟨World.ownsRow_nil _ _ _ _, (fun k e => by cases e), (fun p hp => by cases hp)⟩

theorem right_hello {y2 y3 : Int} {h : List Int} (a0 : 0 ≤ y2) (a1 : y2 < 4) (b0 : 0 ≤ y3) (b1 : y3 < 3) (s : SomeN h 6) : pkB ⟨1, 1 + y2, 1 + y2 + 1, y3, h⟩ [] = true := by
  have h1 := s.ok
  simp only [pkB, saidB, h1, inB, Bool.and_eq_true, decide_eq_true_eq, if_true]
  refine ⟨⟨by omega, by omega⟩, ⟨by omega, by omega⟩, by simp; omega, ⟨by omega, by omega⟩, trivial, rfl⟩

theorem right_sum {y2 y3 : Int} {L : List RecD} (a0 : 0 ≤ y2) (a1 : y2 < 4) (b0 : 0 ≤ y3) (b1 : y3 < 3) (hs : storeB L = true) : pkB ⟨2, 1 + y2, 1 + y2 + 1, y3, []⟩ ((L.filter (inScope y3)).map headD) = true := by
  simp only [pkB, saidB, toldB, scope_map, store_scope hs, headsB_map, inB, Bool.and_eq_true, decide_eq_true_eq]
  refine ⟨⟨by omega, by omega⟩, ⟨by omega, by omega⟩, by simp; omega, ⟨by omega, by omega⟩, ?_⟩
  rfl

theorem right_all {y2 y3 : Int} {L : List RecD} (a0 : 0 ≤ y2) (a1 : y2 < 4) (b0 : 0 ≤ y3) (b1 : y3 < 3) (hs : storeB L = true) : pkB ⟨3, 1 + y2, 1 + y2 + 1, y3, []⟩ (L.filter (inScope y3)) = true := by
  simp only [pkB, saidB, toldB, scope_all, store_filter hs, inB, Bool.and_eq_true, decide_eq_true_eq]
  refine ⟨⟨by omega, by omega⟩, ⟨by omega, by omega⟩, by simp; omega, ⟨by omega, by omega⟩, ?_⟩
  rfl

set_option maxRecDepth 100000 in
set_option maxHeartbeats 4000000 in
theorem drawPk_any (p : Nat) (a : Option Addr) (len cap : Nat) (w : World) (hc : Cur w p a len cap) :
    Calls Tryz.prog 14 #[.pointer (some ⟨p, 0, none⟩)] w fun e w' => ∃ x v1 v2 ps, e = .returned (.agg (pkC x v1 v2)) ∧ pkB x (fsts ps) = true ∧ tot ps ≤ 1048576 ∧ PkSrc w' w'.heap.size v1 v2 x ps ∧ Cur w' p a len cap ∧ w.grownBy w' (some p) := by
  have hp := lt_of_cur hc
  have C0 := hide (cur_alloc hc (.cells #[.int .i64 0, .int .i64 0, .int .i64 0, .int .i64 0, .slice none 0 0, .slice none 0 0] 27))
  have G0 := hide (gro_alloc (gro_refl w (some p)) (.cells #[.int .i64 0, .int .i64 0, .int .i64 0, .int .i64 0, .slice none 0 0, .slice none 0 0] 27))
  have Z0 := hide (heap_alloc_new w (.cells #[.int .i64 0, .int .i64 0, .int .i64 0, .int .i64 0, .slice none 0 0, .slice none 0 0] 27))
  clear hc
  go_enter Tryz.func14, Tryz.ntmps14
  go_wp2_with fail
  obtain ⟨W0, hW0⟩ : ∃ W0, W0 = w.alloc (.cells #[.int .i64 0, .int .i64 0, .int .i64 0, .int .i64 0, .slice none 0 0, .slice none 0 0] 27) := ⟨_, rfl⟩
  rw [← hW0] at C0 G0 Z0 ⊢
  clear hW0
  refine (below_any p a len cap 3 _ C0.out (by omega) (by omega)).mono ?_
  rintro e w1 ⟨y1, rfl, hy10, hy11, hc1, hg1⟩
  have C1 := hide hc1
  have G1 := hide (gro_same G0.out hg1)
  have Z1 := hide ((hg1.block _ (lt_of_heap Z0.out) (by simp; omega)).trans Z0.out)
  clear hc1 hg1 C0 G0 Z0
  go_wp2_with fail
  refine (below_any p a len cap 4 _ C1.out (by omega) (by omega)).mono ?_
  rintro e w2 ⟨y2, rfl, hy20, hy21, hc2, hg2⟩
  have C2 := hide hc2
  have G2 := hide (gro_same G1.out hg2)
  have Z2 := hide ((hg2.block _ (lt_of_heap Z1.out) (by simp; omega)).trans Z1.out)
  clear hc2 hg2 C1 G1 Z1
  go_wp2_with fail
  refine (below_any p a len cap 3 _ C2.out (by omega) (by omega)).mono ?_
  rintro e w3 ⟨y3, rfl, hy30, hy31, hc3, hg3⟩
  have C3 := hide hc3
  have G3 := hide (gro_same G2.out hg3)
  have Z3 := hide ((hg3.block _ (lt_of_heap Z2.out) (by simp; omega)).trans Z2.out)
  clear hc3 hg3 C2 G2 Z2
  have hm5 : (1 + y2) % 5 = 1 + y2 := by omega
  have hz3 := lt_of_heap Z3.out
  by_cases hy1 : y1 = 0
  · subst hy1
    go_wp2
    rw [hm5]
    clear hm5
    have C4 := hide (cur_alloc C3.out (.cells #[.int .i64 1, .int .i64 (1 + y2), .int .i64 (1 + y2 + 1), .int .i64 y3, .slice none 0 0, .slice none 0 0] 27))
    have G4 := hide (gro_alloc G3.out (.cells #[.int .i64 1, .int .i64 (1 + y2), .int .i64 (1 + y2 + 1), .int .i64 y3, .slice none 0 0, .slice none 0 0] 27))
    have Z4 := hide ((Below.heap_alloc w3 (.cells #[.int .i64 1, .int .i64 (1 + y2), .int .i64 (1 + y2 + 1), .int .i64 y3, .slice none 0 0, .slice none 0 0] 27) _ hz3).trans Z3.out)
    have X4 := hide (heap_alloc_new w3 (.cells #[.int .i64 1, .int .i64 (1 + y2), .int .i64 (1 + y2 + 1), .int .i64 y3, .slice none 0 0, .slice none 0 0] 27))
    generalize w3.alloc (.cells #[.int .i64 1, .int .i64 (1 + y2), .int .i64 (1 + y2 + 1), .int .i64 y3, .slice none 0 0, .slice none 0 0] 27) = W4 at *
    clear C3 G3 Z3
    go_loopw [4] (fun i wr => ∃ (k : Nat) (h : List Int) (ua : Option Addr) (uc : Nat), 1 ≤ k ∧ k ≤ 6 ∧ i = .int .i64 (k : Int) ∧ Hid (SomeN h (k : Int)) ∧ Hid (wr.heap[w3.heap.size]? = some (.cells #[.int .i64 1, .int .i64 (1 + y2), .int .i64 (1 + y2 + 1), .int .i64 y3, .slice ua h.length uc, .slice none 0 0] 27)) ∧ Hid (wr.heap[w.heap.size]? = some (.cells #[.int .i64 0, .int .i64 0, .int .i64 0, .int .i64 0, .slice none 0 0, .slice none 0 0] 27)) ∧ Hid (wr.ownsRow (w3.heap.size + 1) 3 1 (.slice ua h.length uc) h.length (flat intE h)) ∧ Hid (Cur wr p a len cap) ∧ Hid (w.grownBy wr (some p))) (fun i _ => 7 - (intOf i).toNat)
    case atStart => exact ⟨1, [], none, 0, by omega, by omega, rfl, hide ⟨by simp, by simp, by simp⟩, X4, Z4, hide (World.ownsRow_nil _ _ _ _), C4, G4⟩
    case round =>
      obtain ⟨k, h, ua, uc, hk1, hk6, rfl, HS, HX, HZ, HO, HC, HG⟩ := hrel
      have hxl := lt_of_heap HX.out
      have hhl : h.length ≤ 6 := by have := HS.out.len; omega
      by_cases hlt : k ≤ 5
      · have hlt' : (k : Int) ≤ 5 := by omega
        go_wp2_with fail
        refine (once_any p a len cap 2 _ HC.out (by omega) (by omega)).mono ?_
        rintro e w5 ⟨b, rfl, hc5, hg5⟩
        have HX5 := hide ((hg5.block _ hxl (by simp; omega)).trans HX.out)
        have HZ5 := hide ((hg5.block _ (lt_of_heap HZ.out) (by simp; omega)).trans HZ.out)
        have HO5 := hide (owns_keepB HO.out (fun j e => hg5.block j (HO.out.lt j e).2 (by have := (HO.out.lt j e).1; simp; omega)))
        have HC5 := hide hc5
        have HG5 := hide (gro_same HG.out hg5)
        have hs5 := hg5.size
        clear hc5 hg5 HX HZ HO HC HG
        cases b
        · go_wp2
          go_roundw
          case rel => exact ⟨k + 1, h, ua, uc, by omega, by omega, by go_num, hide (by have := HS.out.more; simpa using this), HX5, HZ5, HO5, HC5, HG5⟩
          case measure => simp [intOf]; omega
        · have x4 := cells_at HX5.out 4
          have f4 := frozen_at HX5.out
          simp at x4
          go_wp2_with (first
            | (at_builtin; refine append_struct5 intE_len (by omega) (by omega) _ rfl _ _ 24 rfl (w3.heap.size + 1) 3 Tryz.underlying24 (.int .i64 0) rfl Tryz.info3 _ h (k : Int) (intE_one _) rfl (HO5.out.alloc _) ⟨w5.heap.size, 0, none⟩ 1 rfl (news_struct (cs := intE (k : Int))) (by omega) (by simp; omega) ?_))
          intro v' w6 hown' hgrow
          have hl6 : (h ++ [(k : Int)]).length = h.length + 1 := by simp
          have own6 : w6.ownsRow (w3.heap.size + 1) 3 1 v' (h.length + 1) (flat intE (h ++ [(k : Int)])) := by simpa using hown'
          clear hown'
          obtain ⟨va, vc, rfl⟩ := owns_lenS own6
          have hne : ∀ j, j ≤ w3.heap.size → some j ≠ (Value.slice ua h.length uc).ownBlock := fun j hj e => by have := (HO5.out.lt j e.symm).1; omega
          have HX6 := ((hgrow.block _ (by simp; omega) (hne _ (Nat.le_refl _))).trans (Below.heap_alloc _ _ _ (by omega))).trans HX5.out
          have HZ6 := ((hgrow.block _ (by simp; omega) (hne _ (by omega))).trans (Below.heap_alloc _ _ _ (by omega))).trans HZ5.out
          have HC6 := (cur_alloc HC5.out (.cells #[.int .i64 (k : Int)] 3)).grown hgrow (fun b hb => hne b (by omega))
          have HG6 := gro_step (gro_alloc HG5.out (.cells #[.int .i64 (k : Int)] 3)) hgrow (fun j e => by have := (HO5.out.lt j e).1; omega)
          have y4 := cells_at HX6 4
          have g4 := frozen_at HX6
          simp at y4
          have hs6 := hgrow.size
          simp at hs6
          have X7 := heap_setCell_same _ _ 4 _ _ (Value.slice va (h.length + 1) vc) HX6
          simp only [List.setIfInBounds_toArray, List.set_cons_zero, List.set_cons_succ] at X7
          have HX7 := hide (show (w6.setCell ⟨w3.heap.size, 4, none⟩ (.slice va (h.length + 1) vc)).heap[w3.heap.size]? = some (.cells #[.int .i64 1, .int .i64 (1 + y2), .int .i64 (1 + y2 + 1), .int .i64 y3, .slice va (h ++ [(k : Int)]).length vc, .slice none 0 0] 27) by rw [hl6]; exact X7)
          have HZ7 := hide ((show (w6.setCell ⟨w3.heap.size, 4, none⟩ (.slice va (h.length + 1) vc)).heap[w.heap.size]? = w6.heap[w.heap.size]? from heap_setCell_other _ _ _ _ (by show w.heap.size ≠ w3.heap.size; omega)).trans HZ6)
          have HO7 := hide (show (w6.setCell ⟨w3.heap.size, 4, none⟩ (.slice va (h.length + 1) vc)).ownsRow (w3.heap.size + 1) 3 1 (.slice va (h ++ [(k : Int)]).length vc) (h ++ [(k : Int)]).length (flat intE (h ++ [(k : Int)])) by rw [hl6]; exact owns_set (j := 4) own6 (by omega))
          have HC7 := hide (HC6.grown (grown_set w6 w3.heap.size 4 (.slice va (h.length + 1) vc)) (fun b hb => by simp; omega))
          have HG7 := hide (gro_step HG6 (grown_set w6 w3.heap.size 4 (.slice va (h.length + 1) vc)) (fun j e => by simp at e; omega))
          have HS7 := hide (show SomeN (h ++ [(k : Int)]) ((k + 1 : Nat) : Int) by have := HS.out.push (by omega); simpa using this)
          clear X7 HX6 HZ6 HC6 HG6 own6 hgrow HX5 HZ5 HO5 HC5 HG5 hl6 hne x4 f4
          go_wp2
          go_roundw
          case rel => exact ⟨k + 1, h ++ [(k : Int)], va, vc, by omega, by omega, by go_num, HS7, HX7, HZ7, HO7, HC7, HG7⟩
          case measure => simp [intOf]; omega
      · have hkn : k = 6 := by omega
        subst hkn
        have q0 := cells_at HX.out 0
        have q1 := cells_at HX.out 1
        have q2 := cells_at HX.out 2
        have q3 := cells_at HX.out 3
        have q4 := cells_at HX.out 4
        have q5 := cells_at HX.out 5
        simp at q0 q1 q2 q3 q4 q5
        have r0 := cells_at HZ.out 0
        have r1 := cells_at HZ.out 1
        have r2 := cells_at HZ.out 2
        have r3 := cells_at HZ.out 3
        have r4 := cells_at HZ.out 4
        have r5 := cells_at HZ.out 5
        have fz := frozen_at HZ.out
        simp at r0 r1 r2 r3 r4 r5
        have F := hide (finP6 ⟨1, 1 + y2, 1 + y2 + 1, y3, h⟩ (.slice ua h.length uc) (.slice none 0 0) HZ.out)
        have P9 := hide (PkSrc.put (y := ⟨1, 1 + y2, 1 + y2 + 1, y3, h⟩) (u1 := .slice ua h.length uc) (u2 := .slice none 0 0) (⟨owns_baseS HO.out (Nat.zero_le _), fun k e => (HO.out.lt k e).2, recsIn_nil _ _⟩ : PkSrc wr wr.heap.size (.slice ua h.length uc) (.slice none 0 0) ⟨1, 1 + y2, 1 + y2 + 1, y3, h⟩ []) HZ.out)
        have C9 := hide (HC.out.grown (grownP6 wr w.heap.size ⟨1, 1 + y2, 1 + y2 + 1, y3, h⟩ (.slice ua h.length uc) (.slice none 0 0)) (fun b hb => by simp; omega))
        have G9 := hide (gro_step HG.out (grownP6 wr w.heap.size ⟨1, 1 + y2, 1 + y2 + 1, y3, h⟩ (.slice ua h.length uc) (.slice none 0 0)) (fun k e => by simp at e; omega))
        have R9 := hide (right_hello hy20 hy21 hy30 hy31 HS.out)
        clear HX HZ HO HC HG HS
        go_wp2
        (try simp only [Exit.inBlock, Exit.then])
        refine bodyPost_ret (results_cell_row rfl _ _ w.heap.size 27 (pkC ⟨1, 1 + y2, 1 + y2 + 1, y3, h⟩ (.slice ua h.length uc) (.slice none 0 0)) (0, 0) _ rfl F.out Tryz.underlying27 rfl (by kernel_rfl)) rfl ?_
        exact ⟨_, _, _, [], rfl, R9.out, by simp [tot], P9.out, C9.out, G9.out⟩
  · have hd : ((1 + y1) == 1) = false := by simp; omega
    have hd2 : (1 + y1 == 1) = false := hd
    have C4 := hide (cur_alloc C3.out (.cells #[.int .i64 (1 + y1), .int .i64 (1 + y2), .int .i64 (1 + y2 + 1), .int .i64 y3, .slice none 0 0, .slice none 0 0] 27))
    have G4 := hide (gro_alloc G3.out (.cells #[.int .i64 (1 + y1), .int .i64 (1 + y2), .int .i64 (1 + y2 + 1), .int .i64 y3, .slice none 0 0, .slice none 0 0] 27))
    have Z4 := hide ((Below.heap_alloc w3 (.cells #[.int .i64 (1 + y1), .int .i64 (1 + y2), .int .i64 (1 + y2 + 1), .int .i64 y3, .slice none 0 0, .slice none 0 0] 27) _ hz3).trans Z3.out)
    have X4 := hide (heap_alloc_new w3 (.cells #[.int .i64 (1 + y1), .int .i64 (1 + y2), .int .i64 (1 + y2 + 1), .int .i64 y3, .slice none 0 0, .slice none 0 0] 27))
    clear C3 G3 Z3
    go_wp2_with fail
    rw [hm5]
    clear hm5
    obtain ⟨W4, hW4⟩ : ∃ W4, W4 = w3.alloc (.cells #[.int .i64 (1 + y1), .int .i64 (1 + y2), .int .i64 (1 + y2 + 1), .int .i64 y3, .slice none 0 0, .slice none 0 0] 27) := ⟨_, rfl⟩
    rw [← hW4] at C4 G4 Z4 X4 ⊢
    clear hW4
    have hx4 := lt_of_heap X4.out
    refine (drawStore_any p a len cap _ C4.out).mono ?_
    rintro e w5 ⟨v5, qs, rfl, r5, st5, ql5, hc5, hg5⟩
    obtain ⟨va5, vc5, rfl⟩ := owns_lenS r5.row
    have htq : tot qs ≤ 1048576 := by rw [tot_D]; have := store_tot st5; omega
    have X5 := hide ((hg5.block _ hx4 (by simp; omega)).trans X4.out)
    have Z5 := hide ((hg5.block _ (lt_of_heap Z4.out) (by simp; omega)).trans Z4.out)
    have C5 := hide hc5
    have G5 := hide (gro_same G4.out hg5)
    have hs5 := hg5.size
    have R5 := hide r5
    have ST5 := hide st5
    have x3 := cells_at X5.out 3
    simp at x3
    clear hc5 hg5 C4 G4 Z4 X4 r5 st5 ql5
    go_wp2_with fail
    refine (sscopeI_any (.slice va5 qs.length vc5) qs w5.heap.size y3 w5 R5.out (Nat.le_refl _) htq).mono ?_
    rintro e w6 ⟨x6, q6, rfl, hf6, ho6, b6⟩
    obtain ⟨va6, vc6, rfl⟩ := owns_lenS ho6.row
    have X6 := (b6.block _ (lt_of_heap X5.out)).trans X5.out
    have Z6 := (b6.block _ (lt_of_heap Z5.out)).trans Z5.out
    have C6 := C5.out.grown (grown_of_below b6) (fun b _ => by simp)
    have G6 := gro_step G5.out (grown_of_below b6) (fun k e => by cases e)
    have R6 := R5.out.below b6 (Nat.le_refl _)
    have hs6 := b6.size
    have y5 := cells_at X6 5
    have g5 := frozen_at X6
    simp at y5
    have k7 := heap_setCell_same _ _ 5 _ _ (Value.slice va6 q6.length vc6) X6
    simp only [List.setIfInBounds_toArray, List.set_cons_zero, List.set_cons_succ] at k7
    have Z7 := (show (w6.setCell ⟨w3.heap.size, 5, none⟩ (.slice va6 q6.length vc6)).heap[w.heap.size]? = w6.heap[w.heap.size]? from heap_setCell_other _ _ _ _ (by show w.heap.size ≠ w3.heap.size; omega)).trans Z6
    have C7 := C6.grown (grown_set w6 w3.heap.size 5 (.slice va6 q6.length vc6)) (fun b hb => by simp; omega)
    have G7 := gro_step G6 (grown_set w6 w3.heap.size 5 (.slice va6 q6.length vc6)) (fun j e => by simp at e; omega)
    have R7 := R6.setBox (j := 5) (u := .slice va6 q6.length vc6) X6
    have O7 := (ho6.in.setBox (j := 5) (u := .slice va6 q6.length vc6) X6)
    have HF6 := hide hf6
    have htf : tot q6 ≤ 1048576 := by rw [tot_D, hf6]; exact Nat.le_trans (totD_filter _ _) (by rw [← tot_D]; exact htq)
    by_cases h2 : y1 = 1
    · subst h2
      have z3 := cells_at k7 3
      have z0 := cells_at k7 0
      simp at z3 z0
      obtain ⟨w7, hw7⟩ : ∃ w7, w7 = w6.setCell ⟨w3.heap.size, 5, none⟩ (.slice va6 q6.length vc6) := ⟨_, rfl⟩
      have hs7 : w7.heap.size = w6.heap.size := by rw [hw7]; simp
      rw [← hw7] at k7 Z7 C7 G7 R7
      have HW7 := hide hw7
      have KX7 := hide k7
      have HZ7 := hide Z7
      have HC7 := hide C7
      have HG7 := hide G7
      have HR7 := hide R7
      clear hw7 k7 Z7 C7 G7 R7 O7 X6 Z6 C6 G6 R6 ho6 b6 x3 hf6 R5 C5 G5 X5 Z5
      go_wp2_with fail
      rw [← HW7.out]
      refine (sheaders_any (.slice va5 qs.length vc5) qs w5.heap.size y3 w7 HR7.out (by omega) htq).mono ?_
      rintro e w8 ⟨x8, q8, rfl, hf8, ho8, b8⟩
      obtain ⟨va8, vc8, rfl⟩ := owns_lenS ho8.row
      have X8 := (b8.block _ (lt_of_heap KX7.out)).trans KX7.out
      have Z8 := (b8.block _ (lt_of_heap HZ7.out)).trans HZ7.out
      have C8 := HC7.out.grown (grown_of_below b8) (fun b _ => by simp)
      have G8 := gro_step HG7.out (grown_of_below b8) (fun k e => by cases e)
      have hs8 := b8.size
      have u5 := cells_at X8 5
      have h5 := frozen_at X8
      simp at u5
      have k9 := heap_setCell_same _ _ 5 _ _ (Value.slice va8 q8.length vc8) X8
      simp only [List.setIfInBounds_toArray, List.set_cons_zero, List.set_cons_succ] at k9
      have HX9 := hide k9
      have HZ9 := hide ((show (w8.setCell ⟨w3.heap.size, 5, none⟩ (.slice va8 q8.length vc8)).heap[w.heap.size]? = w8.heap[w.heap.size]? from heap_setCell_other _ _ _ _ (by show w.heap.size ≠ w3.heap.size; omega)).trans Z8)
      have HC9 := hide (C8.grown (grown_set w8 w3.heap.size 5 (.slice va8 q8.length vc8)) (fun b hb => by simp; omega))
      have HG9 := hide (gro_step G8 (grown_set w8 w3.heap.size 5 (.slice va8 q8.length vc8)) (fun j e => by simp at e; omega))
      have O9 := (ho8.in.setBox (j := 5) (u := .slice va8 q8.length vc8) X8)
      have HR9 := hide (O9.wide (hi' := (w8.setCell ⟨w3.heap.size, 5, none⟩ (.slice va8 q8.length vc8)).heap.size) (by simp))
      have HF8 := hide hf8
      have HTT := hide (show tot q8 ≤ 1048576 by rw [tot_D, hf8]; exact Nat.le_trans (heads_tot _) (Nat.le_trans (totD_filter _ _) (by rw [← tot_D]; exact htq)))
      clear k9 X8 Z8 C8 G8 O9 ho8 b8 hf8 KX7 HZ7 HC7 HG7 HR7 z3 z0
      have F := hide (finP6 ⟨2, 1 + y2, 1 + y2 + 1, y3, []⟩ (.slice none 0 0) (.slice va8 q8.length vc8) HZ9.out)
      have P9 := hide (PkSrc.put (y := ⟨2, 1 + y2, 1 + y2 + 1, y3, []⟩) (u1 := .slice none 0 0) (u2 := .slice va8 q8.length vc8) (⟨World.ownsRow_nil _ _ _ _, (fun k e => by cases e), HR9.out⟩ : PkSrc (w8.setCell ⟨w3.heap.size, 5, none⟩ (.slice va8 q8.length vc8)) (w8.setCell ⟨w3.heap.size, 5, none⟩ (.slice va8 q8.length vc8)).heap.size (.slice none 0 0) (.slice va8 q8.length vc8) ⟨2, 1 + y2, 1 + y2 + 1, y3, []⟩ q8) HZ9.out)
      have C9 := hide (HC9.out.grown (grownP6 (w8.setCell ⟨w3.heap.size, 5, none⟩ (.slice va8 q8.length vc8)) w.heap.size ⟨2, 1 + y2, 1 + y2 + 1, y3, []⟩ (.slice none 0 0) (.slice va8 q8.length vc8)) (fun b hb => by simp; omega))
      have G9 := hide (gro_step HG9.out (grownP6 (w8.setCell ⟨w3.heap.size, 5, none⟩ (.slice va8 q8.length vc8)) w.heap.size ⟨2, 1 + y2, 1 + y2 + 1, y3, []⟩ (.slice none 0 0) (.slice va8 q8.length vc8)) (fun k e => by simp at e; omega))
      have R9 := hide (show pkB ⟨2, 1 + y2, 1 + y2 + 1, y3, []⟩ (fsts q8) = true by rw [HF8.out]; exact right_sum hy20 hy21 hy30 hy31 ST5.out)
      have q0 := cells_at HX9.out 0
      have q1 := cells_at HX9.out 1
      have q2 := cells_at HX9.out 2
      have q3 := cells_at HX9.out 3
      have q4 := cells_at HX9.out 4
      have q5 := cells_at HX9.out 5
      simp at q0 q1 q2 q3 q4 q5
      have r0 := cells_at HZ9.out 0
      have r1 := cells_at HZ9.out 1
      have r2 := cells_at HZ9.out 2
      have r3 := cells_at HZ9.out 3
      have r4 := cells_at HZ9.out 4
      have r5 := cells_at HZ9.out 5
      have fz := frozen_at HZ9.out
      simp at r0 r1 r2 r3 r4 r5
      clear HX9 HZ9 HC9 HG9 HR9
      go_wp2
      (try simp only [Exit.inBlock, Exit.then])
      refine bodyPost_ret (results_cell_row rfl _ _ w.heap.size 27 (pkC ⟨2, 1 + y2, 1 + y2 + 1, y3, []⟩ (.slice none 0 0) (.slice va8 q8.length vc8)) (0, 0) _ rfl F.out Tryz.underlying27 rfl (by kernel_rfl)) rfl ?_
      exact ⟨_, _, _, q8, rfl, R9.out, HTT.out, P9.out, C9.out, G9.out⟩
    · have hd3 : ((1 + y1) == 2) = false := by simp; omega
      have hy12 : 1 + y1 = 3 := by omega
      have HZ9 := hide Z7
      have HX9 := hide k7
      have HC9 := hide C7
      have HG9 := hide G7
      have HR9 := hide (O7.wide (hi' := (w6.setCell ⟨w3.heap.size, 5, none⟩ (.slice va6 q6.length vc6)).heap.size) (by simp))
      have HTT := hide htf
      have z0 := cells_at k7 0
      simp at z0
      have HY := hide hy12
      clear k7 Z7 C7 G7 R7 O7 X6 Z6 C6 G6 R6 ho6 b6 x3 hf6 R5 C5 G5 X5 Z5 hy12
      have F := hide (finP6 ⟨1 + y1, 1 + y2, 1 + y2 + 1, y3, []⟩ (.slice none 0 0) (.slice va6 q6.length vc6) HZ9.out)
      have P9 := hide (PkSrc.put (y := ⟨1 + y1, 1 + y2, 1 + y2 + 1, y3, []⟩) (u1 := .slice none 0 0) (u2 := .slice va6 q6.length vc6) (⟨World.ownsRow_nil _ _ _ _, (fun k e => by cases e), HR9.out⟩ : PkSrc (w6.setCell ⟨w3.heap.size, 5, none⟩ (.slice va6 q6.length vc6)) (w6.setCell ⟨w3.heap.size, 5, none⟩ (.slice va6 q6.length vc6)).heap.size (.slice none 0 0) (.slice va6 q6.length vc6) ⟨1 + y1, 1 + y2, 1 + y2 + 1, y3, []⟩ q6) HZ9.out)
      have C9 := hide (HC9.out.grown (grownP6 (w6.setCell ⟨w3.heap.size, 5, none⟩ (.slice va6 q6.length vc6)) w.heap.size ⟨1 + y1, 1 + y2, 1 + y2 + 1, y3, []⟩ (.slice none 0 0) (.slice va6 q6.length vc6)) (fun b hb => by simp; omega))
      have G9 := hide (gro_step HG9.out (grownP6 (w6.setCell ⟨w3.heap.size, 5, none⟩ (.slice va6 q6.length vc6)) w.heap.size ⟨1 + y1, 1 + y2, 1 + y2 + 1, y3, []⟩ (.slice none 0 0) (.slice va6 q6.length vc6)) (fun k e => by simp at e; omega))
      have R9 := hide (show pkB ⟨1 + y1, 1 + y2, 1 + y2 + 1, y3, []⟩ (fsts q6) = true by rw [HY.out, HF6.out]; exact right_all hy20 hy21 hy30 hy31 ST5.out)
      have q0 := cells_at HX9.out 0
      have q1 := cells_at HX9.out 1
      have q2 := cells_at HX9.out 2
      have q3 := cells_at HX9.out 3
      have q4 := cells_at HX9.out 4
      have q5 := cells_at HX9.out 5
      simp at q0 q1 q2 q3 q4 q5
      have r0 := cells_at HZ9.out 0
      have r1 := cells_at HZ9.out 1
      have r2 := cells_at HZ9.out 2
      have r3 := cells_at HZ9.out 3
      have r4 := cells_at HZ9.out 4
      have r5 := cells_at HZ9.out 5
      have fz := frozen_at HZ9.out
      simp at r0 r1 r2 r3 r4 r5
      clear HX9 HZ9 HC9 HG9 HR9
      go_wp2
      (try simp only [Exit.inBlock, Exit.then])
      refine bodyPost_ret (results_cell_row rfl _ _ w.heap.size 27 (pkC ⟨1 + y1, 1 + y2, 1 + y2 + 1, y3, []⟩ (.slice none 0 0) (.slice va6 q6.length vc6)) (0, 0) _ rfl F.out Tryz.underlying27 rfl (by kernel_rfl)) rfl ?_
      exact ⟨_, _, _, q6, rfl, R9.out, HTT.out, P9.out, C9.out, G9.out⟩
end Go.Proofs.YtchmmekhfcojgaaGreatDoor
