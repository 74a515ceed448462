/-
  spec.l05At, impl's placeOf at lists that may share rows.
  slices.BinarySearchFunc at lists of records: its contract.
  spec.Find, impl.Find: their contracts.
  spec.Together: its contract.
  impl.ownHops, ownWay, WayTo: their contracts.
  append of one struct, with word on the block of what comes out.
  slices.Index, slices.Contains at numbers; impl.realAreas: their contracts.
  impl.linksOk, thingsOk, NetOk: their contracts.
  laws.szRouteS, toRouteS, eqRouteS: their contracts.
  spec.Newer, impl.Newer: their contracts.
-/
import Derived.Test.YthmmpmbnpfhloaaDoorSh13
import Derived.Test.YthmmpmbnpfhloaaDoorSh12
import Derived.Test.YthmmpmbnpfhloaaDoorSh11
namespace Go.Proofs.YthmmpmbnpfhloaaDoor
open Go.RowKit

set_option maxRecDepth 100000 in
set_option maxHeartbeats 2000000 in
theorem satI_any (v : Value) (ps : List RP) (hi : Nat) (r : RP) (w : World) (hv : RecsIn w hi v ps) (hhi : hi ≤ w.heap.size) (hn : tot ps ≤ 1048576) :
    Calls Tryd.prog 79 #[v, .agg (recC r.1 r.2)] w fun e w' => e = .returned (.int .i64 (atZ (fsts ps) r.1)) ∧ Below w.heap.size w w' := by
  have hnl := tot_len ps
  obtain ⟨a1, c1, rfl⟩ := owns_lenS hv.row
  have HV := hide hv
  clear hv
  have BX := (Below.refl w.heap.size w).alloc (Nat.le_refl _) (.cells (recC r.1 r.2) 81)
  have hx := heap_alloc_new w (.cells (recC r.1 r.2) 81)
  obtain ⟨wx, hwx⟩ : ∃ wx, wx = w.alloc (.cells (recC r.1 r.2) 81) := ⟨_, rfl⟩
  rw [← hwx] at BX hx
  unfold recC at *
  go_enter Tryd.func79, Tryd.ntmps79
  go_wp2
  rw [← hwx]
  have HX := hide hx
  clear hwx hx
  go_loopw [5] (fun i wr => ∃ (k : Nat), k ≤ ps.length ∧ i = .int .i64 k ∧ (∀ j, j < k → ∀ y, (fsts ps)[j]? = some y → sameKeyB y r.1 = false) ∧ Below wx.heap.size wx wr) (fun i _ => ps.length - (intOf i).toNat)
  case atStart => exact ⟨0, by omega, rfl, by omega, Below.refl _ _⟩
  case round =>
    obtain ⟨k, hk, rfl, hall, hnx⟩ := hrel
    have HALL := hide hall
    clear hall
    have hsz := hnx.size
    have hsx := lt_of_heap HX.out
    have BWR : Below w.heap.size w wr := BX.trans (hnx.mono (by omega))
    by_cases hlt : k < ps.length
    · obtain ⟨p, hp⟩ : ∃ p, ps[k]? = some p := ⟨ps[k], List.getElem?_eq_getElem hlt⟩
      have hat := HV.out.at
      obtain ⟨b, off, cap', hve, hbb, c0, c1, c2, c3, c4, c5, c6, c7, _⟩ := hat.cells k p hp
      cases hve
      rw [← BWR.cell (p := ⟨b, off + k * 8, none⟩) (Nat.lt_of_lt_of_le hbb hhi)] at c0
      rw [← BWR.cell (p := ⟨b, off + k * 8 + 1, none⟩) (Nat.lt_of_lt_of_le hbb hhi)] at c1
      rw [← BWR.cell (p := ⟨b, off + k * 8 + 2, none⟩) (Nat.lt_of_lt_of_le hbb hhi)] at c2
      rw [← BWR.cell (p := ⟨b, off + k * 8 + 3, none⟩) (Nat.lt_of_lt_of_le hbb hhi)] at c3
      rw [← BWR.cell (p := ⟨b, off + k * 8 + 4, none⟩) (Nat.lt_of_lt_of_le hbb hhi)] at c4
      rw [← BWR.cell (p := ⟨b, off + k * 8 + 5, none⟩) (Nat.lt_of_lt_of_le hbb hhi)] at c5
      rw [← BWR.cell (p := ⟨b, off + k * 8 + 6, none⟩) (Nat.lt_of_lt_of_le hbb hhi)] at c6
      rw [← BWR.cell (p := ⟨b, off + k * 8 + 7, none⟩) (Nat.lt_of_lt_of_le hbb hhi)] at c7
      have hxx := (hnx.block _ hsx).trans HX.out
      have d0 := cells_at hxx 0
      have d1 := cells_at hxx 1
      have d2 := cells_at hxx 2
      have d3 := cells_at hxx 3
      have d4 := cells_at hxx 4
      have d5 := cells_at hxx 5
      have d6 := cells_at hxx 6
      have d7 := cells_at hxx 7
      simp at d0 d1 d2 d3 d4 d5 d6 d7
      have hb1 : b < wr.heap.size := by omega
      have hb2 : w.heap.size < wr.heap.size := by omega
      have hki : (0 : Int) ≤ (k : Int) := by omega
      have hkj : (k : Int) < (ps.length : Int) := by omega
      have hq := fun W => ssameKey_any p.2 r.2 p.1 r.1 W
      unfold recC at hq
      obtain ⟨q, hqq⟩ : ∃ q, q = sameKeyB p.1 r.1 := ⟨_, rfl⟩
      rw [← hqq] at hq
      have HK := hide hq
      have HQQ := hide hqq
      have HPP := hide (fsts_at hp)
      clear hq hqq hp hat hxx
      cases q
      · go_wp2
        go_region_held3 (fun W => W.cell? ⟨b, off + k * 8, none⟩ = some (.int .i64 p.1.area) ∧ W.cell? ⟨b, off + k * 8 + 1, none⟩ = some (.int .i64 p.1.kind) ∧ W.cell? ⟨b, off + k * 8 + 2, none⟩ = some (.int .i64 p.1.owner) ∧ W.cell? ⟨b, off + k * 8 + 3, none⟩ = some (.int .i64 p.1.key) ∧ W.cell? ⟨b, off + k * 8 + 4, none⟩ = some (.int .i64 p.1.seq) ∧ W.cell? ⟨b, off + k * 8 + 5, none⟩ = some (p.2) ∧ W.cell? ⟨b, off + k * 8 + 6, none⟩ = some (.int .i64 p.1.cost) ∧ W.cell? ⟨b, off + k * 8 + 7, none⟩ = some (.bool p.1.far) ∧ W.cell? ⟨w.heap.size, 0, none⟩ = some (.int .i64 r.1.area) ∧ W.cell? ⟨w.heap.size, 1, none⟩ = some (.int .i64 r.1.kind) ∧ W.cell? ⟨w.heap.size, 2, none⟩ = some (.int .i64 r.1.owner) ∧ W.cell? ⟨w.heap.size, 3, none⟩ = some (.int .i64 r.1.key) ∧ W.cell? ⟨w.heap.size, 4, none⟩ = some (.int .i64 r.1.seq) ∧ W.cell? ⟨w.heap.size, 5, none⟩ = some (r.2) ∧ W.cell? ⟨w.heap.size, 6, none⟩ = some (.int .i64 r.1.cost) ∧ W.cell? ⟨w.heap.size, 7, none⟩ = some (.bool r.1.far)) (first | go_keep | (refine ⟨?_, ?_, ?_, ?_, ?_, ?_, ?_, ?_, ?_, ?_, ?_, ?_, ?_, ?_, ?_, ?_⟩ <;> (rw [hbc.cell (by assumption)]; assumption))) (first | (go_at_call 83; refine (HK.out _).mono ?_; rintro e w1 ⟨rfl, hbc⟩))
        go_wp2
        go_roundw
        case rel => exact ⟨k + 1, by omega, by go_num, (fun j hj y hy => by
          by_cases e : j = k
          · subst e; rw [HPP.out] at hy; cases hy; exact HQQ.out.symm
          · exact HALL.out j (by omega) y hy), hnx.trans ((Below.refl _ _).drew.trans (hbc.mono hsz))⟩
        case measure => simp [intOf]; omega
      · go_wp2
        go_region_held3 (fun W => W.cell? ⟨b, off + k * 8, none⟩ = some (.int .i64 p.1.area) ∧ W.cell? ⟨b, off + k * 8 + 1, none⟩ = some (.int .i64 p.1.kind) ∧ W.cell? ⟨b, off + k * 8 + 2, none⟩ = some (.int .i64 p.1.owner) ∧ W.cell? ⟨b, off + k * 8 + 3, none⟩ = some (.int .i64 p.1.key) ∧ W.cell? ⟨b, off + k * 8 + 4, none⟩ = some (.int .i64 p.1.seq) ∧ W.cell? ⟨b, off + k * 8 + 5, none⟩ = some (p.2) ∧ W.cell? ⟨b, off + k * 8 + 6, none⟩ = some (.int .i64 p.1.cost) ∧ W.cell? ⟨b, off + k * 8 + 7, none⟩ = some (.bool p.1.far) ∧ W.cell? ⟨w.heap.size, 0, none⟩ = some (.int .i64 r.1.area) ∧ W.cell? ⟨w.heap.size, 1, none⟩ = some (.int .i64 r.1.kind) ∧ W.cell? ⟨w.heap.size, 2, none⟩ = some (.int .i64 r.1.owner) ∧ W.cell? ⟨w.heap.size, 3, none⟩ = some (.int .i64 r.1.key) ∧ W.cell? ⟨w.heap.size, 4, none⟩ = some (.int .i64 r.1.seq) ∧ W.cell? ⟨w.heap.size, 5, none⟩ = some (r.2) ∧ W.cell? ⟨w.heap.size, 6, none⟩ = some (.int .i64 r.1.cost) ∧ W.cell? ⟨w.heap.size, 7, none⟩ = some (.bool r.1.far)) (first | go_keep | (refine ⟨?_, ?_, ?_, ?_, ?_, ?_, ?_, ?_, ?_, ?_, ?_, ?_, ?_, ?_, ?_, ?_⟩ <;> (rw [hbc.cell (by assumption)]; assumption))) (first | (go_at_call 83; refine (HK.out _).mono ?_; rintro e w1 ⟨rfl, hbc⟩))
        go_wp2
        go_ret
        exact ⟨ret_int1 (by rw [atZ_found HPP.out HQQ.out.symm HALL.out]), BWR.trans ((Below.refl _ _).drew.trans (hbc.mono (show w.heap.size ≤ wr.heap.size by omega)))⟩
    · have hkn : k = ps.length := by omega
      have KN := hide hkn
      clear hkn
      go_wp2
      go_ret
      exact ⟨ret_int1 (by rw [atZ_none (by have h := HALL.out; rw [KN.out] at h; simpa [fsts] using h)]), BWR⟩

end Go.Proofs.YthmmpmbnpfhloaaDoor
namespace Go.Proofs.YthmmpmbnpfhloaaDoor
open Go.RowKit

set_option linter.unusedSimpArgs false

end Go.Proofs.YthmmpmbnpfhloaaDoor
namespace Go.Proofs.YthmmpmbnpfhloaaDoor
open Go.RowKit

set_option linter.unusedSimpArgs false

theorem results_cell_row_tmp5 {P : Program} {fn : Func} {p u : Tmp} {ty : TypeId} (h : fn.results = #[.cell p ty, .tmp u]) (tmps : Array Value) (w : World) (g : Nat) (t : TypeId) (cs : Array Value) (fr : Nat × Nat) (d : TypeDesc)
    (hp : tmps.getD p undef = .pointer (some ⟨g, 0, none⟩)) (hg : w.heap[g]? = some (.cells cs t fr))
    (hu : P.underlying ty = some d) (hd : (match d with | .struct _ | .array _ _ => true | _ => false) = true) (hi : (P.info? ty).map (·.size) = some cs.size) :
    (results fn tmps).run P w = .ok (.tuple #[.agg cs, tmps.getD u undef]) w := by
  have hp' : tmps[p]?.getD undef = .pointer (some ⟨g, 0, none⟩) := by simpa using hp
  rw [results_cell_tmp h]
  simp [hp', asAddr, run_loadVar_row w g t ty cs fr d hg hu hd hi]

/-- the one with the key, and whether there is one -/
def findD (xs : List RecD) (r : RecD) : RecD := if atZ xs r < 0 then zeroRD else xs.getD (atZ xs r).toNat zeroRD

def findB (xs : List RecD) (r : RecD) : Bool := !decide (atZ xs r < 0)

theorem find_none {xs : List RecD} {r : RecD} (h : atZ xs r = -1) : findD xs r = zeroRD ∧ findB xs r = false := by unfold findD findB; rw [h]; exact ⟨rfl, rfl⟩

theorem find_at {xs : List RecD} {r y : RecD} {k : Nat} (h : atZ xs r = (k : Int)) (hy : xs[k]? = some y) : findD xs r = y ∧ findB xs r = true := by
  unfold findD findB
  rw [h, if_neg (by omega)]
  exact ⟨by simp [hy], by simp⟩

theorem fsts_some5 {ps : List RP} {k : Nat} {y : RecD} (h : (fsts ps)[k]? = some y) : ∃ p, ps[k]? = some p ∧ p.1 = y := by
  simp [fsts] at h
  obtain ⟨v, hv⟩ := h
  exact ⟨(y, v), hv, rfl⟩

end Go.Proofs.YthmmpmbnpfhloaaDoor
namespace Go.Proofs.YthmmpmbnpfhloaaDoor
open Go.RowKit

set_option linter.unusedSimpArgs false

/-- the better of two ways, or both -/
def togD (x y : WayD) : WayD := if betterB x y then x else if betterB y x then y else ⟨x.to, x.cost, addL x.hops y.hops⟩

theorem addL_len (a b : List Int) : (addL a b).length ≤ 6 := addT_len a b 6

theorem tog_len {x y : WayD} {n : Nat} (hx : x.hops.length ≤ n) (hy : y.hops.length ≤ n) (h6 : 6 ≤ n) : (togD x y).hops.length ≤ n := by
  unfold togD
  split
  · exact hx
  · split
    · exact hy
    · exact Nat.le_trans (addL_len _ _) h6

theorem cellW3 {W : World} {g b j : Nat} {x0 x1 x2 : Value} (h : b ≠ g) : (((W.setCell ⟨g, 0, none⟩ x0).setCell ⟨g, 1, none⟩ x1).setCell ⟨g, 2, none⟩ x2).cell? ⟨b, j, none⟩ = W.cell? ⟨b, j, none⟩ := by
  refine World.cell?_of_block ?_
  show (((W.setCell ⟨g, 0, none⟩ x0).setCell ⟨g, 1, none⟩ x1).setCell ⟨g, 2, none⟩ x2).heap[b]? = W.heap[b]?
  rw [heap_setCell_other _ ⟨g, 2, none⟩ b _ h, heap_setCell_other _ ⟨g, 1, none⟩ b _ h, heap_setCell_other _ ⟨g, 0, none⟩ b _ h]

set_option maxRecDepth 100000 in
set_option maxHeartbeats 4000000 in
theorem stog_any (x y : WayD) (u1 u2 : Value) (b1 b2 : Nat) (w : World) (h1 : w.ownsRow b1 3 1 u1 x.hops.length (flat intE x.hops)) (h2 : w.ownsRow b2 3 1 u2 y.hops.length (flat intE y.hops)) (hx : x.hops.length ≤ 1048576) (hy : y.hops.length ≤ 1048576) :
    Calls Tryd.prog 58 #[.agg (wayC x u1), .agg (wayC y u2)] w fun e w' => ∃ v', e = .returned (.agg (wayC (togD x y) v')) ∧ w'.ownsRow w.heap.size 3 1 v' (togD x y).hops.length (flat intE (togD x y).hops) ∧ Below w.heap.size w w' := by
  obtain ⟨a1, c1, rfl⟩ := owns_lenS h1
  obtain ⟨a2, c2, rfl⟩ := owns_lenS h2
  have HC1 := hide (fun W (hb : Below w.heap.size w W) => copyW_any x (.slice a1 x.hops.length c1) b1 W (owns_below h1 hb (Nat.le_refl _)) hx)
  have HC2 := hide (fun W (hb : Below w.heap.size w W) => copyW_any y (.slice a2 y.hops.length c2) b2 W (owns_below h2 hb (Nat.le_refl _)) hy)
  have HB1 := hide (fun W => sbetter_any (.slice a1 x.hops.length c1) (.slice a2 y.hops.length c2) x y W)
  have HB2 := hide (fun W => sbetter_any (.slice a2 y.hops.length c2) (.slice a1 x.hops.length c1) y x W)
  have HAD := hide (fun W (hb : Below w.heap.size w W) => sadd_any (.slice a1 x.hops.length c1) (.slice a2 y.hops.length c2) x.hops y.hops W hx hy ((RowAt.later (owns_rowAt h1) hb (Nat.le_refl _)).more hb.size) ((RowAt.later (owns_rowAt h2) hb (Nat.le_refl _)).more hb.size))
  obtain ⟨P, hP⟩ : ∃ P, P = betterB x y := ⟨_, rfl⟩
  obtain ⟨Q, hQ⟩ : ∃ Q, Q = betterB y x := ⟨_, rfl⟩
  obtain ⟨D, hD⟩ : ∃ D, D = togD x y := ⟨_, rfl⟩
  rw [← hP] at HB1
  rw [← hQ] at HB2
  rw [← hD]
  have HD := hide hD
  unfold togD at HD
  rw [← hP, ← hQ] at HD
  have BW := below_three (w := w) (.cells #[.int .i64 x.to, .int .i64 x.cost, .slice a1 x.hops.length c1] 93) (.cells #[.int .i64 y.to, .int .i64 y.cost, .slice a2 y.hops.length c2] 93) (.cells #[.int .i64 0, .int .i64 0, .slice none 0 0] 93)
  have q0 := heap3_0 w (.cells #[.int .i64 x.to, .int .i64 x.cost, .slice a1 x.hops.length c1] 93) (.cells #[.int .i64 y.to, .int .i64 y.cost, .slice a2 y.hops.length c2] 93) (.cells #[.int .i64 0, .int .i64 0, .slice none 0 0] 93)
  have q1 := heap3_1 w (.cells #[.int .i64 x.to, .int .i64 x.cost, .slice a1 x.hops.length c1] 93) (.cells #[.int .i64 y.to, .int .i64 y.cost, .slice a2 y.hops.length c2] 93) (.cells #[.int .i64 0, .int .i64 0, .slice none 0 0] 93)
  have q2 := heap3_2 w (.cells #[.int .i64 x.to, .int .i64 x.cost, .slice a1 x.hops.length c1] 93) (.cells #[.int .i64 y.to, .int .i64 y.cost, .slice a2 y.hops.length c2] 93) (.cells #[.int .i64 0, .int .i64 0, .slice none 0 0] 93)
  obtain ⟨w0, hw0⟩ : ∃ W, W = ((w.alloc (.cells #[.int .i64 x.to, .int .i64 x.cost, .slice a1 x.hops.length c1] 93)).alloc (.cells #[.int .i64 y.to, .int .i64 y.cost, .slice a2 y.hops.length c2] 93)).alloc (.cells #[.int .i64 0, .int .i64 0, .slice none 0 0] 93) := ⟨_, rfl⟩
  rw [← hw0] at BW q0 q1 q2
  clear h1 h2 hP hQ hD
  unfold wayC at *
  have fin : ∀ (X : WayD) (na : Option Addr) (nc lo : Nat) (W : World), W.heap[w.heap.size + 1 + 1]? = some (.cells #[.int .i64 0, .int .i64 0, .slice none 0 0] 93) → W.ownsRow lo 3 1 (.slice na X.hops.length nc) X.hops.length (flat intE X.hops) → w.heap.size + 1 + 1 < lo → Below w.heap.size w W → (putW3 W (w.heap.size + 1 + 1) X (.slice na X.hops.length nc)).heap[w.heap.size + 1 + 1]? = some (.cells (wayC X (.slice na X.hops.length nc)) 93) ∧ (putW3 W (w.heap.size + 1 + 1) X (.slice na X.hops.length nc)).ownsRow w.heap.size 3 1 (.slice na X.hops.length nc) X.hops.length (flat intE X.hops) ∧ Below w.heap.size w (putW3 W (w.heap.size + 1 + 1) X (.slice na X.hops.length nc)) := by
    intro X na nc lo W hz ho hlo hb
    have G := grownW3 W (w.heap.size + 1 + 1) X (.slice na X.hops.length nc)
    refine ⟨finW3 X _ hz, owns_baseS (owns_keepB ho (fun k hk => G.block k (ho.lt k hk).2 (fun e => by have := (ho.lt k hk).1; simp at e; omega))) (by omega), hb.grown G hb.size (fun k hk => by simp at hk; omega)⟩
  have FIN := hide fin
  clear fin
  have r0 := cells_at q0 0
  have r1 := cells_at q0 1
  have r2 := cells_at q0 2
  have s0 := cells_at q1 0
  have s1 := cells_at q1 1
  have s2 := cells_at q1 2
  simp at r0 r1 r2 s0 s1 s2
  have z0 := lt_of_heap q0
  have z1 := lt_of_heap q1
  have z2 := lt_of_heap q2
  go_enter Tryd.func58, Tryd.ntmps58
  go_wp2_with fail
  rw [← hw0]
  clear hw0
  refine (HB1.out _).mono ?_
  rintro e w1 ⟨rfl, e1⟩
  have e1s := e1.size
  have B1 : Below w.heap.size w w1 := BW.trans (e1.mono BW.size)
  have p0 := (e1.block _ z0).trans q0
  have p1 := (e1.block _ z1).trans q1
  have p2 := (e1.block _ z2).trans q2
  clear r0 r1 r2 s0 s1 s2 q0 q1 q2 e1
  have r0 := cells_at p0 0
  have r1 := cells_at p0 1
  have r2 := cells_at p0 2
  have s0 := cells_at p1 0
  have s1 := cells_at p1 1
  have s2 := cells_at p1 2
  simp at r0 r1 r2 s0 s1 s2
  cases P
  · go_wp2_with fail
    refine (HB2.out _).mono ?_
    rintro e w2 ⟨rfl, e2⟩
    have e2s := e2.size
    have B2 : Below w.heap.size w w2 := B1.trans (e2.mono B1.size)
    have k0 := (e2.block _ (lt_of_heap p0)).trans p0
    have k1 := (e2.block _ (lt_of_heap p1)).trans p1
    have k2 := (e2.block _ (lt_of_heap p2)).trans p2
    clear r0 r1 r2 s0 s1 s2 p0 p1 p2 e2
    have r0 := cells_at k0 0
    have r1 := cells_at k0 1
    have r2 := cells_at k0 2
    have s0 := cells_at k1 0
    have s1 := cells_at k1 1
    have s2 := cells_at k1 2
    simp at r0 r1 r2 s0 s1 s2
    cases Q
    · have hDe : D = ⟨x.to, x.cost, addL x.hops y.hops⟩ := HD.out
      have zz0 : w.heap.size < w2.heap.size := by omega
      have zz1 : w.heap.size + 1 < w2.heap.size := by omega
      have B2D : Below w.heap.size w w2.drew := B2.drew
      have HAL := hide (addL_len x.hops y.hops)
      have K2 := hide k2
      clear k0 k1 k2
      go_wp2
      go_region_held3 (fun W => W.cell? ⟨w.heap.size, 0, none⟩ = some (.int .i64 x.to) ∧ W.cell? ⟨w.heap.size, 1, none⟩ = some (.int .i64 x.cost) ∧ W.cell? ⟨w.heap.size, 2, none⟩ = some (.slice a1 x.hops.length c1) ∧ W.cell? ⟨w.heap.size + 1, 2, none⟩ = some (.slice a2 y.hops.length c2)) (first | (refine ⟨?_, ?_, ?_, ?_⟩ <;> (rw [b3.cell (by assumption)]; assumption)) | (refine ⟨?_, ?_, ?_, ?_⟩ <;> (rw [cellW3 (by omega), b3.cell (by assumption)]; assumption)) | go_keep) (first | (go_at_call 62; refine (HAD.out _ B2D).mono ?_; rintro e w3 ⟨v3, rfl, o3, b3⟩; obtain ⟨na, nc, rfl⟩ := owns_lenS o3; have k3 := (b3.block _ (show w.heap.size + 1 + 1 < w2.drew.heap.size from lt_of_heap K2.out)).trans K2.out; have t0 := cells_at k3 0; have t1 := cells_at k3 1; have t2 := cells_at k3 2; simp at t0 t1 t2; have ft := frozen_at k3))
      have F := FIN.out ⟨x.to, x.cost, addL x.hops y.hops⟩ na nc _ w3 k3 o3 (lt_of_heap K2.out) (B2D.trans (b3.mono B2D.size))
      subst hDe
      clear k3 t0 t1 t2 ft
      have FF := hide F.1
      have O5 := hide F.2.1
      have B5 := hide F.2.2
      clear F
      go_wp2_with fail
      (try simp only [Exit.inBlock, Exit.then])
      refine bodyPost_ret (results_cell_row rfl _ _ (w.heap.size + 1 + 1) 93 (wayC _ _) (0, 0) _ rfl FF.out Tryd.underlying93 rfl (by kernel_rfl)) rfl ?_
      exact ⟨_, rfl, O5.out, B5.out⟩
    · have hDe : D = y := HD.out
      subst hDe
      go_wp2_with fail
      refine (HC2.out _ B2).mono ?_
      rintro e w3 ⟨v3, rfl, o3, b3⟩
      obtain ⟨na, nc, rfl⟩ := owns_lenS o3
      have k3 := (b3.block _ (lt_of_heap k2)).trans k2
      have t0 := cells_at k3 0
      have t1 := cells_at k3 1
      have t2 := cells_at k3 2
      simp at t0 t1 t2
      have ft := frozen_at k3
      have F := FIN.out D na nc _ w3 k3 o3 (lt_of_heap k2) (B2.trans (b3.mono B2.size))
      clear k0 k1 k2 k3 o3 r0 r1 r2 s0 s1 s2
      have FF := hide F.1
      have O5 := hide F.2.1
      have B5 := hide F.2.2
      clear F
      go_wp2_with fail
      (try simp only [Exit.inBlock, Exit.then])
      refine bodyPost_ret (results_cell_row rfl _ _ (w.heap.size + 1 + 1) 93 (wayC _ _) (0, 0) _ rfl FF.out Tryd.underlying93 rfl (by kernel_rfl)) rfl ?_
      exact ⟨_, rfl, O5.out, B5.out⟩
  · have hDe : D = x := HD.out
    subst hDe
    go_wp2_with fail
    refine (HC1.out _ B1).mono ?_
    rintro e w3 ⟨v3, rfl, o3, b3⟩
    obtain ⟨na, nc, rfl⟩ := owns_lenS o3
    have k3 := (b3.block _ (lt_of_heap p2)).trans p2
    have t0 := cells_at k3 0
    have t1 := cells_at k3 1
    have t2 := cells_at k3 2
    simp at t0 t1 t2
    have ft := frozen_at k3
    have F := FIN.out D na nc _ w3 k3 o3 (lt_of_heap p2) (B1.trans (b3.mono B1.size))
    clear p0 p1 p2 k3 o3 r0 r1 r2 s0 s1 s2
    have FF := hide F.1
    have O5 := hide F.2.1
    have B5 := hide F.2.2
    clear F
    go_wp2_with fail
    (try simp only [Exit.inBlock, Exit.then])
    refine bodyPost_ret (results_cell_row rfl _ _ (w.heap.size + 1 + 1) 93 (wayC _ _) (0, 0) _ rfl FF.out Tryd.underlying93 rfl (by kernel_rfl)) rfl ?_
    exact ⟨_, rfl, O5.out, B5.out⟩
end Go.Proofs.YthmmpmbnpfhloaaDoor
namespace Go.Proofs.YthmmpmbnpfhloaaDoor
open Go.RowKit

set_option linter.unusedSimpArgs false

end Go.Proofs.YthmmpmbnpfhloaaDoor
namespace Go.Proofs.YthmmpmbnpfhloaaDoor
open Go.RowKit

theorem append_struct6 {α : Type} {enc : α → List Value} {sz bytes : Nat} (hlen : ∀ a, (enc a).length = sz) (hpos : 0 < sz) (hbb : bytes ≤ 100) {P : Program} (w : World) {ops : Array Oper} {rest : List Oper} {o : Oper} {a : Act} {Q : Exit → Act → World → Prop} (hgd : o.guard = none) (s x : Operand) (t : TypeId)
    (ho : o.op = .call { callee := .builtin .append, args := #[s, x], argTypes := #[t, t] }) (base : Nat) (e : TypeId) (ht : P.underlying t = some (.slice e)) (zv : Value) (hzv : zv.cells.size = sz)
    (hinfo : (P.info? e).map (fun i => (i.zero, i.size, i.bytes)) = some (some zv, sz, bytes))
    (v : Value) (l : List α) (y : α) (hone : ∀ u ∈ enc y, u.oneCell' = true) (hs : a.eval s = v) (hown : w.ownsRow base e sz v l.length (flat enc l))
    (ad : Addr) (c : Nat) (hx : a.eval x = .slice (some ad) 1 c) (hnews : ∀ j u, (enc y)[j]? = some u → w.cell? (ad.add j) = some u)
    (hl : l.length + 1 ≤ 1000000000) (hbase : base ≤ w.heap.size)
    (h : ∀ v' w', w'.ownsRow base e sz v' (l ++ [y]).length (flat enc (l ++ [y])) → w.grownBy w' v.ownBlock → (v'.ownBlock = v.ownBlock ∨ v'.ownBlock = some w.heap.size) → wpList P ops Q rest (a.put o.dst v') w') : wpList P ops Q (o :: rest) a w := by
  obtain ⟨i0, hi, hz0, hz1, hz2⟩ := info_parts hinfo
  refine wpList_append_own_at w hgd s x t ho base e i0 zv sz bytes ht hi hz0 hz1 hz2 hzv hpos v l.length (flat enc l) hs hown ad 1 c (enc y) hx (by rw [hlen]; omega) hnews hone (by unfold maxLen; omega) ?_ hbase ?_
  · have : (l.length + 1) * bytes ≤ 1000000000 * 100 := Nat.mul_le_mul hl hbb
    omega
  · intro v' w' h1 h2 _ h4
    have e1 : flat enc l ++ enc y = flat enc (l ++ [y]) := by rw [flat_append]; simp [flat]
    rw [e1] at h1
    exact h v' w' (by simpa using h1) h2 h4
end Go.Proofs.YthmmpmbnpfhloaaDoor
namespace Go.Proofs.YthmmpmbnpfhloaaDoor
open Go.RowKit

set_option linter.unusedSimpArgs false

end Go.Proofs.YthmmpmbnpfhloaaDoor
namespace Go.Proofs.YthmmpmbnpfhloaaDoor
open Go.RowKit

def linksB (n : Int) (ls : List Lk) : Bool := decide (ls.length ≤ 12) && allOk (linkOkB n) ls && ascB ordL ls

def thOkB (n : Int) (t : Th) : Bool := inB t.k 1 9 && inB t.o 1 n && inB t.c 1 1000

def thingsB (n : Int) (ls : List Th) : Bool := decide (ls.length ≤ 4) && allOk (thOkB n) ls && ascB ordT ls

def netOkI (x : NetD) : Bool := inB x.n 1 6 && linksB x.n x.ls && thingsB x.n x.ts

end Go.Proofs.YthmmpmbnpfhloaaDoor
namespace Go.Proofs.YthmmpmbnpfhloaaDoor
open Go.RowKit

theorem Tryd.infoRoute : (Tryd.prog.info? 26).map (fun i => (i.zero, i.size, i.bytes)) = some (some (.agg (rtC zeroQD (.slice none 0 0))), 6, 64) := by kernel_rfl

def fstsQ (ps : List QP) : List RtD := ps.map (·.1)

end Go.Proofs.YthmmpmbnpfhloaaDoor
namespace Go.Proofs.YthmmpmbnpfhloaaDoor
open Go.RowKit

set_option linter.unusedSimpArgs false

end Go.Proofs.YthmmpmbnpfhloaaDoor
