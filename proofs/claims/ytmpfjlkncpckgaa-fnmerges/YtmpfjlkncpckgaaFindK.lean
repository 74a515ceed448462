/-
  spec.Find, impl.Find: their contracts.
-/
import Derived.Test.YtmpfjlkncpckgaaPlaceK
namespace Go.Proofs.Ytmpfjlkncpckgaa
open Go.RowKit

set_option linter.unusedSimpArgs false

theorem results_cell_row_tmp5 {P : Program} {fn : Func} {p u : Tmp} {ty : TypeId} (h : fn.results = #[.cell p ty, .tmp u]) (tmps : Array Value) (w : World) (g : Nat) (t : TypeId) (cs : Array Value) (fr : Nat × Nat) (d : TypeDesc)
    (hp : tmps.getD p undef = .pointer (some ⟨g, 0, none⟩)) (hg : w.heap[g]? = some (.cells cs t fr))
    (hu : P.underlying ty = some d) (hd : (match d with | .struct _ | .array _ _ => true | _ => false) = true) (hi : (P.info? ty).map (·.size) = some cs.size) :
    (results fn tmps).run P w = .ok (.tuple #[.agg cs, tmps.getD u undef]) w := by
  have hp' : tmps[p]?.getD undef = .pointer (some ⟨g, 0, none⟩) := by simpa using hp
  rw [results_cell_tmp h]
  simp [hp', asAddr, run_loadVar_row w g t ty cs fr d hg hu hd hi]

/-- the one with the key, and whether there is one -/
def findD (xs : List RecD) (r : RecD) : RecD := if atZ xs r < 0 then zeroRD else xs.getD (atZ xs r).toNat zeroRD

def findB (xs : List RecD) (r : RecD) : Bool := !decide (atZ xs r < 0)

theorem find_none {xs : List RecD} {r : RecD} (h : atZ xs r = -1) : findD xs r = zeroRD ∧ findB xs r = false := by unfold findD findB; rw [h]; exact ⟨rfl, rfl⟩

theorem find_at {xs : List RecD} {r y : RecD} {k : Nat} (h : atZ xs r = (k : Int)) (hy : xs[k]? = some y) : findD xs r = y ∧ findB xs r = true := by
  unfold findD findB
  rw [h, if_neg (by omega)]
  exact ⟨by simp [hy], by simp⟩

theorem fsts_some5 {ps : List RP} {k : Nat} {y : RecD} (h : (fsts ps)[k]? = some y) : ∃ p, ps[k]? = some p ∧ p.1 = y := by
  simp [fsts] at h
  obtain ⟨v, hv⟩ := h
  exact ⟨(y, v), hv, rfl⟩

set_option maxRecDepth 100000 in
set_option maxHeartbeats 4000000 in
theorem sfind_any (v : Value) (ps : List RP) (lo hi : Nat) (r : RP) (rlo : Nat) (w : World) (hv : RecsOwn w lo hi v ps) (hhi : hi ≤ w.heap.size) (hn : tot ps ≤ 1048576) (hr : w.ownsRow rlo 67 2 r.2 r.1.near.length (flat nrE r.1.near)) :
    Calls Try.prog 44 #[v, .agg (recC r.1 r.2)] w fun e w' => ∃ u, e = .returned (.tuple #[.agg (recC (findD (fsts ps) r.1) u), .bool (findB (fsts ps) r.1)]) ∧ w'.ownsRow w.heap.size 67 2 u (findD (fsts ps) r.1).near.length (flat nrE (findD (fsts ps) r.1).near) ∧ Below w.heap.size w w' := by
  have hnl := tot_len ps
  obtain ⟨a1, c1, rfl⟩ := owns_lenS hv.row
  obtain ⟨ra, rc, hrn⟩ := owns_lenS hr
  have BX : Below w.heap.size w ((w.alloc (.cells #[.int .i64 r.1.area, .int .i64 r.1.kind, .int .i64 r.1.owner, .int .i64 r.1.key, .int .i64 r.1.seq, .slice ra r.1.near.length rc, .int .i64 r.1.cost, .bool r.1.far] 26)).alloc (.cells #[.int .i64 0, .int .i64 0, .int .i64 0, .int .i64 0, .int .i64 0, .slice none 0 0, .int .i64 0, .bool false] 26)) := below_two _ _
  have hq1 : ((w.alloc (.cells #[.int .i64 r.1.area, .int .i64 r.1.kind, .int .i64 r.1.owner, .int .i64 r.1.key, .int .i64 r.1.seq, .slice ra r.1.near.length rc, .int .i64 r.1.cost, .bool r.1.far] 26)).alloc (.cells #[.int .i64 0, .int .i64 0, .int .i64 0, .int .i64 0, .int .i64 0, .slice none 0 0, .int .i64 0, .bool false] 26)).heap[w.heap.size + 1]? = some (.cells #[.int .i64 0, .int .i64 0, .int .i64 0, .int .i64 0, .int .i64 0, .slice none 0 0, .int .i64 0, .bool false] 26) := by
    have e := heap_alloc_new (w.alloc (.cells #[.int .i64 r.1.area, .int .i64 r.1.kind, .int .i64 r.1.owner, .int .i64 r.1.key, .int .i64 r.1.seq, .slice ra r.1.near.length rc, .int .i64 r.1.cost, .bool r.1.far] 26)) (.cells #[.int .i64 0, .int .i64 0, .int .i64 0, .int .i64 0, .int .i64 0, .slice none 0 0, .int .i64 0, .bool false] 26)
    simpa using e
  have hq0 : ((w.alloc (.cells #[.int .i64 r.1.area, .int .i64 r.1.kind, .int .i64 r.1.owner, .int .i64 r.1.key, .int .i64 r.1.seq, .slice ra r.1.near.length rc, .int .i64 r.1.cost, .bool r.1.far] 26)).alloc (.cells #[.int .i64 0, .int .i64 0, .int .i64 0, .int .i64 0, .int .i64 0, .slice none 0 0, .int .i64 0, .bool false] 26)).heap[w.heap.size]? = some (.cells #[.int .i64 r.1.area, .int .i64 r.1.kind, .int .i64 r.1.owner, .int .i64 r.1.key, .int .i64 r.1.seq, .slice ra r.1.near.length rc, .int .i64 r.1.cost, .bool r.1.far] 26) := by rw [Below.heap_alloc _ _ _ (by simp), heap_alloc_new]
  obtain ⟨wx, hwx⟩ : ∃ wx, wx = (w.alloc (.cells #[.int .i64 r.1.area, .int .i64 r.1.kind, .int .i64 r.1.owner, .int .i64 r.1.key, .int .i64 r.1.seq, .slice ra r.1.near.length rc, .int .i64 r.1.cost, .bool r.1.far] 26)).alloc (.cells #[.int .i64 0, .int .i64 0, .int .i64 0, .int .i64 0, .int .i64 0, .slice none 0 0, .int .i64 0, .bool false] 26) := ⟨_, rfl⟩
  rw [← hwx] at BX hq1 hq0
  have hsx : w.heap.size + 1 < wx.heap.size := lt_of_heap hq1
  have HAT := hide (sat_any (.slice a1 ps.length c1) ps lo hi r wx (hv.below BX hhi) (by omega) hn)
  unfold recC at HAT
  rw [hrn] at HAT
  have HV := hide hv
  rw [hrn]
  clear hv hr hrn
  unfold recC
  unfold recC at *
  rcases atZ_cases (fsts ps) r.1 with hz | ⟨j, y, hz, hy, _⟩
  · obtain ⟨e1, e2⟩ := find_none hz
    rw [e1, e2]
    rw [hz] at HAT
    clear hz e1 e2
    go_enter Try.func44, Try.ntmps44
    go_wp2_with fail
    rw [← hwx]
    refine HAT.out.mono ?_
    rintro e w1 ⟨rfl, b1⟩
    have B1 : Below w.heap.size w w1 := BX.trans (b1.mono (by omega))
    have b1s := b1.size
    have hz1 := (b1.block _ hsx).trans hq1
    clear hwx b1 hq1 hq0 HAT
    have u0 := cells_at hz1 0
    have u1 := cells_at hz1 1
    have u2 := cells_at hz1 2
    have u3 := cells_at hz1 3
    have u4 := cells_at hz1 4
    have u5 := cells_at hz1 5
    have u6 := cells_at hz1 6
    have u7 := cells_at hz1 7
    simp at u0 u1 u2 u3 u4 u5 u6 u7
    have fu := frozen_at hz1
    have FF := hide (fin85 zeroRD (.slice none 0 0) hz1)
    have G8 := hide (grown85 w1 (w.heap.size + 1) zeroRD (.slice none 0 0))
    have hzl := lt_of_heap hz1
    clear hz1
    go_wp2_with fail
    (try simp only [Exit.inBlock, Exit.then])
    refine bodyPost_ret (results_cell_row_tmp5 rfl _ _ (w.heap.size + 1) 26 (recC zeroRD (.slice none 0 0)) (0, 0) _ rfl FF.out Try.underlying26 rfl (by kernel_rfl)) rfl ?_
    exact ⟨.slice none 0 0, rfl, World.ownsRow_nil _ _ _ _, B1.grown G8.out (by omega) (fun k hk => by simp at hk; omega)⟩
  · obtain ⟨e1, e2⟩ := find_at hz hy
    rw [e1, e2]
    obtain ⟨t, htj, hty⟩ := fsts_some5 hy
    have hjl : j < ps.length := (List.getElem?_eq_some_iff.1 htj).1
    have hji : (0 : Int) ≤ (j : Int) := by omega
    have hjj : (j : Int) < (ps.length : Int) := by omega
    have hj0 : ¬ (j : Int) < 0 := by omega
    rw [hz] at HAT
    obtain ⟨b, off, cp, hve, hbb, c0, c1, c2, c3, c4, c5, c6, c7, _⟩ := HV.out.at.cells j t htj
    cases hve
    have hbw : b < w.heap.size := by omega
    have hno := HV.out.nears t (List.mem_of_getElem? htj)
    obtain ⟨pa, pc, hpn⟩ := owns_lenS hno.1
    have HCP := hide (fun W (hb : Below w.heap.size w W) => copy5_any t.1 t.2 lo W (owns_below hno.1 hb (Nat.le_refl _)) (by have := tot_mem (List.mem_of_getElem? htj); omega))
    unfold recC at HCP
    rw [hpn] at c5 HCP
    subst hty
    clear hz hy htj e1 e2 hno hpn
    go_enter Try.func44, Try.ntmps44
    go_wp2_with fail
    rw [← hwx]
    refine HAT.out.mono ?_
    rintro e w1 ⟨rfl, b1⟩
    have B1 : Below w.heap.size w w1 := BX.trans (b1.mono (by omega))
    have b1s := b1.size
    have hz1 := (b1.block _ hsx).trans hq1
    clear hwx b1 hq1 hq0 HAT
    rw [← B1.cell (p := ⟨b, off + j * 8, none⟩) hbw] at c0
    rw [← B1.cell (p := ⟨b, off + j * 8 + 1, none⟩) hbw] at c1
    rw [← B1.cell (p := ⟨b, off + j * 8 + 2, none⟩) hbw] at c2
    rw [← B1.cell (p := ⟨b, off + j * 8 + 3, none⟩) hbw] at c3
    rw [← B1.cell (p := ⟨b, off + j * 8 + 4, none⟩) hbw] at c4
    rw [← B1.cell (p := ⟨b, off + j * 8 + 5, none⟩) hbw] at c5
    rw [← B1.cell (p := ⟨b, off + j * 8 + 6, none⟩) hbw] at c6
    rw [← B1.cell (p := ⟨b, off + j * 8 + 7, none⟩) hbw] at c7
    have Z1 := hide hz1
    clear hz1
    go_wp2_with fail
    refine (HCP.out _ B1).mono ?_
    rintro e w2 ⟨v1, rfl, hn2, b2⟩
    obtain ⟨n1a, n1c, rfl⟩ := owns_lenS hn2
    have hz2 := (b2.block _ (lt_of_heap Z1.out)).trans Z1.out
    have b2s := b2.size
    have hzl := lt_of_heap Z1.out
    have u0 := cells_at hz2 0
    have u1 := cells_at hz2 1
    have u2 := cells_at hz2 2
    have u3 := cells_at hz2 3
    have u4 := cells_at hz2 4
    have u5 := cells_at hz2 5
    have u6 := cells_at hz2 6
    have u7 := cells_at hz2 7
    simp at u0 u1 u2 u3 u4 u5 u6 u7
    have fu := frozen_at hz2
    have FF := hide (fin85 t.1 (.slice n1a t.1.near.length n1c) hz2)
    have G8 := grown85 w2 (w.heap.size + 1) t.1 (.slice n1a t.1.near.length n1c)
    have O3 := hide (owns_baseS (b0 := w.heap.size) (hn2.kept G8 (by
      cases hv : (Value.slice n1a t.1.near.length n1c).ownBlock with
      | none => exact .inl rfl
      | some g => exact .inr (fun e => by have := (hn2.lt g hv).1; simp at e; omega))) (by omega))
    have B2 : Below w.heap.size w w2 := B1.trans (b2.mono (by omega))
    have BF := hide (B2.grown G8 (by omega) (fun k hk => by simp at hk; omega))
    clear hz2 hn2 b2 Z1 G8
    go_wp2_with fail
    (try simp only [Exit.inBlock, Exit.then])
    refine bodyPost_ret (results_cell_row_tmp5 rfl _ _ (w.heap.size + 1) 26 (recC t.1 (.slice n1a t.1.near.length n1c)) (0, 0) _ rfl FF.out Try.underlying26 rfl (by kernel_rfl)) rfl ?_
    exact ⟨_, rfl, O3.out, BF.out⟩

set_option maxRecDepth 100000 in
set_option maxHeartbeats 4000000 in
theorem ifind_any (v : Value) (ps : List RP) (lo hi : Nat) (r : RP) (rlo : Nat) (w : World) (hv : RecsOwn w lo hi v ps) (hhi : hi ≤ w.heap.size) (hn : tot ps ≤ 1048576) (hr : w.ownsRow rlo 67 2 r.2 r.1.near.length (flat nrE r.1.near)) :
    Calls Try.prog 37 #[v, .agg (recC r.1 r.2)] w fun e w' => ∃ u, e = .returned (.tuple #[.agg (recC (findD (fsts ps) r.1) u), .bool (findB (fsts ps) r.1)]) ∧ w'.ownsRow w.heap.size 67 2 u (findD (fsts ps) r.1).near.length (flat nrE (findD (fsts ps) r.1).near) ∧ Below w.heap.size w w' := by
  have hnl := tot_len ps
  obtain ⟨a1, c1, rfl⟩ := owns_lenS hv.row
  obtain ⟨ra, rc, hrn⟩ := owns_lenS hr
  have BX : Below w.heap.size w ((w.alloc (.cells #[.int .i64 r.1.area, .int .i64 r.1.kind, .int .i64 r.1.owner, .int .i64 r.1.key, .int .i64 r.1.seq, .slice ra r.1.near.length rc, .int .i64 r.1.cost, .bool r.1.far] 26)).alloc (.cells #[.int .i64 0, .int .i64 0, .int .i64 0, .int .i64 0, .int .i64 0, .slice none 0 0, .int .i64 0, .bool false] 26)) := below_two _ _
  have hq1 : ((w.alloc (.cells #[.int .i64 r.1.area, .int .i64 r.1.kind, .int .i64 r.1.owner, .int .i64 r.1.key, .int .i64 r.1.seq, .slice ra r.1.near.length rc, .int .i64 r.1.cost, .bool r.1.far] 26)).alloc (.cells #[.int .i64 0, .int .i64 0, .int .i64 0, .int .i64 0, .int .i64 0, .slice none 0 0, .int .i64 0, .bool false] 26)).heap[w.heap.size + 1]? = some (.cells #[.int .i64 0, .int .i64 0, .int .i64 0, .int .i64 0, .int .i64 0, .slice none 0 0, .int .i64 0, .bool false] 26) := by
    have e := heap_alloc_new (w.alloc (.cells #[.int .i64 r.1.area, .int .i64 r.1.kind, .int .i64 r.1.owner, .int .i64 r.1.key, .int .i64 r.1.seq, .slice ra r.1.near.length rc, .int .i64 r.1.cost, .bool r.1.far] 26)) (.cells #[.int .i64 0, .int .i64 0, .int .i64 0, .int .i64 0, .int .i64 0, .slice none 0 0, .int .i64 0, .bool false] 26)
    simpa using e
  have hq0 : ((w.alloc (.cells #[.int .i64 r.1.area, .int .i64 r.1.kind, .int .i64 r.1.owner, .int .i64 r.1.key, .int .i64 r.1.seq, .slice ra r.1.near.length rc, .int .i64 r.1.cost, .bool r.1.far] 26)).alloc (.cells #[.int .i64 0, .int .i64 0, .int .i64 0, .int .i64 0, .int .i64 0, .slice none 0 0, .int .i64 0, .bool false] 26)).heap[w.heap.size]? = some (.cells #[.int .i64 r.1.area, .int .i64 r.1.kind, .int .i64 r.1.owner, .int .i64 r.1.key, .int .i64 r.1.seq, .slice ra r.1.near.length rc, .int .i64 r.1.cost, .bool r.1.far] 26) := by rw [Below.heap_alloc _ _ _ (by simp), heap_alloc_new]
  obtain ⟨wx, hwx⟩ : ∃ wx, wx = (w.alloc (.cells #[.int .i64 r.1.area, .int .i64 r.1.kind, .int .i64 r.1.owner, .int .i64 r.1.key, .int .i64 r.1.seq, .slice ra r.1.near.length rc, .int .i64 r.1.cost, .bool r.1.far] 26)).alloc (.cells #[.int .i64 0, .int .i64 0, .int .i64 0, .int .i64 0, .int .i64 0, .slice none 0 0, .int .i64 0, .bool false] 26) := ⟨_, rfl⟩
  rw [← hwx] at BX hq1 hq0
  have hsx : w.heap.size + 1 < wx.heap.size := lt_of_heap hq1
  have HAT := hide (fun W (hb : Below w.heap.size w W) => place_any (.slice a1 ps.length c1) ps lo hi r.1 W (hv.below hb hhi) (by have := hb.size; omega) hn)
  unfold keyV at HAT
  have HKEY := hide (fun W => keyOf_raw r.1.area r.1.kind r.1.owner r.1.key r.1.seq (.slice ra r.1.near.length rc) r.1.cost r.1.far W)
  have HV := hide hv
  rw [hrn]
  clear hv hr hrn
  unfold recC
  unfold recC at *
  rcases atZ_cases (fsts ps) r.1 with hz | ⟨j, y, hz, hy, _⟩
  · obtain ⟨e1, e2⟩ := find_none hz
    rw [e1, e2]
    rw [hz] at HAT
    rw [show plV (-1) = .tuple #[.int .i64 0, .bool false] from rfl] at HAT
    clear hz e1 e2
    go_enter Try.func37, Try.ntmps37
    go_wp2_with fail
    rw [← hwx]
    refine (HKEY.out _).mono ?_
    rintro e wk ⟨rfl, bk⟩
    have BK : Below w.heap.size w wk := BX.trans (bk.mono (by omega))
    have bks := bk.size
    have hzk := (bk.block _ hsx).trans hq1
    clear hwx bk hq1 hq0
    go_wp2_with fail
    refine (HAT.out _ BK).mono ?_
    rintro e w1 ⟨rfl, b1⟩
    have B1 : Below w.heap.size w w1 := BK.trans (b1.mono (by omega))
    have b1s := b1.size
    have hz1 := (b1.block _ (lt_of_heap hzk)).trans hzk
    clear b1 hzk HAT HKEY
    have u0 := cells_at hz1 0
    have u1 := cells_at hz1 1
    have u2 := cells_at hz1 2
    have u3 := cells_at hz1 3
    have u4 := cells_at hz1 4
    have u5 := cells_at hz1 5
    have u6 := cells_at hz1 6
    have u7 := cells_at hz1 7
    simp at u0 u1 u2 u3 u4 u5 u6 u7
    have fu := frozen_at hz1
    have FF := hide (fin85 zeroRD (.slice none 0 0) hz1)
    have G8 := hide (grown85 w1 (w.heap.size + 1) zeroRD (.slice none 0 0))
    have hzl := lt_of_heap hz1
    clear hz1
    go_wp2_with fail
    (try simp only [Exit.inBlock, Exit.then])
    refine bodyPost_ret (results_cell_row_tmp5 rfl _ _ (w.heap.size + 1) 26 (recC zeroRD (.slice none 0 0)) (0, 0) _ rfl FF.out Try.underlying26 rfl (by kernel_rfl)) rfl ?_
    exact ⟨.slice none 0 0, rfl, World.ownsRow_nil _ _ _ _, B1.grown G8.out (by omega) (fun k hk => by simp at hk; omega)⟩
  · obtain ⟨e1, e2⟩ := find_at hz hy
    rw [e1, e2]
    obtain ⟨t, htj, hty⟩ := fsts_some5 hy
    have hjl : j < ps.length := (List.getElem?_eq_some_iff.1 htj).1
    have hji : (0 : Int) ≤ (j : Int) := by omega
    have hjj : (j : Int) < (ps.length : Int) := by omega
    have hj0 : ¬ (j : Int) < 0 := by omega
    rw [hz] at HAT
    rw [show plV (j : Int) = .tuple #[.int .i64 (j : Int), .bool true] from by unfold plV; rw [if_neg (by omega)]] at HAT
    obtain ⟨b, off, cp, hve, hbb, c0, c1, c2, c3, c4, c5, c6, c7, _⟩ := HV.out.at.cells j t htj
    cases hve
    have hbw : b < w.heap.size := by omega
    have hno := HV.out.nears t (List.mem_of_getElem? htj)
    obtain ⟨pa, pc, hpn⟩ := owns_lenS hno.1
    have HCP := hide (fun W (hb : Below w.heap.size w W) => ownRec_any t.1 t.2 lo W (owns_below hno.1 hb (Nat.le_refl _)) (by have := tot_mem (List.mem_of_getElem? htj); omega))
    unfold recC at HCP
    rw [hpn] at c5 HCP
    subst hty
    clear hz hy htj e1 e2 hno hpn
    go_enter Try.func37, Try.ntmps37
    go_wp2_with fail
    rw [← hwx]
    refine (HKEY.out _).mono ?_
    rintro e wk ⟨rfl, bk⟩
    have BK : Below w.heap.size w wk := BX.trans (bk.mono (by omega))
    have bks := bk.size
    have hzk := (bk.block _ hsx).trans hq1
    clear hwx bk hq1 hq0
    go_wp2_with fail
    refine (HAT.out _ BK).mono ?_
    rintro e w1 ⟨rfl, b1⟩
    have B1 : Below w.heap.size w w1 := BK.trans (b1.mono (by omega))
    have b1s := b1.size
    have hz1 := (b1.block _ (lt_of_heap hzk)).trans hzk
    clear b1 hzk HAT HKEY
    rw [← B1.cell (p := ⟨b, off + j * 8, none⟩) hbw] at c0
    rw [← B1.cell (p := ⟨b, off + j * 8 + 1, none⟩) hbw] at c1
    rw [← B1.cell (p := ⟨b, off + j * 8 + 2, none⟩) hbw] at c2
    rw [← B1.cell (p := ⟨b, off + j * 8 + 3, none⟩) hbw] at c3
    rw [← B1.cell (p := ⟨b, off + j * 8 + 4, none⟩) hbw] at c4
    rw [← B1.cell (p := ⟨b, off + j * 8 + 5, none⟩) hbw] at c5
    rw [← B1.cell (p := ⟨b, off + j * 8 + 6, none⟩) hbw] at c6
    rw [← B1.cell (p := ⟨b, off + j * 8 + 7, none⟩) hbw] at c7
    have Z1 := hide hz1
    clear hz1
    go_wp2_with fail
    refine (HCP.out _ B1).mono ?_
    rintro e w2 ⟨v1, rfl, hn2, b2⟩
    obtain ⟨n1a, n1c, rfl⟩ := owns_lenS hn2
    have hz2 := (b2.block _ (lt_of_heap Z1.out)).trans Z1.out
    have b2s := b2.size
    have hzl := lt_of_heap Z1.out
    have u0 := cells_at hz2 0
    have u1 := cells_at hz2 1
    have u2 := cells_at hz2 2
    have u3 := cells_at hz2 3
    have u4 := cells_at hz2 4
    have u5 := cells_at hz2 5
    have u6 := cells_at hz2 6
    have u7 := cells_at hz2 7
    simp at u0 u1 u2 u3 u4 u5 u6 u7
    have fu := frozen_at hz2
    have FF := hide (fin85 t.1 (.slice n1a t.1.near.length n1c) hz2)
    have G8 := grown85 w2 (w.heap.size + 1) t.1 (.slice n1a t.1.near.length n1c)
    have O3 := hide (owns_baseS (b0 := w.heap.size) (hn2.kept G8 (by
      cases hv : (Value.slice n1a t.1.near.length n1c).ownBlock with
      | none => exact .inl rfl
      | some g => exact .inr (fun e => by have := (hn2.lt g hv).1; simp at e; omega))) (by omega))
    have B2 : Below w.heap.size w w2 := B1.trans (b2.mono (by omega))
    have BF := hide (B2.grown G8 (by omega) (fun k hk => by simp at hk; omega))
    clear hz2 hn2 b2 Z1 G8
    go_wp2_with fail
    (try simp only [Exit.inBlock, Exit.then])
    refine bodyPost_ret (results_cell_row_tmp5 rfl _ _ (w.heap.size + 1) 26 (recC t.1 (.slice n1a t.1.near.length n1c)) (0, 0) _ rfl FF.out Try.underlying26 rfl (by kernel_rfl)) rfl ?_
    exact ⟨_, rfl, O3.out, BF.out⟩

end Go.Proofs.Ytmpfjlkncpckgaa
