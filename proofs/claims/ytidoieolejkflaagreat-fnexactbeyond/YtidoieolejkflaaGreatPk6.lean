/-
  spec.Find, impl.Find: their contracts.
  spec.l06Node, l06Tells: their contracts.
  Rows of ints that a call made.
  laws.eqIntS, markIntS, heldIntS, toIntS, szIntS: their contracts (IntRow2 without nets).
-/
import Derived.Test.YtidoieolejkflaaGreatPk5
import Derived.Test.YtidoieolejkflaaGreatPk1
import Derived.Deep.QuietTactic
import Derived.BigQuiet
import Derived.WalkSmall
namespace Go.Proofs.YtidoieolejkflaaGreat
open Go.RowKit

set_option linter.unusedSimpArgs false

theorem results_cell_row_tmp5 {P : Program} {fn : Func} {p u : Tmp} {ty : TypeId} (h : fn.results = #[.cell p ty, .tmp u]) (tmps : Array Value) (w : World) (g : Nat) (t : TypeId) (cs : Array Value) (fr : Nat × Nat) (d : TypeDesc)
    (hp : tmps.getD p undef = .pointer (some ⟨g, 0, none⟩)) (hg : w.heap[g]? = some (.cells cs t fr))
    (hu : P.underlying ty = some d) (hd : (match d with | .struct _ | .array _ _ => true | _ => false) = true) (hi : (P.info? ty).map (·.size) = some cs.size) :
    (results fn tmps).run P w = .ok (.tuple #[.agg cs, tmps.getD u undef]) w := by
  have hp' : tmps[p]?.getD undef = .pointer (some ⟨g, 0, none⟩) := by simpa using hp
  rw [results_cell_tmp h]
  simp [hp', asAddr, run_loadVar_row w g t ty cs fr d hg hu hd hi]

/-- the one with the key, and whether there is one -/
def findD (xs : List RecD) (r : RecD) : RecD := if atZ xs r < 0 then zeroRD else xs.getD (atZ xs r).toNat zeroRD

def findB (xs : List RecD) (r : RecD) : Bool := !decide (atZ xs r < 0)

theorem find_none {xs : List RecD} {r : RecD} (h : atZ xs r = -1) : findD xs r = zeroRD ∧ findB xs r = false := by unfold findD findB; rw [h]; exact ⟨rfl, rfl⟩

theorem find_at {xs : List RecD} {r y : RecD} {k : Nat} (h : atZ xs r = (k : Int)) (hy : xs[k]? = some y) : findD xs r = y ∧ findB xs r = true := by
  unfold findD findB
  rw [h, if_neg (by omega)]
  exact ⟨by simp [hy], by simp⟩

theorem fsts_some5 {ps : List RP} {k : Nat} {y : RecD} (h : (fsts ps)[k]? = some y) : ∃ p, ps[k]? = some p ∧ p.1 = y := by
  simp [fsts] at h
  obtain ⟨v, hv⟩ := h
  exact ⟨(y, v), hv, rfl⟩

set_option maxRecDepth 100000 in
set_option maxHeartbeats 4000000 in
theorem sfind_any (v : Value) (ps : List RP) (lo hi : Nat) (r : RP) (rlo : Nat) (w : World) (hv : RecsOwn w lo hi v ps) (hhi : hi ≤ w.heap.size) (hn : tot ps ≤ 1048576) (hr : w.ownsRow rlo 87 2 r.2 r.1.near.length (flat nrE r.1.near)) :
    Calls Tryz.prog 40 #[v, .agg (recC r.1 r.2)] w fun e w' => ∃ u, e = .returned (.tuple #[.agg (recC (findD (fsts ps) r.1) u), .bool (findB (fsts ps) r.1)]) ∧ w'.ownsRow w.heap.size 87 2 u (findD (fsts ps) r.1).near.length (flat nrE (findD (fsts ps) r.1).near) ∧ Below w.heap.size w w' := by
  have hnl := tot_len ps
  obtain ⟨a1, c1, rfl⟩ := owns_lenS hv.row
  obtain ⟨ra, rc, hrn⟩ := owns_lenS hr
  have BX : Below w.heap.size w ((w.alloc (.cells #[.int .i64 r.1.area, .int .i64 r.1.kind, .int .i64 r.1.owner, .int .i64 r.1.key, .int .i64 r.1.seq, .slice ra r.1.near.length rc, .int .i64 r.1.cost, .bool r.1.far] 71)).alloc (.cells #[.int .i64 0, .int .i64 0, .int .i64 0, .int .i64 0, .int .i64 0, .slice none 0 0, .int .i64 0, .bool false] 71)) := below_two _ _
  have hq1 : ((w.alloc (.cells #[.int .i64 r.1.area, .int .i64 r.1.kind, .int .i64 r.1.owner, .int .i64 r.1.key, .int .i64 r.1.seq, .slice ra r.1.near.length rc, .int .i64 r.1.cost, .bool r.1.far] 71)).alloc (.cells #[.int .i64 0, .int .i64 0, .int .i64 0, .int .i64 0, .int .i64 0, .slice none 0 0, .int .i64 0, .bool false] 71)).heap[w.heap.size + 1]? = some (.cells #[.int .i64 0, .int .i64 0, .int .i64 0, .int .i64 0, .int .i64 0, .slice none 0 0, .int .i64 0, .bool false] 71) := by
    have e := heap_alloc_new (w.alloc (.cells #[.int .i64 r.1.area, .int .i64 r.1.kind, .int .i64 r.1.owner, .int .i64 r.1.key, .int .i64 r.1.seq, .slice ra r.1.near.length rc, .int .i64 r.1.cost, .bool r.1.far] 71)) (.cells #[.int .i64 0, .int .i64 0, .int .i64 0, .int .i64 0, .int .i64 0, .slice none 0 0, .int .i64 0, .bool false] 71)
    simpa using e
  have hq0 : ((w.alloc (.cells #[.int .i64 r.1.area, .int .i64 r.1.kind, .int .i64 r.1.owner, .int .i64 r.1.key, .int .i64 r.1.seq, .slice ra r.1.near.length rc, .int .i64 r.1.cost, .bool r.1.far] 71)).alloc (.cells #[.int .i64 0, .int .i64 0, .int .i64 0, .int .i64 0, .int .i64 0, .slice none 0 0, .int .i64 0, .bool false] 71)).heap[w.heap.size]? = some (.cells #[.int .i64 r.1.area, .int .i64 r.1.kind, .int .i64 r.1.owner, .int .i64 r.1.key, .int .i64 r.1.seq, .slice ra r.1.near.length rc, .int .i64 r.1.cost, .bool r.1.far] 71) := by rw [Below.heap_alloc _ _ _ (by simp), heap_alloc_new]
  obtain ⟨wx, hwx⟩ : ∃ wx, wx = (w.alloc (.cells #[.int .i64 r.1.area, .int .i64 r.1.kind, .int .i64 r.1.owner, .int .i64 r.1.key, .int .i64 r.1.seq, .slice ra r.1.near.length rc, .int .i64 r.1.cost, .bool r.1.far] 71)).alloc (.cells #[.int .i64 0, .int .i64 0, .int .i64 0, .int .i64 0, .int .i64 0, .slice none 0 0, .int .i64 0, .bool false] 71) := ⟨_, rfl⟩
  rw [← hwx] at BX hq1 hq0
  have hsx : w.heap.size + 1 < wx.heap.size := lt_of_heap hq1
  have HAT := hide (sat_any (.slice a1 ps.length c1) ps lo hi r wx (hv.below BX hhi) (by omega) hn)
  unfold recC at HAT
  rw [hrn] at HAT
  have HV := hide hv
  rw [hrn]
  clear hv hr hrn
  unfold recC
  unfold recC at *
  rcases atZ_cases (fsts ps) r.1 with hz | ⟨j, y, hz, hy, _⟩
  · obtain ⟨e1, e2⟩ := find_none hz
    rw [e1, e2]
    rw [hz] at HAT
    clear hz e1 e2
    go_enter Tryz.func40, Tryz.ntmps40
    go_wp2_with fail
    rw [← hwx]
    refine HAT.out.mono ?_
    rintro e w1 ⟨rfl, b1⟩
    have B1 : Below w.heap.size w w1 := BX.trans (b1.mono (by omega))
    have b1s := b1.size
    have hz1 := (b1.block _ hsx).trans hq1
    clear hwx b1 hq1 hq0 HAT
    have u0 := cells_at hz1 0
    have u1 := cells_at hz1 1
    have u2 := cells_at hz1 2
    have u3 := cells_at hz1 3
    have u4 := cells_at hz1 4
    have u5 := cells_at hz1 5
    have u6 := cells_at hz1 6
    have u7 := cells_at hz1 7
    simp at u0 u1 u2 u3 u4 u5 u6 u7
    have fu := frozen_at hz1
    have FF := hide (fin85 zeroRD (.slice none 0 0) hz1)
    have G8 := hide (grown85 w1 (w.heap.size + 1) zeroRD (.slice none 0 0))
    have hzl := lt_of_heap hz1
    clear hz1
    go_wp2_with fail
    (try simp only [Exit.inBlock, Exit.then])
    refine bodyPost_ret (results_cell_row_tmp5 rfl _ _ (w.heap.size + 1) 71 (recC zeroRD (.slice none 0 0)) (0, 0) _ rfl FF.out Tryz.underlying71 rfl (by kernel_rfl)) rfl ?_
    exact ⟨.slice none 0 0, rfl, World.ownsRow_nil _ _ _ _, B1.grown G8.out (by omega) (fun k hk => by simp at hk; omega)⟩
  · obtain ⟨e1, e2⟩ := find_at hz hy
    rw [e1, e2]
    obtain ⟨t, htj, hty⟩ := fsts_some5 hy
    have hjl : j < ps.length := (List.getElem?_eq_some_iff.1 htj).1
    have hji : (0 : Int) ≤ (j : Int) := by omega
    have hjj : (j : Int) < (ps.length : Int) := by omega
    have hj0 : ¬ (j : Int) < 0 := by omega
    rw [hz] at HAT
    obtain ⟨b, off, cp, hve, hbb, c0, c1, c2, c3, c4, c5, c6, c7, _⟩ := HV.out.at.cells j t htj
    cases hve
    have hbw : b < w.heap.size := by omega
    have hno := HV.out.nears t (List.mem_of_getElem? htj)
    obtain ⟨pa, pc, hpn⟩ := owns_lenS hno.1
    have HCP := hide (fun W (hb : Below w.heap.size w W) => copy5_any t.1 t.2 lo W (owns_below hno.1 hb (Nat.le_refl _)) (by have := tot_mem (List.mem_of_getElem? htj); omega))
    unfold recC at HCP
    rw [hpn] at c5 HCP
    subst hty
    clear hz hy htj e1 e2 hno hpn
    go_enter Tryz.func40, Tryz.ntmps40
    go_wp2_with fail
    rw [← hwx]
    refine HAT.out.mono ?_
    rintro e w1 ⟨rfl, b1⟩
    have B1 : Below w.heap.size w w1 := BX.trans (b1.mono (by omega))
    have b1s := b1.size
    have hz1 := (b1.block _ hsx).trans hq1
    clear hwx b1 hq1 hq0 HAT
    rw [← B1.cell (p := ⟨b, off + j * 8, none⟩) hbw] at c0
    rw [← B1.cell (p := ⟨b, off + j * 8 + 1, none⟩) hbw] at c1
    rw [← B1.cell (p := ⟨b, off + j * 8 + 2, none⟩) hbw] at c2
    rw [← B1.cell (p := ⟨b, off + j * 8 + 3, none⟩) hbw] at c3
    rw [← B1.cell (p := ⟨b, off + j * 8 + 4, none⟩) hbw] at c4
    rw [← B1.cell (p := ⟨b, off + j * 8 + 5, none⟩) hbw] at c5
    rw [← B1.cell (p := ⟨b, off + j * 8 + 6, none⟩) hbw] at c6
    rw [← B1.cell (p := ⟨b, off + j * 8 + 7, none⟩) hbw] at c7
    have Z1 := hide hz1
    clear hz1
    go_wp2_with fail
    refine (HCP.out _ B1).mono ?_
    rintro e w2 ⟨v1, rfl, hn2, b2⟩
    obtain ⟨n1a, n1c, rfl⟩ := owns_lenS hn2
    have hz2 := (b2.block _ (lt_of_heap Z1.out)).trans Z1.out
    have b2s := b2.size
    have hzl := lt_of_heap Z1.out
    have u0 := cells_at hz2 0
    have u1 := cells_at hz2 1
    have u2 := cells_at hz2 2
    have u3 := cells_at hz2 3
    have u4 := cells_at hz2 4
    have u5 := cells_at hz2 5
    have u6 := cells_at hz2 6
    have u7 := cells_at hz2 7
    simp at u0 u1 u2 u3 u4 u5 u6 u7
    have fu := frozen_at hz2
    have FF := hide (fin85 t.1 (.slice n1a t.1.near.length n1c) hz2)
    have G8 := grown85 w2 (w.heap.size + 1) t.1 (.slice n1a t.1.near.length n1c)
    have O3 := hide (owns_baseS (b0 := w.heap.size) (hn2.kept G8 (by
      cases hv : (Value.slice n1a t.1.near.length n1c).ownBlock with
      | none => exact .inl rfl
      | some g => exact .inr (fun e => by have := (hn2.lt g hv).1; simp at e; omega))) (by omega))
    have B2 : Below w.heap.size w w2 := B1.trans (b2.mono (by omega))
    have BF := hide (B2.grown G8 (by omega) (fun k hk => by simp at hk; omega))
    clear hz2 hn2 b2 Z1 G8
    go_wp2_with fail
    (try simp only [Exit.inBlock, Exit.then])
    refine bodyPost_ret (results_cell_row_tmp5 rfl _ _ (w.heap.size + 1) 71 (recC t.1 (.slice n1a t.1.near.length n1c)) (0, 0) _ rfl FF.out Tryz.underlying71 rfl (by kernel_rfl)) rfl ?_
    exact ⟨_, rfl, O3.out, BF.out⟩

end Go.Proofs.YtidoieolejkflaaGreat
namespace Go.Proofs.YtidoieolejkflaaGreat
open Go.RowKit

set_option linter.unusedSimpArgs false

def nodeR (area node : Int) : RecD := ⟨area, 1, node, 0, 0, [], 0, false⟩

/-- a node's record of an area -/
def nodeD (xs : List RecD) (area node : Int) : RecD := findD xs (nodeR area node)

def nodeB (xs : List RecD) (area node : Int) : Bool := findB xs (nodeR area node)

/-- what a list of neighbours tells of b -/
def tellsN (ns : List Nr) (b : Int) : Int := match ns.find? (fun n => n.to == b) with
  | some n => n.c
  | none => 0

def tellsD (xs : List RecD) (area a b : Int) : Int := tellsN (nodeD xs area a).near b

def linkedD (xs : List RecD) (area a b : Int) : Int := if tellsD xs area b a = 0 then 0 else tellsD xs area a b

theorem nears_nil (W : World) (B : Nat) : NearsAt W (.slice none 0 0) [] B := ⟨none, 0, rfl, .inl rfl⟩

set_option maxRecDepth 100000 in
set_option maxHeartbeats 4000000 in
theorem snode_any (v : Value) (ps : List RP) (hi : Nat) (area node : Int) (w : World) (hv : RecsIn w hi v ps) (hhi : hi ≤ w.heap.size) (hn : tot ps ≤ 1048576) :
    Calls Tryz.prog 71 #[v, .int .i64 area, .int .i64 node] w fun e w' => ∃ u, e = .returned (.tuple #[.agg (recC (nodeD (fsts ps) area node) u), .bool (nodeB (fsts ps) area node)]) ∧ NearsAt w' u (nodeD (fsts ps) area node).near hi ∧ (nodeD (fsts ps) area node).near.length ≤ 1048576 ∧ Below w.heap.size w w' := by
  have hnl := tot_len ps
  obtain ⟨a1, c1, rfl⟩ := owns_lenS hv.row
  have BX : Below w.heap.size w (w.alloc (.cells #[.int .i64 0, .int .i64 0, .int .i64 0, .int .i64 0, .int .i64 0, .slice none 0 0, .int .i64 0, .bool false] 71)) := (Below.refl _ _).alloc (Nat.le_refl _) _
  have hq := heap_alloc_new w (.cells #[.int .i64 0, .int .i64 0, .int .i64 0, .int .i64 0, .int .i64 0, .slice none 0 0, .int .i64 0, .bool false] 71)
  obtain ⟨w0, hw0⟩ : ∃ W, W = w.alloc (.cells #[.int .i64 0, .int .i64 0, .int .i64 0, .int .i64 0, .int .i64 0, .slice none 0 0, .int .i64 0, .bool false] 71) := ⟨_, rfl⟩
  rw [← hw0] at BX hq
  have hs0 := lt_of_heap hq
  have HAT := hide (satI_any (.slice a1 ps.length c1) ps hi (nodeR area node, .slice none 0 0) w0 (hv.below BX hhi) (by have := BX.size; omega) hn)
  unfold recC nodeR at HAT
  simp only [] at HAT
  have HV := hide hv
  clear hv
  unfold nodeD nodeB
  obtain ⟨nr, hnr⟩ : ∃ r, r = nodeR area node := ⟨_, rfl⟩
  rw [show (⟨area, 1, node, 0, 0, [], 0, false⟩ : RecD) = nr from hnr.symm] at HAT
  rw [← hnr]
  clear hnr
  rcases atZ_cases (fsts ps) nr with hz | ⟨j, y, hz, hy, _⟩
  · obtain ⟨e1, e2⟩ := find_none hz
    rw [e1, e2]
    rw [hz] at HAT
    clear hz e1 e2
    unfold recC
    go_enter Tryz.func71, Tryz.ntmps71
    go_wp2_with fail
    rw [← hw0]
    clear hw0
    refine HAT.out.mono ?_
    rintro e w1 ⟨rfl, b1⟩
    have B1 : Below w.heap.size w w1 := BX.trans (b1.mono BX.size)
    have hz1 := (b1.block _ hs0).trans hq
    clear b1 hq HAT
    have u0 := cells_at hz1 0
    have u1 := cells_at hz1 1
    have u2 := cells_at hz1 2
    have u3 := cells_at hz1 3
    have u4 := cells_at hz1 4
    have u5 := cells_at hz1 5
    have u6 := cells_at hz1 6
    have u7 := cells_at hz1 7
    simp at u0 u1 u2 u3 u4 u5 u6 u7
    have fu := frozen_at hz1
    have FF := hide (fin85 zeroRD (.slice none 0 0) hz1)
    have G8 := hide (grown85 w1 w.heap.size zeroRD (.slice none 0 0))
    clear hz1
    go_wp2_with fail
    (try simp only [Exit.inBlock, Exit.then])
    refine bodyPost_ret (results_cell_row_tmp5 rfl _ _ w.heap.size 71 (recC zeroRD (.slice none 0 0)) (0, 0) _ rfl FF.out Tryz.underlying71 rfl (by kernel_rfl)) rfl ?_
    exact ⟨.slice none 0 0, rfl, nears_nil _ _, (by simp [zeroRD]), B1.grown G8.out B1.size (fun k hk => by simp at hk; omega)⟩
  · obtain ⟨e1, e2⟩ := find_at hz hy
    rw [e1, e2]
    obtain ⟨t, htj, hty⟩ := fsts_some5 hy
    have hjl : j < ps.length := (List.getElem?_eq_some_iff.1 htj).1
    have hji : (0 : Int) ≤ (j : Int) := by omega
    have hjj : (j : Int) < (ps.length : Int) := by omega
    have hj0 : ¬ (j : Int) < 0 := by omega
    rw [hz] at HAT
    obtain ⟨b, off, cp, hve, hbb, c0, c1, c2, c3, c4, c5, c6, c7, hnr⟩ := HV.out.at.cells j t htj
    cases hve
    have hbw : b < w.heap.size := by omega
    obtain ⟨pa, pc, hpn⟩ := NearsAt.shape hnr
    rw [hpn] at c5 hnr
    have HNL := hide (show t.1.near.length ≤ 1048576 by have := tot_mem (List.mem_of_getElem? htj); omega)
    have HNR := hide hnr
    subst hty
    clear hz hy htj e1 e2 hpn hnr
    unfold recC
    go_enter Tryz.func71, Tryz.ntmps71
    go_wp2_with fail
    rw [← hw0]
    clear hw0
    refine HAT.out.mono ?_
    rintro e w1 ⟨rfl, b1⟩
    have B1 : Below w.heap.size w w1 := BX.trans (b1.mono BX.size)
    have hz1 := (b1.block _ hs0).trans hq
    clear b1 hq HAT
    rw [← B1.cell (p := ⟨b, off + j * 8, none⟩) hbw] at c0
    rw [← B1.cell (p := ⟨b, off + j * 8 + 1, none⟩) hbw] at c1
    rw [← B1.cell (p := ⟨b, off + j * 8 + 2, none⟩) hbw] at c2
    rw [← B1.cell (p := ⟨b, off + j * 8 + 3, none⟩) hbw] at c3
    rw [← B1.cell (p := ⟨b, off + j * 8 + 4, none⟩) hbw] at c4
    rw [← B1.cell (p := ⟨b, off + j * 8 + 5, none⟩) hbw] at c5
    rw [← B1.cell (p := ⟨b, off + j * 8 + 6, none⟩) hbw] at c6
    rw [← B1.cell (p := ⟨b, off + j * 8 + 7, none⟩) hbw] at c7
    obtain ⟨z, hzz⟩ : ∃ z, z = w.heap.size := ⟨_, rfl⟩
    rw [← hzz] at hz1 ⊢
    have HZ := hide hzz
    clear hzz
    have u0 := cells_at hz1 0
    have u1 := cells_at hz1 1
    have u2 := cells_at hz1 2
    have u3 := cells_at hz1 3
    have u4 := cells_at hz1 4
    have u5 := cells_at hz1 5
    have u6 := cells_at hz1 6
    have u7 := cells_at hz1 7
    simp at u0 u1 u2 u3 u4 u5 u6 u7
    have fu := frozen_at hz1
    have HZ1 := hide hz1
    have FIN : ∀ W, W = putR5 w1 z t.1 (.slice pa t.1.near.length pc) → NearsAt W (.slice pa t.1.near.length pc) t.1.near hi ∧ Below w.heap.size w W := by
      intro W hW
      have G8 := grown85 w1 z t.1 (.slice pa t.1.near.length pc)
      rw [← hW] at G8
      have BF : Below w.heap.size w W := B1.grown G8 B1.size (fun k hk => by have := HZ.out; simp at hk; omega)
      exact ⟨RowAt.later HNR.out BF hhi, BF⟩
    have HFIN := hide FIN
    clear hz1 FIN HNR B1 HV BX hs0 hjl hbb hbw
    go_wp2_with fail
    (try simp only [Exit.inBlock, Exit.then])
    refine bodyPost_ret (results_cell_row_tmp5 rfl _ _ z 71 (recC t.1 (.slice pa t.1.near.length pc)) (0, 0) _ rfl (fin85 t.1 (.slice pa t.1.near.length pc) HZ1.out) Tryz.underlying71 rfl (by kernel_rfl)) rfl ?_
    obtain ⟨W5, hW5⟩ : ∃ W, W = putR5 w1 z t.1 (.slice pa t.1.near.length pc) := ⟨_, rfl⟩
    have h := HFIN.out W5 hW5
    subst hW5
    exact ⟨_, rfl, h.1, HNL.out, h.2⟩

theorem tells_hit {ns : List Nr} {k : Nat} {n : Nr} {b : Int} (h : ns[k]? = some n) (hno : ∀ q ∈ ns.take k, q.to ≠ b) (hb : n.to = b) : tellsN ns b = n.c := by
  have e : ns.find? (fun x => x.to == b) = some n := by
    obtain ⟨hk, e1⟩ := List.getElem?_eq_some_iff.1 h
    rw [List.find?_eq_some_iff_append]
    refine ⟨by simpa using hb, ns.take k, ns.drop (k + 1), ?_, ?_⟩
    · rw [← e1, ← List.drop_eq_getElem_cons hk, List.take_append_drop]
    · intro x hx
      simpa using hno x hx
  unfold tellsN
  rw [e]

theorem tells_none {ns : List Nr} {b : Int} (hno : ∀ q ∈ ns, q.to ≠ b) : tellsN ns b = 0 := by
  have e : ns.find? (fun x => x.to == b) = none := by
    rw [List.find?_eq_none]
    intro x hx
    simpa using hno x hx
  unfold tellsN
  rw [e]

theorem take_allN {ns : List Nr} {k : Nat} {n : Nr} {b : Int} (h : ns[k]? = some n) (hno : ∀ q ∈ ns.take k, q.to ≠ b) (hz : n.to ≠ b) : ∀ q ∈ ns.take (k + 1), q.to ≠ b := by
  obtain ⟨hk, e⟩ := List.getElem?_eq_some_iff.1 h
  rw [List.take_succ_eq_append_getElem hk, e]
  intro q hq
  rcases List.mem_append.1 hq with h1 | h1
  · exact hno q h1
  · have : q = n := by simpa using h1
    subst this
    exact hz

set_option maxRecDepth 100000 in
set_option maxHeartbeats 4000000 in
theorem stells_any (v : Value) (ps : List RP) (hi : Nat) (area a b : Int) (w : World) (hv : RecsIn w hi v ps) (hhi : hi ≤ w.heap.size) (hn : tot ps ≤ 1048576) :
    Calls Tryz.prog 94 #[v, .int .i64 area, .int .i64 a, .int .i64 b] w fun e w' => e = .returned (.int .i64 (tellsD (fsts ps) area a b)) ∧ Below w.heap.size w w' := by
  have HNO := hide (snode_any v ps hi area a w hv hhi hn)
  obtain ⟨a1, c1, rfl⟩ := owns_lenS hv.row
  clear hv
  unfold tellsD
  obtain ⟨D, hD⟩ : ∃ D, D = nodeD (fsts ps) area a := ⟨_, rfl⟩
  rw [← hD] at HNO
  rw [← hD]
  clear hD
  obtain ⟨X, hX⟩ : ∃ X, X = tellsN D.near b := ⟨_, rfl⟩
  rw [← hX]
  have HX := hide hX
  clear hX
  unfold recC at HNO
  go_enter Tryz.func94, Tryz.ntmps94
  go_wp2_with fail
  refine HNO.out.mono ?_
  rintro e w1 ⟨u, rfl, hu, hul, b1⟩
  obtain ⟨ua, uc, rfl⟩ := NearsAt.shape hu
  have hx := heap_alloc_new w1 (.cells #[.int .i64 D.area, .int .i64 D.kind, .int .i64 D.owner, .int .i64 D.key, .int .i64 D.seq, .slice ua D.near.length uc, .int .i64 D.cost, .bool D.far] 71)
  have BX : Below w1.heap.size w1 (w1.alloc (.cells #[.int .i64 D.area, .int .i64 D.kind, .int .i64 D.owner, .int .i64 D.key, .int .i64 D.seq, .slice ua D.near.length uc, .int .i64 D.cost, .bool D.far] 71)) := (Below.refl _ _).alloc (Nat.le_refl _) _
  obtain ⟨w2, hw2⟩ : ∃ W, W = w1.alloc (.cells #[.int .i64 D.area, .int .i64 D.kind, .int .i64 D.owner, .int .i64 D.key, .int .i64 D.seq, .slice ua D.near.length uc, .int .i64 D.cost, .bool D.far] 71) := ⟨_, rfl⟩
  rw [← hw2] at hx BX
  have B2 : Below w.heap.size w w2 := b1.trans (BX.mono b1.size)
  have HU : Hid (NearsAt w2 (.slice ua D.near.length uc) D.near w2.heap.size) := hide ((RowAt.later hu BX (Nat.le_trans hhi b1.size)).more (Nat.le_trans hhi B2.size))
  have hs2 := lt_of_heap hx
  have HXX := hide hx
  clear hu hx
  go_wp2
  rw [← hw2]
  clear hw2
  go_loopw [11] (fun i wr => ∃ k : Nat, k ≤ D.near.length ∧ i = .int .i64 k ∧ Hid (∀ q ∈ D.near.take k, q.to ≠ b) ∧ Below w2.heap.size w2 wr) (fun i _ => D.near.length - (intOf i).toNat)
  case atStart => exact ⟨0, by omega, rfl, hide (by simp), Below.refl _ _⟩
  case round =>
    obtain ⟨k, hk, rfl, HNN, hnx⟩ := hrel
    have hx2 := (hnx.block _ hs2).trans HXX.out
    have d5 := cells_at hx2 5
    simp at d5
    clear hx2
    have BWR : Below w.heap.size w wr := B2.trans (hnx.mono B2.size)
    by_cases hlt : k < D.near.length
    · obtain ⟨n, hnk⟩ : ∃ n, D.near[k]? = some n := ⟨D.near[k], List.getElem?_eq_getElem hlt⟩
      obtain ⟨g, off, cap', hve, hbb, c0, c1⟩ := HU.out.cells k n hnk
      cases hve
      rw [← hnx.cell (p := ⟨g, off + k * 2, none⟩) hbb] at c0
      rw [← hnx.cell (p := ⟨g, off + k * 2 + 1, none⟩) hbb] at c1
      have hki : (0 : Int) ≤ (k : Int) := by omega
      have hkj : (k : Int) < (D.near.length : Int) := by omega
      by_cases hzz : n.to = b
      · have HF := hide (HX.out.trans (tells_hit hnk HNN.out hzz))
        rw [hzz] at c0
        clear hnk hzz
        go_wp2
        go_ret
        exact ⟨by rw [HF.out]; rfl, BWR⟩
      · have HN := hide (take_allN hnk HNN.out hzz)
        have hd : (n.to == b) = false := by simpa using hzz
        clear hnk
        go_wp2
        go_roundw
        case rel => exact ⟨k + 1, by omega, by go_num, HN, hnx⟩
        case measure => simp [intOf]; omega
    · have HF := hide (HX.out.trans (tells_none (by have h := HNN.out; rw [List.take_of_length_le (by omega)] at h; exact h)))
      go_wp2
      go_ret
      exact ⟨by rw [HF.out]; rfl, BWR⟩
end Go.Proofs.YtidoieolejkflaaGreat
namespace Go.Proofs.YtidoieolejkflaaGreat
open Go.RowKit

def intsOf (l : List Int) : List Value := l.map fun z => Value.int .i64 z

theorem intsOf_length (l : List Int) : (intsOf l).length = l.length := by simp [intsOf]

theorem intsOf_append (a b : List Int) : intsOf (a ++ b) = intsOf a ++ intsOf b := by simp [intsOf]

theorem Tryz.info3 : (Tryz.prog.info? 3).map (fun i => (i.zero, i.size, i.bytes)) = some (some (.int .i64 0), 1, 8) := by kernel_rfl

/-- 'append(out, z)' of an int, out a row that the call itself made. -/
theorem wpList_append_int {P : Program} (w : World) {ops : Array Oper} {rest : List Oper} {o : Oper} {a : Act} {Q : Exit → Act → World → Prop} (hgd : o.guard = none) (s x : Operand) (t : TypeId)
    (ho : o.op = .call { callee := .builtin .append, args := #[s, x], argTypes := #[t, t] }) (base : Nat) (e : TypeId) (ht : P.underlying t = some (.slice e))
    (hinfo : (P.info? e).map (fun i => (i.zero, i.size, i.bytes)) = some (some (.int .i64 0), 1, 8))
    (v : Value) (l : List Int) (z : Int) (hs : a.eval s = v) (hown : w.ownsRow base e 1 v l.length (intsOf l))
    (ad : Addr) (c : Nat) (hx : a.eval x = .slice (some ad) 1 c) (hnews : w.cell? (ad.add 0) = some (.int .i64 z))
    (hlen : l.length + 1 ≤ 1000000000) (hbase : base ≤ w.heap.size)
    (h : ∀ v' w' l', Hid (l' = l ++ [z]) → w'.ownsRow base e 1 v' l'.length (intsOf l') → w.grownBy w' v.ownBlock → wpList P ops Q rest (a.put o.dst v') w') : wpList P ops Q (o :: rest) a w := by
  obtain ⟨i0, hi, hz0, hz1, hz2⟩ := info_parts hinfo
  refine wpList_append_own w hgd s x t ho base e i0 (.int .i64 0) 1 8 ht hi hz0 hz1 hz2 rfl (by decide) v l.length (intsOf l) hs hown ad 1 c (intsOf [z]) hx (by simp [intsOf]) ?_ ?_ (by unfold maxLen; omega) (by omega) hbase ?_
  · intro j u hj
    have hj' : j = 0 := by have := (List.getElem?_eq_some_iff.1 hj).1; simp [intsOf] at this; omega
    subst hj'
    rw [hnews]
    simpa [intsOf] using hj
  · intro u hu
    simp only [intsOf, List.mem_map] at hu
    obtain ⟨b, _, rfl⟩ := hu
    rfl
  · intro v' w' h1 h2 _
    rw [← intsOf_append] at h1
    exact h v' w' (l ++ [z]) rfl (by simpa using h1) h2
end Go.Proofs.YtidoieolejkflaaGreat
namespace Go.Proofs.YtidoieolejkflaaGreat
open Go.RowKit

def intC (zs : List Int) (j : Nat) : Value := .int .i64 (zs.getD j 0)

def IntsAt (W : World) (v : Value) (zs : List Int) (B : Nat) : Prop := RowAt W v zs.length 1 (intC zs) B

theorem ints_of_owns {W : World} {base : Nat} {v : Value} {zs : List Int} (h : W.ownsRow base 3 1 v zs.length (intsOf zs)) : IntsAt W v zs W.heap.size := by
  by_cases h0 : zs.length = 0
  · obtain ⟨a, cap, rfl⟩ := owns_len h
    exact ⟨a, cap, rfl, .inl h0⟩
  · obtain ⟨g, cap, rfl, hg, hl⟩ := owns_shape h (by omega)
    refine ⟨_, cap, rfl, .inr ⟨g, 0, rfl, hl, fun j hj => ?_⟩⟩
    rw [Nat.zero_add, h.cellAt j (by omega)]
    have hj' : j < zs.length := by omega
    simp [intsOf, intC, List.getElem?_eq_getElem hj']

theorem below_drewN {B : Nat} {w wr : World} (h : Below B w wr) (n : Nat) : Below B w (wr.drewN n) := ⟨h.os, h.tape, h.output, h.size, h.block⟩

theorem list_ne_at {xs ys : List Int} {k : Nat} (h : xs.getD k 0 ≠ ys.getD k 0) : ¬ xs = ys := by
  rintro rfl
  exact h rfl

theorem list_eq_all {xs ys : List Int} (hl : xs.length = ys.length) (h : ∀ j, j < xs.length → xs.getD j 0 = ys.getD j 0) : xs = ys := by
  apply List.ext_getElem hl
  intro i h1 h2
  have := h i h1
  simpa [List.getD, List.getElem?_eq_getElem h1, List.getElem?_eq_getElem h2] using this

set_option maxRecDepth 100000 in
set_option maxHeartbeats 1000000 in
theorem eqI_any (v1 v2 : Value) (xs ys : List Int) (w : World) (h1 : IntsAt w v1 xs w.heap.size) (h2 : IntsAt w v2 ys w.heap.size) (hn : xs.length ≤ 1048576) :
    Calls Tryz.prog 31 #[v1, v2] w fun e w' => e = .returned (.bool (decide (xs = ys))) ∧ Below w.heap.size w w' := by
  obtain ⟨a1, c1, rfl, k1⟩ := h1
  obtain ⟨a2, c2, rfl, k2⟩ := h2
  by_cases hl : xs.length = ys.length
  · have K1 := hide k1
    have K2 := hide k2
    clear k1 k2
    go_enter Tryz.func31, Tryz.ntmps31
    go_wp2
    go_loopw [5] (fun i wr => ∃ k : Nat, k ≤ xs.length ∧ i = .int .i64 k ∧ (∀ j, j < k → xs.getD j 0 = ys.getD j 0) ∧ Below w.heap.size w wr) (fun i _ => xs.length - (intOf i).toNat)
    case atStart => exact ⟨0, by omega, rfl, by omega, Below.refl _ _⟩
    case round =>
      obtain ⟨k, hk, rfl, hall, hnx⟩ := hrel
      have HALL := hide hall
      clear hall
      by_cases hlt : k < xs.length
      · obtain ⟨b1, o1, ha1, hb1, d1⟩ : ∃ b1 o1, a1 = some ⟨b1, o1, none⟩ ∧ b1 < w.heap.size ∧ wr.cell? ⟨b1, o1 + k, none⟩ = some (.int .i64 (xs.getD k 0)) := by
          rcases K1.out with h0 | ⟨b, off, ha, hb, hx⟩
          · omega
          · exact ⟨b, off, ha, hb, by rw [hnx.cell (p := ⟨b, off + k, none⟩) hb, hx k (by omega)]; rfl⟩
        obtain ⟨b2, o2, ha2, hb2, d2⟩ : ∃ b2 o2, a2 = some ⟨b2, o2, none⟩ ∧ b2 < w.heap.size ∧ wr.cell? ⟨b2, o2 + k, none⟩ = some (.int .i64 (ys.getD k 0)) := by
          rcases K2.out with h0 | ⟨b, off, ha, hb, hx⟩
          · omega
          · exact ⟨b, off, ha, hb, by rw [hnx.cell (p := ⟨b, off + k, none⟩) hb, hx k (by omega)]; rfl⟩
        subst ha1 ha2
        have hki : (0 : Int) ≤ (k : Int) := by omega
        have hkj : (k : Int) < (xs.length : Int) := by omega
        have hkl : (k : Int) < (ys.length : Int) := by omega
        obtain ⟨x, hx⟩ : ∃ x, x = xs.getD k 0 := ⟨_, rfl⟩
        obtain ⟨y, hy⟩ : ∃ y, y = ys.getD k 0 := ⟨_, rfl⟩
        rw [← hx] at d1
        rw [← hy] at d2
        have HX := hide hx
        have HY := hide hy
        clear hx hy
        by_cases hxy : x = y
        · subst hxy
          go_wp2
          go_quiet (fail)
          go_wp2
          go_roundw
          case rel => exact ⟨k + 1, by omega, by go_num, (fun j hj => by
            by_cases e : j = k
            · subst e; rw [← HX.out, ← HY.out]
            · exact HALL.out j (by omega)), below_drewN hnx _⟩
          case measure => simp [intOf]; omega
        · have hd : (x != y) = true := by simpa using hxy
          go_wp2
          go_quiet (fail)
          go_wp2
          go_ret
          exact ⟨ret_bool_no (list_ne_at (k := k) (by rw [← HX.out, ← HY.out]; exact hxy)), below_drewN hnx _⟩
      · have hkn : k = xs.length := by omega
        have KN := hide hkn
        clear hkn
        go_wp2
        go_ret
        exact ⟨ret_bool_yes (list_eq_all hl (by rw [← KN.out]; exact HALL.out)), hnx⟩
  · clear k1 k2
    have hd : ((xs.length : Int) != (ys.length : Int)) = true := by simp; omega
    go_enter Tryz.func31, Tryz.ntmps31
    go_wp2
    go_ret
    exact ⟨ret_bool_no (fun h => hl (by rw [h])), Below.refl _ _⟩

def marksI (q : Int) : Nat → List Int
  | 0 => []
  | n + 1 => marksI q n ++ [q + (n : Int)]

theorem marksI_length (q : Int) : ∀ n, (marksI q n).length = n
  | 0 => rfl
  | n + 1 => by simp [marksI, marksI_length q n]

def markedI (q : Int) (i : Nat) (xs : List Int) : List Int := marksI q i ++ xs.drop i

theorem markedI_length (q : Int) (i : Nat) (xs : List Int) (h : i ≤ xs.length) : (markedI q i xs).length = xs.length := by simp [markedI, marksI_length]; omega

theorem markedI_step (q : Int) (i : Nat) (xs : List Int) (h : i < xs.length) : (markedI q i xs).set i (q + (i : Int)) = markedI q (i + 1) xs := by
  unfold markedI
  rw [marksI, List.set_append_right _ _ (by rw [marksI_length]; omega), marksI_length, Nat.sub_self, List.drop_eq_getElem_cons h]
  simp only [List.set_cons_zero, List.append_assoc, List.cons_append, List.nil_append]

theorem intsOf_set (xs : List Int) (i : Nat) (t : Int) : (intsOf xs).set i (.int .i64 t) = intsOf (xs.set i t) := by simp [intsOf]

set_option maxRecDepth 100000 in
set_option maxHeartbeats 1000000 in
theorem markI_any (v : Value) (base : Nat) (xs : List Int) (q : Int) (w : World) (h1 : w.ownsRow base 3 1 v xs.length (intsOf xs)) (hn : xs.length ≤ 1000000) (hq : -1000000 ≤ q) (hq2 : q ≤ 1000000000) :
    Calls Tryz.prog 33 #[v, .int .i64 q] w fun e w' => e = .returned (.int .i64 (q + (xs.length : Int))) ∧ w'.ownsRow base 3 1 v xs.length (intsOf (marksI q xs.length)) ∧ Below base w w' := by
  by_cases h0 : xs.length = 0
  · have hx : xs = [] := List.length_eq_zero_iff.1 h0
    subst hx
    obtain ⟨a1, c1, rfl⟩ := owns_len h1
    have H1 := hide h1
    clear h1 h0
    go_enter Tryz.func33, Tryz.ntmps33
    go_wp2
    refine wp_loop_rounds 1 ?_
    rw [rounds_succ]
    go_wp2
    go_ret
    exact ⟨by simp, H1.out, Below.refl _ _⟩
  · obtain ⟨g1, c1, rfl, hg1, hl1⟩ := owns_shape h1 (by omega)
    obtain ⟨n, hnn⟩ : ∃ n, n = xs.length := ⟨_, rfl⟩
    have NN := hide hnn
    rw [← hnn] at hn h1 ⊢
    clear hnn h0
    go_enter Tryz.func33, Tryz.ntmps33
    go_wp2
    go_loopw [5, 1] (fun i r wr => ∃ k : Nat, k ≤ n ∧ i = .int .i64 k ∧ r = .int .i64 (q + (k : Int)) ∧ wr.ownsRow base 3 1 (.slice (some ⟨g1, 0, none⟩) n c1) n (intsOf (markedI q k xs)) ∧ Below base w wr) (fun i _ _ => n - (intOf i).toNat)
    case atStart => exact ⟨0, by omega, rfl, by simp, h1, Below.refl _ _⟩
    case round =>
      clear h1
      obtain ⟨k, hk, rfl, rfl, hown, hnx⟩ := hrel
      have hsz := hnx.size
      by_cases hlt : k < n
      · have hki : (0 : Int) ≤ (k : Int) := by omega
        have hkj : (k : Int) < (n : Int) := by omega
        have hfr1 := hown.frozenAt k
        have hcl1 : ∃ t, wr.cell? ⟨g1, k, none⟩ = some (.int .i64 t) := by
          rw [hown.cellAt k (by omega)]
          have hl : k < (markedI q k xs).length := by rw [markedI_length]; have := NN.out; omega; have := NN.out; omega
          exact ⟨(markedI q k xs)[k], by simp [intsOf, List.getElem?_eq_getElem hl]⟩
        obtain ⟨t, hcl⟩ := hcl1
        have hst := hown.stored k (.int .i64 (q + (k : Int)))
        rw [intsOf_set, markedI_step q k xs (by have := NN.out; omega)] at hst
        have ST := hide hst.1
        clear hst hown
        go_wp2
        go_roundw
        case rel => exact ⟨k + 1, by omega, by go_num, by go_num, ST.out, hnx.setCell hg1 _⟩
        case measure => simp [intOf]; omega
      · have hkn : k = n := by omega
        have KN := hide hkn
        have OW := hide hown
        clear hkn hown
        go_wp2
        go_ret
        refine ⟨ret_int (by rw [KN.out]), ?_, hnx⟩
        have h := OW.out
        rw [KN.out] at h
        unfold markedI at h
        rw [List.drop_eq_nil_of_le (by have := NN.out; omega), List.append_nil] at h
        exact h

theorem marksI_get (q : Int) : ∀ (n k : Nat), k < n → (marksI q n).getD k 0 = q + (k : Int)
  | 0, k, h => by omega
  | n + 1, k, h => by
    by_cases e : k = n
    · subst e
      simp [marksI, List.getD, marksI_length]
    · have := marksI_get q n k (by omega)
      have hk : k < (marksI q n).length := by rw [marksI_length]; omega
      simp only [marksI, List.getD, List.getElem?_append_left hk] at this ⊢
      exact this

set_option maxRecDepth 100000 in
set_option maxHeartbeats 1000000 in
theorem heldI_any (v : Value) (n : Nat) (q : Int) (w : World) (h1 : IntsAt w v (marksI q n) w.heap.size) (hn : n ≤ 1000000) (hq : -1000000 ≤ q) (hq2 : q ≤ 1000000000) :
    Calls Tryz.prog 81 #[v, .int .i64 q] w fun e w' => e = .returned (.int .i64 (q + (n : Int))) ∧ Below w.heap.size w w' := by
  obtain ⟨a1, c1, rfl, k1⟩ := h1
  rw [marksI_length] at k1 ⊢
  have K1 := hide k1
  clear k1
  go_enter Tryz.func81, Tryz.ntmps81
  go_wp2
  go_loopw [5, 1] (fun i r wr => ∃ k : Nat, k ≤ n ∧ i = .int .i64 k ∧ r = .int .i64 (q + (k : Int)) ∧ Below w.heap.size w wr) (fun i _ _ => n - (intOf i).toNat)
  case atStart => exact ⟨0, by omega, rfl, by simp, Below.refl _ _⟩
  case round =>
    obtain ⟨k, hk, rfl, rfl, hnx⟩ := hrel
    by_cases hlt : k < n
    · obtain ⟨b1, o1, ha1, hb1, d1⟩ : ∃ b1 o1, a1 = some ⟨b1, o1, none⟩ ∧ b1 < w.heap.size ∧ wr.cell? ⟨b1, o1 + k, none⟩ = some (.int .i64 (q + (k : Int))) := by
        rcases K1.out with h0 | ⟨b, off, ha, hb, hx⟩
        · omega
        · exact ⟨b, off, ha, hb, by rw [hnx.cell (p := ⟨b, off + k, none⟩) hb, hx k (by omega)]; simp only [intC, marksI_get q n k hlt]⟩
      subst ha1
      have hki : (0 : Int) ≤ (k : Int) := by omega
      have hkj : (k : Int) < (n : Int) := by omega
      go_wp2
      go_roundw
      case rel => exact ⟨k + 1, by omega, by go_num, by go_num, hnx⟩
      case measure => simp [intOf]; omega
    · have hkn : k = n := by omega
      have KN := hide hkn
      clear hkn
      go_wp2
      go_ret
      exact ⟨ret_int (by rw [KN.out]), hnx⟩

/-- cells of numbers, as rows of structs of one cell -/
def intE (z : Int) : List Value := [.int .i64 z]

theorem intE_len (z : Int) : (intE z).length = 1 := rfl

theorem flat_int (l : List Int) : flat intE l = intsOf l := by
  induction l with
  | nil => rfl
  | cons x l ih => rw [flat_cons, ih]; rfl

def HopsAt (W : World) (v : Value) (l : List Int) (B : Nat) : Prop := StructsAt intE 1 W v l B

theorem HopsAt.then {W W' : World} {v : Value} {l : List Int} (h : HopsAt W v l W.heap.size) (hb : Below W.heap.size W W') : HopsAt W' v l W'.heap.size := RowAt.then h hb

theorem HopsAt.shape {W : World} {v : Value} {l : List Int} {B : Nat} (h : HopsAt W v l B) : ∃ a cap, v = .slice a l.length cap := by obtain ⟨a, cap, h, _⟩ := h; exact ⟨a, cap, h⟩

theorem HopsAt.ints {W : World} {v : Value} {l : List Int} {B : Nat} (h : HopsAt W v l B) : IntsAt W v l B := by
  obtain ⟨a, cap, hv, h2⟩ := h
  refine ⟨a, cap, hv, ?_⟩
  rcases h2 with h0 | ⟨b, off, ha, hb, hx⟩
  · exact .inl h0
  · refine .inr ⟨b, off, ha, hb, fun j hj => ?_⟩
    rw [hx j hj, flat_int]
    have hj' : j < l.length := by omega
    simp [intsOf, intC, List.getD, List.getElem?_eq_getElem hj']

theorem HopsAt.cell {W : World} {v : Value} {l : List Int} {B : Nat} (h : HopsAt W v l B) (i : Nat) (z : Int) (hz : l[i]? = some z) : ∃ b off cap, v = .slice (some ⟨b, off, none⟩) l.length cap ∧ b < B ∧ W.cell? ⟨b, off + i, none⟩ = some (.int .i64 z) := by
  obtain ⟨b, off, cap, hv, hb, hc⟩ := StructsAt.cell h intE_len i z hz
  exact ⟨b, off, cap, hv, hb, by have := hc 0 _ rfl; simpa using this⟩

theorem hops_of {W : World} {base : Nat} {v : Value} {l : List Int} (h : W.ownsRow base 3 1 v l.length (flat intE l)) : HopsAt W v l W.heap.size := owns_rowAt h

set_option maxRecDepth 100000 in
set_option maxHeartbeats 1000000 in
theorem toIntS_any (v : Value) (ls : List Int) (w : World) (hls : ls.length ≤ 1048576) (hv : HopsAt w v ls w.heap.size) :
    Calls Tryz.prog 28 #[v] w fun e w' => ∃ x, e = .returned x ∧ w'.ownsRow w.heap.size 3 1 x ls.length (flat intE ls) ∧ Below w.heap.size w w' := by
  obtain ⟨a, cap, rfl⟩ := hv.shape
  have HV := hide hv
  clear hv
  obtain ⟨i0, hi, hz0, hz1, hz2⟩ := info_parts Tryz.info3
  have HI := hide hi
  have HZ := hide hz0
  clear hi hz0
  go_enter Tryz.func28, Tryz.ntmps28
  go_wp2_with (first
    | (refine wpList_make_structs intE_len (by omega) _ rfl _ _ 34 rfl w.heap.size 3 i0 (.int .i64 0) 0 rfl Tryz.underlying34 HI.out HZ.out hz1 ls.length rfl rfl (by rw [hz2]; omega) (by unfold maxLen; omega) (Nat.le_refl _) ?_))
  intro w1 hown hg
  have b1 : Below w.heap.size w w1 := (Below.refl _ _).grown hg (Nat.le_refl _) (fun k hk => by simp at hk)
  have OW := hide hown
  clear hown hg
  go_wp2
  go_loopw [4] (fun i wr => ∃ k : Nat, k ≤ ls.length ∧ i = .int .i64 k ∧ wr.ownsRow w.heap.size 3 1 (.slice (some ⟨w.heap.size, 0, none⟩) ls.length ls.length) ls.length (flat intE (part ls 0 k)) ∧ Below w.heap.size w wr) (fun i _ => ls.length - (intOf i).toNat)
  case atStart => exact ⟨0, by omega, rfl, (by simpa [part] using OW.out), b1⟩
  case round =>
    obtain ⟨k, hk, rfl, hown, hnx⟩ := hrel
    by_cases hlt : k < ls.length
    · obtain ⟨l, hl⟩ : ∃ l, ls[k]? = some l := ⟨ls[k], List.getElem?_eq_getElem hlt⟩
      obtain ⟨b, off, cap', hve, hbb, c0⟩ := HV.out.cell k l hl
      cases hve
      rw [← hnx.cell (p := ⟨b, off + k, none⟩) hbb] at c0
      have HL := hide hl
      have hki : (0 : Int) ≤ (k : Int) := by omega
      have hkj : (k : Int) < (ls.length : Int) := by omega
      have hex : ∃ u, wr.cell? ⟨w.heap.size, k, none⟩ = some u := by
        rw [hown.cellAt _ (by omega)]
        have hln : k < (flat intE (part ls 0 k)).length := by rw [hown.1]; omega
        exact ⟨_, List.getElem?_eq_getElem hln⟩
      obtain ⟨u0, d0⟩ := hex
      have f0 := hown.frozenAt k
      have OW3 := hide hown
      clear hown hl
      go_wp2
      refine ⟨⟨k + 1, by omega, by go_num, ?_, hnx.setCell (Nat.le_refl _) _⟩, by simp [intOf]; omega⟩
      have h4 := (OW3.out.stored k (.int .i64 l)).1
      have e4 : (flat intE (part ls 0 k)).set k (.int .i64 l) = flat intE (part ls 0 (k + 1)) := by
        rw [← part_step ls 0 l k HL.out]
        have e5 := flat_set intE_len (part ls 0 k) k l (by rw [part_len _ _ _ hk]; exact hlt)
        rw [Nat.mul_one] at e5
        rw [← e5]
        rfl
      rw [e4] at h4
      exact h4
    · have hkn : k = ls.length := by omega
      have KN := hide hkn
      have OW2 := hide hown
      clear hkn hown
      go_wp2
      go_ret
      refine ⟨_, rfl, ?_, hnx⟩
      have h := OW2.out
      rw [KN.out, part_all] at h
      exact h

end Go.Proofs.YtidoieolejkflaaGreat
