/-
  spec.l05At, impl's placeOf at lists that may share rows.
  spec.Find, impl.Find: their contracts.
  spec.l06Node, l06Tells: their contracts.
  Rows of ints that a call made.
  laws.eqIntS, markIntS, heldIntS, toIntS, szIntS: their contracts (IntRow2 without nets).
  Ways as values; laws.szWay, toWay, eqWay.
  laws.markIntS, markWay, heldWay: only the row's own memory turns; what was marked is held.
  spec.l06Copy: a way with a row of its own.
-/
import Derived.Test.YtbknmgobmnjphaaWk2
import Derived.Test.YtbknmgobmnjphaaWk1
import Derived.Deep.QuietTactic
import Derived.BigQuiet
import Derived.WalkSmall
import Derived.Handy
namespace Go.Proofs.Ytbknmgobmnjphaa
open Go.RowKit

set_option maxRecDepth 100000 in
set_option maxHeartbeats 2000000 in
theorem satI_any (v : Value) (ps : List RP) (hi : Nat) (r : RP) (w : World) (hv : RecsIn w hi v ps) (hhi : hi ≤ w.heap.size) (hn : tot ps ≤ 1048576) :
    Calls Try.prog 79 #[v, .agg (recC r.1 r.2)] w fun e w' => e = .returned (.int .i64 (atZ (fsts ps) r.1)) ∧ Below w.heap.size w w' := by
  have hnl := tot_len ps
  obtain ⟨a1, c1, rfl⟩ := owns_lenS hv.row
  have HV := hide hv
  clear hv
  have BX := (Below.refl w.heap.size w).alloc (Nat.le_refl _) (.cells (recC r.1 r.2) 55)
  have hx := heap_alloc_new w (.cells (recC r.1 r.2) 55)
  obtain ⟨wx, hwx⟩ : ∃ wx, wx = w.alloc (.cells (recC r.1 r.2) 55) := ⟨_, rfl⟩
  rw [← hwx] at BX hx
  unfold recC at *
  go_enter Try.func79, Try.ntmps79
  go_wp2
  rw [← hwx]
  have HX := hide hx
  clear hwx hx
  go_loopw [5] (fun i wr => ∃ (k : Nat), k ≤ ps.length ∧ i = .int .i64 k ∧ (∀ j, j < k → ∀ y, (fsts ps)[j]? = some y → sameKeyB y r.1 = false) ∧ Below wx.heap.size wx wr) (fun i _ => ps.length - (intOf i).toNat)
  case atStart => exact ⟨0, by omega, rfl, by omega, Below.refl _ _⟩
  case round =>
    obtain ⟨k, hk, rfl, hall, hnx⟩ := hrel
    have HALL := hide hall
    clear hall
    have hsz := hnx.size
    have hsx := lt_of_heap HX.out
    have BWR : Below w.heap.size w wr := BX.trans (hnx.mono (by omega))
    by_cases hlt : k < ps.length
    · obtain ⟨p, hp⟩ : ∃ p, ps[k]? = some p := ⟨ps[k], List.getElem?_eq_getElem hlt⟩
      have hat := HV.out.at
      obtain ⟨b, off, cap', hve, hbb, c0, c1, c2, c3, c4, c5, c6, c7, _⟩ := hat.cells k p hp
      cases hve
      rw [← BWR.cell (p := ⟨b, off + k * 8, none⟩) (Nat.lt_of_lt_of_le hbb hhi)] at c0
      rw [← BWR.cell (p := ⟨b, off + k * 8 + 1, none⟩) (Nat.lt_of_lt_of_le hbb hhi)] at c1
      rw [← BWR.cell (p := ⟨b, off + k * 8 + 2, none⟩) (Nat.lt_of_lt_of_le hbb hhi)] at c2
      rw [← BWR.cell (p := ⟨b, off + k * 8 + 3, none⟩) (Nat.lt_of_lt_of_le hbb hhi)] at c3
      rw [← BWR.cell (p := ⟨b, off + k * 8 + 4, none⟩) (Nat.lt_of_lt_of_le hbb hhi)] at c4
      rw [← BWR.cell (p := ⟨b, off + k * 8 + 5, none⟩) (Nat.lt_of_lt_of_le hbb hhi)] at c5
      rw [← BWR.cell (p := ⟨b, off + k * 8 + 6, none⟩) (Nat.lt_of_lt_of_le hbb hhi)] at c6
      rw [← BWR.cell (p := ⟨b, off + k * 8 + 7, none⟩) (Nat.lt_of_lt_of_le hbb hhi)] at c7
      have hxx := (hnx.block _ hsx).trans HX.out
      have d0 := cells_at hxx 0
      have d1 := cells_at hxx 1
      have d2 := cells_at hxx 2
      have d3 := cells_at hxx 3
      have d4 := cells_at hxx 4
      have d5 := cells_at hxx 5
      have d6 := cells_at hxx 6
      have d7 := cells_at hxx 7
      simp at d0 d1 d2 d3 d4 d5 d6 d7
      have hb1 : b < wr.heap.size := by omega
      have hb2 : w.heap.size < wr.heap.size := by omega
      have hki : (0 : Int) ≤ (k : Int) := by omega
      have hkj : (k : Int) < (ps.length : Int) := by omega
      have hq := fun W => ssameKey_any p.2 r.2 p.1 r.1 W
      unfold recC at hq
      obtain ⟨q, hqq⟩ : ∃ q, q = sameKeyB p.1 r.1 := ⟨_, rfl⟩
      rw [← hqq] at hq
      have HK := hide hq
      have HQQ := hide hqq
      have HPP := hide (fsts_at hp)
      clear hq hqq hp hat hxx
      cases q
      · go_wp2
        go_region_held3 (fun W => W.cell? ⟨b, off + k * 8, none⟩ = some (.int .i64 p.1.area) ∧ W.cell? ⟨b, off + k * 8 + 1, none⟩ = some (.int .i64 p.1.kind) ∧ W.cell? ⟨b, off + k * 8 + 2, none⟩ = some (.int .i64 p.1.owner) ∧ W.cell? ⟨b, off + k * 8 + 3, none⟩ = some (.int .i64 p.1.key) ∧ W.cell? ⟨b, off + k * 8 + 4, none⟩ = some (.int .i64 p.1.seq) ∧ W.cell? ⟨b, off + k * 8 + 5, none⟩ = some (p.2) ∧ W.cell? ⟨b, off + k * 8 + 6, none⟩ = some (.int .i64 p.1.cost) ∧ W.cell? ⟨b, off + k * 8 + 7, none⟩ = some (.bool p.1.far) ∧ W.cell? ⟨w.heap.size, 0, none⟩ = some (.int .i64 r.1.area) ∧ W.cell? ⟨w.heap.size, 1, none⟩ = some (.int .i64 r.1.kind) ∧ W.cell? ⟨w.heap.size, 2, none⟩ = some (.int .i64 r.1.owner) ∧ W.cell? ⟨w.heap.size, 3, none⟩ = some (.int .i64 r.1.key) ∧ W.cell? ⟨w.heap.size, 4, none⟩ = some (.int .i64 r.1.seq) ∧ W.cell? ⟨w.heap.size, 5, none⟩ = some (r.2) ∧ W.cell? ⟨w.heap.size, 6, none⟩ = some (.int .i64 r.1.cost) ∧ W.cell? ⟨w.heap.size, 7, none⟩ = some (.bool r.1.far)) (first | go_keep | (refine ⟨?_, ?_, ?_, ?_, ?_, ?_, ?_, ?_, ?_, ?_, ?_, ?_, ?_, ?_, ?_, ?_⟩ <;> (rw [hbc.cell (by assumption)]; assumption))) (first | (go_at_call 86; refine (HK.out _).mono ?_; rintro e w1 ⟨rfl, hbc⟩))
        go_wp2
        go_roundw
        case rel => exact ⟨k + 1, by omega, by go_num, (fun j hj y hy => by
          by_cases e : j = k
          · subst e; rw [HPP.out] at hy; cases hy; exact HQQ.out.symm
          · exact HALL.out j (by omega) y hy), hnx.trans ((Below.refl _ _).drew.trans (hbc.mono hsz))⟩
        case measure => simp [intOf]; omega
      · go_wp2
        go_region_held3 (fun W => W.cell? ⟨b, off + k * 8, none⟩ = some (.int .i64 p.1.area) ∧ W.cell? ⟨b, off + k * 8 + 1, none⟩ = some (.int .i64 p.1.kind) ∧ W.cell? ⟨b, off + k * 8 + 2, none⟩ = some (.int .i64 p.1.owner) ∧ W.cell? ⟨b, off + k * 8 + 3, none⟩ = some (.int .i64 p.1.key) ∧ W.cell? ⟨b, off + k * 8 + 4, none⟩ = some (.int .i64 p.1.seq) ∧ W.cell? ⟨b, off + k * 8 + 5, none⟩ = some (p.2) ∧ W.cell? ⟨b, off + k * 8 + 6, none⟩ = some (.int .i64 p.1.cost) ∧ W.cell? ⟨b, off + k * 8 + 7, none⟩ = some (.bool p.1.far) ∧ W.cell? ⟨w.heap.size, 0, none⟩ = some (.int .i64 r.1.area) ∧ W.cell? ⟨w.heap.size, 1, none⟩ = some (.int .i64 r.1.kind) ∧ W.cell? ⟨w.heap.size, 2, none⟩ = some (.int .i64 r.1.owner) ∧ W.cell? ⟨w.heap.size, 3, none⟩ = some (.int .i64 r.1.key) ∧ W.cell? ⟨w.heap.size, 4, none⟩ = some (.int .i64 r.1.seq) ∧ W.cell? ⟨w.heap.size, 5, none⟩ = some (r.2) ∧ W.cell? ⟨w.heap.size, 6, none⟩ = some (.int .i64 r.1.cost) ∧ W.cell? ⟨w.heap.size, 7, none⟩ = some (.bool r.1.far)) (first | go_keep | (refine ⟨?_, ?_, ?_, ?_, ?_, ?_, ?_, ?_, ?_, ?_, ?_, ?_, ?_, ?_, ?_, ?_⟩ <;> (rw [hbc.cell (by assumption)]; assumption))) (first | (go_at_call 86; refine (HK.out _).mono ?_; rintro e w1 ⟨rfl, hbc⟩))
        go_wp2
        go_ret
        exact ⟨ret_int1 (by rw [atZ_found HPP.out HQQ.out.symm HALL.out]), BWR.trans ((Below.refl _ _).drew.trans (hbc.mono (show w.heap.size ≤ wr.heap.size by omega)))⟩
    · have hkn : k = ps.length := by omega
      have KN := hide hkn
      clear hkn
      go_wp2
      go_ret
      exact ⟨ret_int1 (by rw [atZ_none (by have h := HALL.out; rw [KN.out] at h; simpa [fsts] using h)]), BWR⟩

end Go.Proofs.Ytbknmgobmnjphaa
namespace Go.Proofs.Ytbknmgobmnjphaa
open Go.RowKit

set_option linter.unusedSimpArgs false

theorem results_cell_row_tmp5 {P : Program} {fn : Func} {p u : Tmp} {ty : TypeId} (h : fn.results = #[.cell p ty, .tmp u]) (tmps : Array Value) (w : World) (g : Nat) (t : TypeId) (cs : Array Value) (fr : Nat × Nat) (d : TypeDesc)
    (hp : tmps.getD p undef = .pointer (some ⟨g, 0, none⟩)) (hg : w.heap[g]? = some (.cells cs t fr))
    (hu : P.underlying ty = some d) (hd : (match d with | .struct _ | .array _ _ => true | _ => false) = true) (hi : (P.info? ty).map (·.size) = some cs.size) :
    (results fn tmps).run P w = .ok (.tuple #[.agg cs, tmps.getD u undef]) w := by
  have hp' : tmps[p]?.getD undef = .pointer (some ⟨g, 0, none⟩) := by simpa using hp
  rw [results_cell_tmp h]
  simp [hp', asAddr, run_loadVar_row w g t ty cs fr d hg hu hd hi]

/-- the one with the key, and whether there is one -/
def findD (xs : List RecD) (r : RecD) : RecD := if atZ xs r < 0 then zeroRD else xs.getD (atZ xs r).toNat zeroRD

def findB (xs : List RecD) (r : RecD) : Bool := !decide (atZ xs r < 0)

theorem find_none {xs : List RecD} {r : RecD} (h : atZ xs r = -1) : findD xs r = zeroRD ∧ findB xs r = false := by unfold findD findB; rw [h]; exact ⟨rfl, rfl⟩

theorem find_at {xs : List RecD} {r y : RecD} {k : Nat} (h : atZ xs r = (k : Int)) (hy : xs[k]? = some y) : findD xs r = y ∧ findB xs r = true := by
  unfold findD findB
  rw [h, if_neg (by omega)]
  exact ⟨by simp [hy], by simp⟩

theorem fsts_some5 {ps : List RP} {k : Nat} {y : RecD} (h : (fsts ps)[k]? = some y) : ∃ p, ps[k]? = some p ∧ p.1 = y := by
  simp [fsts] at h
  obtain ⟨v, hv⟩ := h
  exact ⟨(y, v), hv, rfl⟩

end Go.Proofs.Ytbknmgobmnjphaa
namespace Go.Proofs.Ytbknmgobmnjphaa
open Go.RowKit

set_option linter.unusedSimpArgs false

def nodeR (area node : Int) : RecD := ⟨area, 1, node, 0, 0, [], 0, false⟩

/-- a node's record of an area -/
def nodeD (xs : List RecD) (area node : Int) : RecD := findD xs (nodeR area node)

def nodeB (xs : List RecD) (area node : Int) : Bool := findB xs (nodeR area node)

/-- what a list of neighbours tells of b -/
def tellsN (ns : List Nr) (b : Int) : Int := match ns.find? (fun n => n.to == b) with
  | some n => n.c
  | none => 0

def tellsD (xs : List RecD) (area a b : Int) : Int := tellsN (nodeD xs area a).near b

def linkedD (xs : List RecD) (area a b : Int) : Int := if tellsD xs area b a = 0 then 0 else tellsD xs area a b

theorem nears_nil (W : World) (B : Nat) : NearsAt W (.slice none 0 0) [] B := ⟨none, 0, rfl, .inl rfl⟩

set_option maxRecDepth 100000 in
set_option maxHeartbeats 4000000 in
theorem snode_any (v : Value) (ps : List RP) (hi : Nat) (area node : Int) (w : World) (hv : RecsIn w hi v ps) (hhi : hi ≤ w.heap.size) (hn : tot ps ≤ 1048576) :
    Calls Try.prog 63 #[v, .int .i64 area, .int .i64 node] w fun e w' => ∃ u, e = .returned (.tuple #[.agg (recC (nodeD (fsts ps) area node) u), .bool (nodeB (fsts ps) area node)]) ∧ NearsAt w' u (nodeD (fsts ps) area node).near hi ∧ (nodeD (fsts ps) area node).near.length ≤ 1048576 ∧ Below w.heap.size w w' := by
  have hnl := tot_len ps
  obtain ⟨a1, c1, rfl⟩ := owns_lenS hv.row
  have BX : Below w.heap.size w (w.alloc (.cells #[.int .i64 0, .int .i64 0, .int .i64 0, .int .i64 0, .int .i64 0, .slice none 0 0, .int .i64 0, .bool false] 55)) := (Below.refl _ _).alloc (Nat.le_refl _) _
  have hq := heap_alloc_new w (.cells #[.int .i64 0, .int .i64 0, .int .i64 0, .int .i64 0, .int .i64 0, .slice none 0 0, .int .i64 0, .bool false] 55)
  obtain ⟨w0, hw0⟩ : ∃ W, W = w.alloc (.cells #[.int .i64 0, .int .i64 0, .int .i64 0, .int .i64 0, .int .i64 0, .slice none 0 0, .int .i64 0, .bool false] 55) := ⟨_, rfl⟩
  rw [← hw0] at BX hq
  have hs0 := lt_of_heap hq
  have HAT := hide (satI_any (.slice a1 ps.length c1) ps hi (nodeR area node, .slice none 0 0) w0 (hv.below BX hhi) (by have := BX.size; omega) hn)
  unfold recC nodeR at HAT
  simp only [] at HAT
  have HV := hide hv
  clear hv
  unfold nodeD nodeB
  obtain ⟨nr, hnr⟩ : ∃ r, r = nodeR area node := ⟨_, rfl⟩
  rw [show (⟨area, 1, node, 0, 0, [], 0, false⟩ : RecD) = nr from hnr.symm] at HAT
  rw [← hnr]
  clear hnr
  rcases atZ_cases (fsts ps) nr with hz | ⟨j, y, hz, hy, _⟩
  · obtain ⟨e1, e2⟩ := find_none hz
    rw [e1, e2]
    rw [hz] at HAT
    clear hz e1 e2
    unfold recC
    go_enter Try.func63, Try.ntmps63
    go_wp2_with fail
    rw [← hw0]
    clear hw0
    refine HAT.out.mono ?_
    rintro e w1 ⟨rfl, b1⟩
    have B1 : Below w.heap.size w w1 := BX.trans (b1.mono BX.size)
    have hz1 := (b1.block _ hs0).trans hq
    clear b1 hq HAT
    have u0 := cells_at hz1 0
    have u1 := cells_at hz1 1
    have u2 := cells_at hz1 2
    have u3 := cells_at hz1 3
    have u4 := cells_at hz1 4
    have u5 := cells_at hz1 5
    have u6 := cells_at hz1 6
    have u7 := cells_at hz1 7
    simp at u0 u1 u2 u3 u4 u5 u6 u7
    have fu := frozen_at hz1
    have FF := hide (fin85 zeroRD (.slice none 0 0) hz1)
    have G8 := hide (grown85 w1 w.heap.size zeroRD (.slice none 0 0))
    clear hz1
    go_wp2_with fail
    (try simp only [Exit.inBlock, Exit.then])
    refine bodyPost_ret (results_cell_row_tmp5 rfl _ _ w.heap.size 55 (recC zeroRD (.slice none 0 0)) (0, 0) _ rfl FF.out Try.underlying55 rfl (by kernel_rfl)) rfl ?_
    exact ⟨.slice none 0 0, rfl, nears_nil _ _, (by simp [zeroRD]), B1.grown G8.out B1.size (fun k hk => by simp at hk; omega)⟩
  · obtain ⟨e1, e2⟩ := find_at hz hy
    rw [e1, e2]
    obtain ⟨t, htj, hty⟩ := fsts_some5 hy
    have hjl : j < ps.length := (List.getElem?_eq_some_iff.1 htj).1
    have hji : (0 : Int) ≤ (j : Int) := by omega
    have hjj : (j : Int) < (ps.length : Int) := by omega
    have hj0 : ¬ (j : Int) < 0 := by omega
    rw [hz] at HAT
    obtain ⟨b, off, cp, hve, hbb, c0, c1, c2, c3, c4, c5, c6, c7, hnr⟩ := HV.out.at.cells j t htj
    cases hve
    have hbw : b < w.heap.size := by omega
    obtain ⟨pa, pc, hpn⟩ := NearsAt.shape hnr
    rw [hpn] at c5 hnr
    have HNL := hide (show t.1.near.length ≤ 1048576 by have := tot_mem (List.mem_of_getElem? htj); omega)
    have HNR := hide hnr
    subst hty
    clear hz hy htj e1 e2 hpn hnr
    unfold recC
    go_enter Try.func63, Try.ntmps63
    go_wp2_with fail
    rw [← hw0]
    clear hw0
    refine HAT.out.mono ?_
    rintro e w1 ⟨rfl, b1⟩
    have B1 : Below w.heap.size w w1 := BX.trans (b1.mono BX.size)
    have hz1 := (b1.block _ hs0).trans hq
    clear b1 hq HAT
    rw [← B1.cell (p := ⟨b, off + j * 8, none⟩) hbw] at c0
    rw [← B1.cell (p := ⟨b, off + j * 8 + 1, none⟩) hbw] at c1
    rw [← B1.cell (p := ⟨b, off + j * 8 + 2, none⟩) hbw] at c2
    rw [← B1.cell (p := ⟨b, off + j * 8 + 3, none⟩) hbw] at c3
    rw [← B1.cell (p := ⟨b, off + j * 8 + 4, none⟩) hbw] at c4
    rw [← B1.cell (p := ⟨b, off + j * 8 + 5, none⟩) hbw] at c5
    rw [← B1.cell (p := ⟨b, off + j * 8 + 6, none⟩) hbw] at c6
    rw [← B1.cell (p := ⟨b, off + j * 8 + 7, none⟩) hbw] at c7
    obtain ⟨z, hzz⟩ : ∃ z, z = w.heap.size := ⟨_, rfl⟩
    rw [← hzz] at hz1 ⊢
    have HZ := hide hzz
    clear hzz
    have u0 := cells_at hz1 0
    have u1 := cells_at hz1 1
    have u2 := cells_at hz1 2
    have u3 := cells_at hz1 3
    have u4 := cells_at hz1 4
    have u5 := cells_at hz1 5
    have u6 := cells_at hz1 6
    have u7 := cells_at hz1 7
    simp at u0 u1 u2 u3 u4 u5 u6 u7
    have fu := frozen_at hz1
    have HZ1 := hide hz1
    have FIN : ∀ W, W = putR5 w1 z t.1 (.slice pa t.1.near.length pc) → NearsAt W (.slice pa t.1.near.length pc) t.1.near hi ∧ Below w.heap.size w W := by
      intro W hW
      have G8 := grown85 w1 z t.1 (.slice pa t.1.near.length pc)
      rw [← hW] at G8
      have BF : Below w.heap.size w W := B1.grown G8 B1.size (fun k hk => by have := HZ.out; simp at hk; omega)
      exact ⟨RowAt.later HNR.out BF hhi, BF⟩
    have HFIN := hide FIN
    clear hz1 FIN HNR B1 HV BX hs0 hjl hbb hbw
    go_wp2_with fail
    (try simp only [Exit.inBlock, Exit.then])
    refine bodyPost_ret (results_cell_row_tmp5 rfl _ _ z 55 (recC t.1 (.slice pa t.1.near.length pc)) (0, 0) _ rfl (fin85 t.1 (.slice pa t.1.near.length pc) HZ1.out) Try.underlying55 rfl (by kernel_rfl)) rfl ?_
    obtain ⟨W5, hW5⟩ : ∃ W, W = putR5 w1 z t.1 (.slice pa t.1.near.length pc) := ⟨_, rfl⟩
    have h := HFIN.out W5 hW5
    subst hW5
    exact ⟨_, rfl, h.1, HNL.out, h.2⟩

theorem tells_hit {ns : List Nr} {k : Nat} {n : Nr} {b : Int} (h : ns[k]? = some n) (hno : ∀ q ∈ ns.take k, q.to ≠ b) (hb : n.to = b) : tellsN ns b = n.c := by
  have e : ns.find? (fun x => x.to == b) = some n := by
    obtain ⟨hk, e1⟩ := List.getElem?_eq_some_iff.1 h
    rw [List.find?_eq_some_iff_append]
    refine ⟨by simpa using hb, ns.take k, ns.drop (k + 1), ?_, ?_⟩
    · rw [← e1, ← List.drop_eq_getElem_cons hk, List.take_append_drop]
    · intro x hx
      simpa using hno x hx
  unfold tellsN
  rw [e]

theorem tells_none {ns : List Nr} {b : Int} (hno : ∀ q ∈ ns, q.to ≠ b) : tellsN ns b = 0 := by
  have e : ns.find? (fun x => x.to == b) = none := by
    rw [List.find?_eq_none]
    intro x hx
    simpa using hno x hx
  unfold tellsN
  rw [e]

theorem take_allN {ns : List Nr} {k : Nat} {n : Nr} {b : Int} (h : ns[k]? = some n) (hno : ∀ q ∈ ns.take k, q.to ≠ b) (hz : n.to ≠ b) : ∀ q ∈ ns.take (k + 1), q.to ≠ b := by
  obtain ⟨hk, e⟩ := List.getElem?_eq_some_iff.1 h
  rw [List.take_succ_eq_append_getElem hk, e]
  intro q hq
  rcases List.mem_append.1 hq with h1 | h1
  · exact hno q h1
  · have : q = n := by simpa using h1
    subst this
    exact hz

set_option maxRecDepth 100000 in
set_option maxHeartbeats 4000000 in
theorem stells_any (v : Value) (ps : List RP) (hi : Nat) (area a b : Int) (w : World) (hv : RecsIn w hi v ps) (hhi : hi ≤ w.heap.size) (hn : tot ps ≤ 1048576) :
    Calls Try.prog 80 #[v, .int .i64 area, .int .i64 a, .int .i64 b] w fun e w' => e = .returned (.int .i64 (tellsD (fsts ps) area a b)) ∧ Below w.heap.size w w' := by
  have HNO := hide (snode_any v ps hi area a w hv hhi hn)
  obtain ⟨a1, c1, rfl⟩ := owns_lenS hv.row
  clear hv
  unfold tellsD
  obtain ⟨D, hD⟩ : ∃ D, D = nodeD (fsts ps) area a := ⟨_, rfl⟩
  rw [← hD] at HNO
  rw [← hD]
  clear hD
  obtain ⟨X, hX⟩ : ∃ X, X = tellsN D.near b := ⟨_, rfl⟩
  rw [← hX]
  have HX := hide hX
  clear hX
  unfold recC at HNO
  go_enter Try.func80, Try.ntmps80
  go_wp2_with fail
  refine HNO.out.mono ?_
  rintro e w1 ⟨u, rfl, hu, hul, b1⟩
  obtain ⟨ua, uc, rfl⟩ := NearsAt.shape hu
  have hx := heap_alloc_new w1 (.cells #[.int .i64 D.area, .int .i64 D.kind, .int .i64 D.owner, .int .i64 D.key, .int .i64 D.seq, .slice ua D.near.length uc, .int .i64 D.cost, .bool D.far] 55)
  have BX : Below w1.heap.size w1 (w1.alloc (.cells #[.int .i64 D.area, .int .i64 D.kind, .int .i64 D.owner, .int .i64 D.key, .int .i64 D.seq, .slice ua D.near.length uc, .int .i64 D.cost, .bool D.far] 55)) := (Below.refl _ _).alloc (Nat.le_refl _) _
  obtain ⟨w2, hw2⟩ : ∃ W, W = w1.alloc (.cells #[.int .i64 D.area, .int .i64 D.kind, .int .i64 D.owner, .int .i64 D.key, .int .i64 D.seq, .slice ua D.near.length uc, .int .i64 D.cost, .bool D.far] 55) := ⟨_, rfl⟩
  rw [← hw2] at hx BX
  have B2 : Below w.heap.size w w2 := b1.trans (BX.mono b1.size)
  have HU : Hid (NearsAt w2 (.slice ua D.near.length uc) D.near w2.heap.size) := hide ((RowAt.later hu BX (Nat.le_trans hhi b1.size)).more (Nat.le_trans hhi B2.size))
  have hs2 := lt_of_heap hx
  have HXX := hide hx
  clear hu hx
  go_wp2
  rw [← hw2]
  clear hw2
  go_loopw [11] (fun i wr => ∃ k : Nat, k ≤ D.near.length ∧ i = .int .i64 k ∧ Hid (∀ q ∈ D.near.take k, q.to ≠ b) ∧ Below w2.heap.size w2 wr) (fun i _ => D.near.length - (intOf i).toNat)
  case atStart => exact ⟨0, by omega, rfl, hide (by simp), Below.refl _ _⟩
  case round =>
    obtain ⟨k, hk, rfl, HNN, hnx⟩ := hrel
    have hx2 := (hnx.block _ hs2).trans HXX.out
    have d5 := cells_at hx2 5
    simp at d5
    clear hx2
    have BWR : Below w.heap.size w wr := B2.trans (hnx.mono B2.size)
    by_cases hlt : k < D.near.length
    · obtain ⟨n, hnk⟩ : ∃ n, D.near[k]? = some n := ⟨D.near[k], List.getElem?_eq_getElem hlt⟩
      obtain ⟨g, off, cap', hve, hbb, c0, c1⟩ := HU.out.cells k n hnk
      cases hve
      rw [← hnx.cell (p := ⟨g, off + k * 2, none⟩) hbb] at c0
      rw [← hnx.cell (p := ⟨g, off + k * 2 + 1, none⟩) hbb] at c1
      have hki : (0 : Int) ≤ (k : Int) := by omega
      have hkj : (k : Int) < (D.near.length : Int) := by omega
      by_cases hzz : n.to = b
      · have HF := hide (HX.out.trans (tells_hit hnk HNN.out hzz))
        rw [hzz] at c0
        clear hnk hzz
        go_wp2
        go_ret
        exact ⟨by rw [HF.out]; rfl, BWR⟩
      · have HN := hide (take_allN hnk HNN.out hzz)
        have hd : (n.to == b) = false := by simpa using hzz
        clear hnk
        go_wp2
        go_roundw
        case rel => exact ⟨k + 1, by omega, by go_num, HN, hnx⟩
        case measure => simp [intOf]; omega
    · have HF := hide (HX.out.trans (tells_none (by have h := HNN.out; rw [List.take_of_length_le (by omega)] at h; exact h)))
      go_wp2
      go_ret
      exact ⟨by rw [HF.out]; rfl, BWR⟩
end Go.Proofs.Ytbknmgobmnjphaa
namespace Go.Proofs.Ytbknmgobmnjphaa
open Go.RowKit

def intsOf (l : List Int) : List Value := l.map fun z => Value.int .i64 z

theorem intsOf_append (a b : List Int) : intsOf (a ++ b) = intsOf a ++ intsOf b := by simp [intsOf]

theorem Try.info3 : (Try.prog.info? 3).map (fun i => (i.zero, i.size, i.bytes)) = some (some (.int .i64 0), 1, 8) := by kernel_rfl

/-- 'append(out, z)' of an int, out a row that the call itself made. -/
theorem wpList_append_int {P : Program} (w : World) {ops : Array Oper} {rest : List Oper} {o : Oper} {a : Act} {Q : Exit → Act → World → Prop} (hgd : o.guard = none) (s x : Operand) (t : TypeId)
    (ho : o.op = .call { callee := .builtin .append, args := #[s, x], argTypes := #[t, t] }) (base : Nat) (e : TypeId) (ht : P.underlying t = some (.slice e))
    (hinfo : (P.info? e).map (fun i => (i.zero, i.size, i.bytes)) = some (some (.int .i64 0), 1, 8))
    (v : Value) (l : List Int) (z : Int) (hs : a.eval s = v) (hown : w.ownsRow base e 1 v l.length (intsOf l))
    (ad : Addr) (c : Nat) (hx : a.eval x = .slice (some ad) 1 c) (hnews : w.cell? (ad.add 0) = some (.int .i64 z))
    (hlen : l.length + 1 ≤ 1000000000) (hbase : base ≤ w.heap.size)
    (h : ∀ v' w' l', Hid (l' = l ++ [z]) → w'.ownsRow base e 1 v' l'.length (intsOf l') → w.grownBy w' v.ownBlock → wpList P ops Q rest (a.put o.dst v') w') : wpList P ops Q (o :: rest) a w := by
  obtain ⟨i0, hi, hz0, hz1, hz2⟩ := info_parts hinfo
  refine wpList_append_own w hgd s x t ho base e i0 (.int .i64 0) 1 8 ht hi hz0 hz1 hz2 rfl (by decide) v l.length (intsOf l) hs hown ad 1 c (intsOf [z]) hx (by simp [intsOf]) ?_ ?_ (by unfold maxLen; omega) (by omega) hbase ?_
  · intro j u hj
    have hj' : j = 0 := by have := (List.getElem?_eq_some_iff.1 hj).1; simp [intsOf] at this; omega
    subst hj'
    rw [hnews]
    simpa [intsOf] using hj
  · intro u hu
    simp only [intsOf, List.mem_map] at hu
    obtain ⟨b, _, rfl⟩ := hu
    rfl
  · intro v' w' h1 h2 _
    rw [← intsOf_append] at h1
    exact h v' w' (l ++ [z]) rfl (by simpa using h1) h2
end Go.Proofs.Ytbknmgobmnjphaa
namespace Go.Proofs.Ytbknmgobmnjphaa
open Go.RowKit

def intC (zs : List Int) (j : Nat) : Value := .int .i64 (zs.getD j 0)

def IntsAt (W : World) (v : Value) (zs : List Int) (B : Nat) : Prop := RowAt W v zs.length 1 (intC zs) B

theorem ints_of_owns {W : World} {base : Nat} {v : Value} {zs : List Int} (h : W.ownsRow base 3 1 v zs.length (intsOf zs)) : IntsAt W v zs W.heap.size := by
  by_cases h0 : zs.length = 0
  · obtain ⟨a, cap, rfl⟩ := owns_len h
    exact ⟨a, cap, rfl, .inl h0⟩
  · obtain ⟨g, cap, rfl, hg, hl⟩ := owns_shape h (by omega)
    refine ⟨_, cap, rfl, .inr ⟨g, 0, rfl, hl, fun j hj => ?_⟩⟩
    rw [Nat.zero_add, h.cellAt j (by omega)]
    have hj' : j < zs.length := by omega
    simp [intsOf, intC, List.getElem?_eq_getElem hj']

theorem below_drewN {B : Nat} {w wr : World} (h : Below B w wr) (n : Nat) : Below B w (wr.drewN n) := ⟨h.os, h.tape, h.output, h.size, h.block⟩

theorem list_ne_at {xs ys : List Int} {k : Nat} (h : xs.getD k 0 ≠ ys.getD k 0) : ¬ xs = ys := by
  rintro rfl
  exact h rfl

theorem list_eq_all {xs ys : List Int} (hl : xs.length = ys.length) (h : ∀ j, j < xs.length → xs.getD j 0 = ys.getD j 0) : xs = ys := by
  apply List.ext_getElem hl
  intro i h1 h2
  have := h i h1
  simpa [List.getD, List.getElem?_eq_getElem h1, List.getElem?_eq_getElem h2] using this

/-- cells of numbers, as rows of structs of one cell -/
def intE (z : Int) : List Value := [.int .i64 z]

theorem intE_len (z : Int) : (intE z).length = 1 := rfl

theorem flat_int (l : List Int) : flat intE l = intsOf l := by
  induction l with
  | nil => rfl
  | cons x l ih => rw [flat_cons, ih]; rfl

def HopsAt (W : World) (v : Value) (l : List Int) (B : Nat) : Prop := StructsAt intE 1 W v l B

theorem HopsAt.then {W W' : World} {v : Value} {l : List Int} (h : HopsAt W v l W.heap.size) (hb : Below W.heap.size W W') : HopsAt W' v l W'.heap.size := RowAt.then h hb

theorem HopsAt.shape {W : World} {v : Value} {l : List Int} {B : Nat} (h : HopsAt W v l B) : ∃ a cap, v = .slice a l.length cap := by obtain ⟨a, cap, h, _⟩ := h; exact ⟨a, cap, h⟩

theorem HopsAt.ints {W : World} {v : Value} {l : List Int} {B : Nat} (h : HopsAt W v l B) : IntsAt W v l B := by
  obtain ⟨a, cap, hv, h2⟩ := h
  refine ⟨a, cap, hv, ?_⟩
  rcases h2 with h0 | ⟨b, off, ha, hb, hx⟩
  · exact .inl h0
  · refine .inr ⟨b, off, ha, hb, fun j hj => ?_⟩
    rw [hx j hj, flat_int]
    have hj' : j < l.length := by omega
    simp [intsOf, intC, List.getD, List.getElem?_eq_getElem hj']

theorem HopsAt.cell {W : World} {v : Value} {l : List Int} {B : Nat} (h : HopsAt W v l B) (i : Nat) (z : Int) (hz : l[i]? = some z) : ∃ b off cap, v = .slice (some ⟨b, off, none⟩) l.length cap ∧ b < B ∧ W.cell? ⟨b, off + i, none⟩ = some (.int .i64 z) := by
  obtain ⟨b, off, cap, hv, hb, hc⟩ := StructsAt.cell h intE_len i z hz
  exact ⟨b, off, cap, hv, hb, by have := hc 0 _ rfl; simpa using this⟩

theorem hops_of {W : World} {base : Nat} {v : Value} {l : List Int} (h : W.ownsRow base 3 1 v l.length (flat intE l)) : HopsAt W v l W.heap.size := owns_rowAt h

end Go.Proofs.Ytbknmgobmnjphaa
namespace Go.Proofs.Ytbknmgobmnjphaa
open Go.RowKit

structure WayD where
  to : Int
  cost : Int
  hops : List Int
  deriving DecidableEq

def wayC (x : WayD) (v : Value) : Array Value := #[.int .i64 x.to, .int .i64 x.cost, v]

/-- the value v is the way x, whose row lies below B -/
def WayAt (W : World) (v : Value) (x : WayD) (B : Nat) : Prop := ∃ v1, v = .agg (wayC x v1) ∧ HopsAt W v1 x.hops B

theorem WayAt.then {W W' : World} {v : Value} {x : WayD} (h : WayAt W v x W.heap.size) (hb : Below W.heap.size W W') : WayAt W' v x W'.heap.size := by
  obtain ⟨v1, hv, h1⟩ := h
  exact ⟨v1, hv, h1.then hb⟩

end Go.Proofs.Ytbknmgobmnjphaa
namespace Go.Proofs.Ytbknmgobmnjphaa
open Go.RowKit

end Go.Proofs.Ytbknmgobmnjphaa
namespace Go.Proofs.Ytbknmgobmnjphaa
open Go.RowKit

set_option linter.unusedSimpArgs false

theorem intE_one (z : Int) : ∀ u ∈ intE z, u.oneCell' = true := by
  intro u hu
  simp [intE] at hu
  subst hu
  rfl

abbrev putW3 (W : World) (g : Nat) (x : WayD) (v : Value) : World := ((W.setCell ⟨g, 0, none⟩ (.int .i64 x.to)).setCell ⟨g, 1, none⟩ (.int .i64 x.cost)).setCell ⟨g, 2, none⟩ v

theorem finW3 {W : World} {B0 : Nat} {c0 c1 c2 : Value} (x : WayD) (v : Value) (hr : W.heap[B0]? = some (.cells #[c0, c1, c2] 79)) :
    (putW3 W B0 x v).heap[B0]? = some (.cells (wayC x v) 79) := by
  have k1 := heap_setCell_same _ _ 0 _ _ (.int .i64 x.to) hr
  have k2 := heap_setCell_same _ _ 1 _ _ (.int .i64 x.cost) k1
  have k3 := heap_setCell_same _ _ 2 _ _ v k2
  simp only [List.setIfInBounds_toArray, List.set_cons_zero, List.set_cons_succ] at k3
  unfold putW3 wayC
  exact k3

theorem grownW3 (W : World) (g : Nat) (x : WayD) (v : Value) : W.grownBy (putW3 W g x v) (some g) :=
  grown_trans (grown_trans (grown_set W g _ _) (grown_set _ g _ _)) (grown_set _ g _ _)

theorem int_flat1 (l : List Int) : (flat intE l).length = l.length * 1 := flat_len intE_len l

theorem own_litI (W : World) (g base : Nat) (hg : g = W.heap.size) (hb : base ≤ W.heap.size) : (W.alloc (.cells #[] 3)).ownsRow base 3 1 (.slice (some ⟨g, 0, none⟩) 0 0) 0 (flat intE []) := by
  subst hg
  exact World.ownsRow_lit W #[] 0 hb (by unfold maxLen; omega) (by simp)

set_option maxRecDepth 100000 in
set_option maxHeartbeats 1000000 in
theorem copyW_any (x : WayD) (v : Value) (base : Nat) (w : World) (ho : w.ownsRow base 3 1 v x.hops.length (flat intE x.hops)) (hn : x.hops.length ≤ 1048576) :
    Calls Try.prog 65 #[.agg (wayC x v)] w fun e w' => ∃ v', e = .returned (.agg (wayC x v')) ∧ w'.ownsRow w.heap.size 3 1 v' x.hops.length (flat intE x.hops) ∧ Below w.heap.size w w' := by
  obtain ⟨va, vc, rfl⟩ := owns_lenS ho
  have OW := hide ho
  clear ho
  go_enter Try.func65, Try.ntmps65
  unfold wayC
  go_wp2_with (first
    | (at_builtin; refine append_row5 int_flat1 (by omega) intE_one (by omega) _ rfl _ _ 39 rfl (w.heap.size + 2) 3 Try.underlying39 (.int .i64 0) rfl Try.info3 _ [] rfl ?own0 base _ x.hops rfl (((OW.out.alloc _).alloc _).alloc _) (by simp; omega) (by simp) ?_))
  case own0 =>
    exact own_litI _ _ _ (by simp) (by simp)
  intro v' w4 hown' hgrow
  obtain ⟨na, nc, rfl⟩ := owns_lenS hown'
  simp only [Value.ownBlock] at hgrow
  have hb4 : Below w.heap.size w w4 := ((((Below.refl w.heap.size w).alloc (by simp) _).alloc (by simp) _).alloc (by simp; omega) _).grown hgrow (by simp; omega) (fun k hk => by simp at hk; omega)
  have q0 : w4.heap[w.heap.size]? = some (.cells #[.int .i64 x.to, .int .i64 x.cost, .slice va x.hops.length vc] 79) := by
    rw [hgrow.block w.heap.size (by simp; omega) (by simp; omega), Below.heap_alloc _ _ _ (by simp; omega), Below.heap_alloc _ _ _ (by simp), heap_alloc_new]
  have q1 : w4.heap[w.heap.size + 1]? = some (.cells #[.int .i64 0, .int .i64 0, .slice none 0 0] 79) := by
    rw [hgrow.block (w.heap.size + 1) (by simp) (by simp), Below.heap_alloc _ _ _ (by simp)]
    have e := heap_alloc_new (w.alloc (.cells #[.int .i64 x.to, .int .i64 x.cost, .slice va x.hops.length vc] 79)) (.cells #[.int .i64 0, .int .i64 0, .slice none 0 0] 79)
    rw [show (w.alloc (.cells #[.int .i64 x.to, .int .i64 x.cost, .slice va x.hops.length vc] 79)).heap.size = w.heap.size + 1 by simp] at e
    exact e
  have r2 := cells_at q0 2
  have f0 := frozen_at q0
  simp at r2
  have q2 := heap_setCell_same w4 w.heap.size 2 _ _ (.slice na x.hops.length nc) q0
  simp only [List.setIfInBounds_toArray, List.set_cons_zero, List.set_cons_succ] at q2
  have q3 : (w4.setCell ⟨w.heap.size, 2, none⟩ (.slice na x.hops.length nc)).heap[w.heap.size + 1]? = some (.cells #[.int .i64 0, .int .i64 0, .slice none 0 0] 79) := by
    rw [heap_setCell_other w4 ⟨w.heap.size, 2, none⟩ _ _ (by show w.heap.size + 1 ≠ w.heap.size; omega)]; exact q1
  have y0 := cells_at q2 0
  have y1 := cells_at q2 1
  have y2 := cells_at q2 2
  simp at y0 y1 y2
  have u0 := cells_at q3 0
  have u1 := cells_at q3 1
  have u2 := cells_at q3 2
  simp at u0 u1 u2
  have fu := frozen_at q3
  have F := finW3 x (.slice na x.hops.length nc) q3
  have hown2 := owns_set (j := 2) (u := .slice na x.hops.length nc) hown' (show w.heap.size < w.heap.size + 2 by omega)
  have G8 := grownW3 (w4.setCell ⟨w.heap.size, 2, none⟩ (.slice na x.hops.length nc)) (w.heap.size + 1) x (.slice na x.hops.length nc)
  have hown3 := owns_baseS (b0 := w.heap.size) (hown2.kept G8 (by
    cases hv : (Value.slice na x.hops.length nc).ownBlock with
    | none => exact .inl rfl
    | some g => exact .inr (fun e => by have := (hown2.lt g hv).1; simp at e; omega))) (by omega)
  have hb5 : Below w.heap.size w (putW3 (w4.setCell ⟨w.heap.size, 2, none⟩ (.slice na x.hops.length nc)) (w.heap.size + 1) x (.slice na x.hops.length nc)) := (hb4.setCell (p := ⟨w.heap.size, 2, none⟩) (Nat.le_refl _) _).grown G8 (by have := lt_of_heap q3; omega) (fun k hk => by simp at hk; omega)
  have FF := hide F
  have H3 := hide hown3
  have H5 := hide hb5
  clear F hown3 hb5 hown2 G8 hb4 hown' hgrow q0 q1 q2 q3 OW
  go_wp2_with fail
  (try simp only [Exit.inBlock, Exit.then])
  refine bodyPost_ret (results_cell_row rfl _ _ (w.heap.size + 1) 79 (wayC _ _) (0, 0) _ rfl FF.out Try.underlying79 rfl (by kernel_rfl)) rfl ?_
  exact ⟨_, rfl, H3.out, H5.out⟩
end Go.Proofs.Ytbknmgobmnjphaa
