/-
  laws.markNet, heldNet over the rows that ReadScript made.
  laws.eqEvent, eqEventS, markEventS, heldEventS over the rows that ReadScript made.
-/
import Derived.Test.YtpiookjdeopmgaaDoorRd38
namespace Go.Proofs.YtpiookjdeopmgaaDoor
open Go.RowKit
set_option linter.unusedSimpArgs false
set_option linter.unusedVariables false

theorem own_low {w : World} {base s n : Nat} {e : TypeId} {v : Value} {xs : List Value} (h : w.ownsRow base e s v n xs) : ∀ g, v.ownBlock = some g → g < w.heap.size := fun g hg => (h.lt g hg).2

set_option maxRecDepth 100000 in
set_option maxHeartbeats 2000000 in
theorem markNet_own (v0 v1 v2 : Value) (base n m : Nat) (ls : List Lk) (ts : List Th) (q : Int) (w : World) (hl0 : ls.length = n) (ht0 : ts.length = m) (h1 : w.ownsRow base 77 4 v1 n (flat lkE ls)) (h2 : w.ownsRow base 81 4 v2 m (flat thE ts)) (hb : base ≤ w.heap.size) (hn : n ≤ 1048576) (hm : m ≤ 1048576) (hq : 0 ≤ q) (hq2 : q ≤ 1000000) :
    Calls Tryd.prog 9 #[.agg #[v0, v1, v2], .int .i64 q] w fun e w' => e = .returned (.int .i64 (q + 4 * (n : Int) + 4 * (m : Int))) ∧ w'.ownsRow base 77 4 v1 n (flat lkE (mkAll (mkLk q) n)) ∧ w'.ownsRow base 81 4 v2 m (flat thE (mkAll (mkTh (q + 4 * (n : Int))) m)) ∧
      KeepT (fun t => t ≠ 77 ∧ t ≠ 81) w w' ∧ Below base w w' := by
  have H1 := hide h1
  have H2 := hide h2
  have hv1 := own_low h1
  clear h1 h2
  go_enter Tryd.func9, Tryd.ntmps9
  go_wp2_with fail
  refine (markLinkS_own v1 base n ls q _ hl0 (H1.out.alloc _) hn hq (by omega)).mono ?_
  rintro e w1 ⟨rfl, o1, g1⟩
  have hx : w1.heap[w.heap.size]? = some (.cells #[v0, v1, v2] 25) := by
    rw [g1.block _ (by simp) (fun h => by have := hv1 _ h.symm; omega), heap_alloc_new]
  have c2 := cells_at hx 2
  simp at c2
  have o2 := owns_two (H1.out.alloc _) (H2.out.alloc _) (by decide) g1
  have b1 : Below base w w1 := below_own ((Below.refl base w).alloc hb _) (H1.out.alloc _) (Nat.le_refl _) (by simp; omega) g1
  have hz1 := g1.size
  have O1 := hide o1
  have O2 := hide o2
  have G1 := hide g1
  clear hx o1 o2 g1
  go_wp2_with fail
  refine (markThingS_own v2 base m ts _ _ ht0 O2.out hm (by omega) (by omega)).mono ?_
  rintro e w2 ⟨rfl, o3, g2⟩
  have b2 : Below base w w2 := below_own b1 O2.out (Nat.le_refl _) (by simp at hz1; omega) g2
  have o4 := owns_two O2.out O1.out (by decide) g2
  have O3 := hide o3
  have O4 := hide o4
  have G2 := hide g2
  clear g2 o3 o4
  go_wp2
  go_ret
  exact ⟨rfl, O4.out, O3.out, ((KeepT.of ((Below.refl _ _).alloc (Nat.le_refl _) _)).trans (KeepT.grown (H1.out.alloc _) (fun t ht => ht.1) G1.out)).trans (KeepT.grown O2.out (fun t ht => ht.2) G2.out), b2⟩

set_option maxRecDepth 100000 in
set_option maxHeartbeats 2000000 in
theorem heldNet_all (v0 v1 v2 : Value) (n m : Nat) (q : Int) (w : World) (h1 : LinksAt w v1 (mkAll (mkLk q) n) w.heap.size) (h2 : ThingsAt w v2 (mkAll (mkTh (q + 4 * (n : Int))) m) w.heap.size) (hn : n ≤ 1048576) (hm : m ≤ 1048576) (hq : 0 ≤ q) (hq2 : q ≤ 1000000) :
    Calls Tryd.prog 11 #[.agg #[v0, v1, v2], .int .i64 q] w fun e w' => e = .returned (.int .i64 (q + 4 * (n : Int) + 4 * (m : Int))) ∧ Below w.heap.size w w' := by
  have H1 := hide h1
  have H2 := hide h2
  clear h1 h2
  go_enter Tryd.func11, Tryd.ntmps11
  go_wp2_with fail
  refine (heldLinkS_all v1 n q _ (H1.out.then ((Below.refl _ _).alloc (Nat.le_refl _) _)) hn hq (by omega)).mono ?_
  rintro e w1 ⟨rfl, rfl⟩
  go_wp2_with fail
  refine (heldThingS_all v2 m _ _ (H2.out.then ((Below.refl _ _).alloc (Nat.le_refl _) _)) hm (by omega) (by omega)).mono ?_
  rintro e w1 ⟨rfl, rfl⟩
  go_wp2
  go_ret
  exact ⟨rfl, (Below.refl _ _).alloc (Nat.le_refl _) _⟩
end Go.Proofs.YtpiookjdeopmgaaDoor
namespace Go.Proofs.YtpiookjdeopmgaaDoor
open Go.RowKit
set_option linter.unusedSimpArgs false
set_option linter.unusedVariables false

def EvsAt (W : World) (v : Value) (ts : List EvD) (B : Nat) : Prop := StructsAt evE 4 W v ts B

theorem EvsAt.then {W W' : World} {v : Value} {ls : List EvD} (h : EvsAt W v ls W.heap.size) (hb : Below W.heap.size W W') : EvsAt W' v ls W'.heap.size := RowAt.then h hb

theorem EvsAt.shape {W : World} {v : Value} {ls : List EvD} {B : Nat} (h : EvsAt W v ls B) : ∃ a cap, v = .slice a ls.length cap := by obtain ⟨a, cap, h, _⟩ := h; exact ⟨a, cap, h⟩

theorem EvsAt.cells {W : World} {v : Value} {ls : List EvD} {B : Nat} (h : EvsAt W v ls B) (i : Nat) (l : EvD) (hl : ls[i]? = some l) :
    ∃ b off cap, v = .slice (some ⟨b, off, none⟩) ls.length cap ∧ b < B ∧ W.cell? ⟨b, off + i * 4, none⟩ = some (.int .i64 l.k) ∧ W.cell? ⟨b, off + i * 4 + 1, none⟩ = some (.int .i64 l.n) ∧
      W.cell? ⟨b, off + i * 4 + 2, none⟩ = some (.int .i64 l.a) ∧ W.cell? ⟨b, off + i * 4 + 3, none⟩ = some (.string l.s) := by
  obtain ⟨b, off, cap, hv, hb, hc⟩ := StructsAt.cell h evE_len i l hl
  exact ⟨b, off, cap, hv, hb, hc 0 _ rfl, hc 1 _ rfl, hc 2 _ rfl, hc 3 _ rfl⟩

set_option maxRecDepth 100000 in
set_option maxHeartbeats 1000000 in
theorem eqEvent_same (x : EvD) (w : World) : Calls Tryd.prog 30 #[evV x, evV x] w fun e w' => e = .returned (.bool true) ∧ Below w.heap.size w w' := by
  unfold evV
  go_enter Tryd.func30, Tryd.ntmps30
  go_wp2
  go_ret
  exact ⟨rfl, below_two _ _⟩

set_option maxRecDepth 100000 in
set_option maxHeartbeats 2000000 in
theorem eqEventS_same (v1 v2 : Value) (xs : List EvD) (w : World) (h1 : EvsAt w v1 xs w.heap.size) (h2 : EvsAt w v2 xs w.heap.size) (hn : xs.length ≤ 1048576) :
    Calls Tryd.prog 8 #[v1, v2] w fun e w' => e = .returned (.bool true) ∧ Below w.heap.size w w' := by
  obtain ⟨a1, c1, rfl⟩ := h1.shape
  obtain ⟨a2, c2, rfl⟩ := h2.shape
  have K1 := hide h1
  have K2 := hide h2
  clear h1 h2
  go_enter Tryd.func8, Tryd.ntmps8
  go_wp2
  go_loopw [5] (fun i wr => ∃ k : Nat, k ≤ xs.length ∧ i = .int .i64 k ∧ Below w.heap.size w wr) (fun i _ => xs.length - (intOf i).toNat)
  case atStart => exact ⟨0, by omega, rfl, Below.refl _ _⟩
  case round =>
    obtain ⟨k, hk, rfl, hnx⟩ := hrel
    by_cases hlt : k < xs.length
    · obtain ⟨x, hx⟩ : ∃ l, xs[k]? = some l := ⟨xs[k], List.getElem?_eq_getElem hlt⟩
      obtain ⟨b1, o1, cp1, hv1, hb1, c0, c1', c2', c3⟩ := K1.out.cells k x hx
      obtain ⟨b2, o2, cp2, hv2, hb2, d0, d1, d2, d3⟩ := K2.out.cells k x hx
      cases hv1
      cases hv2
      rw [← hnx.cell (p := ⟨b1, o1 + k * 4, none⟩) hb1] at c0
      rw [← hnx.cell (p := ⟨b1, o1 + k * 4 + 1, none⟩) hb1] at c1'
      rw [← hnx.cell (p := ⟨b1, o1 + k * 4 + 2, none⟩) hb1] at c2'
      rw [← hnx.cell (p := ⟨b1, o1 + k * 4 + 3, none⟩) hb1] at c3
      rw [← hnx.cell (p := ⟨b2, o2 + k * 4, none⟩) hb2] at d0
      rw [← hnx.cell (p := ⟨b2, o2 + k * 4 + 1, none⟩) hb2] at d1
      rw [← hnx.cell (p := ⟨b2, o2 + k * 4 + 2, none⟩) hb2] at d2
      rw [← hnx.cell (p := ⟨b2, o2 + k * 4 + 3, none⟩) hb2] at d3
      have hzr := hnx.size
      have hb1' : b1 < wr.heap.size := by omega
      have hb2' : b2 < wr.heap.size := by omega
      have hki : (0 : Int) ≤ (k : Int) := by omega
      have hkj : (k : Int) < (xs.length : Int) := by omega
      have hq := eqEvent_same x
      unfold evV at hq
      have HQ := hide hq
      clear hq hx
      go_wp2
      go_region_held3 (fun W => W.cell? ⟨b1, o1 + k * 4, none⟩ = some (.int .i64 x.k) ∧ W.cell? ⟨b1, o1 + k * 4 + 1, none⟩ = some (.int .i64 x.n) ∧ W.cell? ⟨b1, o1 + k * 4 + 2, none⟩ = some (.int .i64 x.a) ∧ W.cell? ⟨b1, o1 + k * 4 + 3, none⟩ = some (.string x.s) ∧ W.cell? ⟨b2, o2 + k * 4, none⟩ = some (.int .i64 x.k) ∧ W.cell? ⟨b2, o2 + k * 4 + 1, none⟩ = some (.int .i64 x.n) ∧ W.cell? ⟨b2, o2 + k * 4 + 2, none⟩ = some (.int .i64 x.a) ∧ W.cell? ⟨b2, o2 + k * 4 + 3, none⟩ = some (.string x.s)) (first | go_keep | (refine ⟨?_, ?_, ?_, ?_, ?_, ?_, ?_, ?_⟩ <;> (rw [hbc.cell (by assumption)]; assumption))) (first | (go_at_call 30; refine (HQ.out _).mono ?_; rintro e w1 ⟨rfl, hbc⟩))
      go_wp2
      go_roundw
      case rel => exact ⟨k + 1, by omega, by go_num, hnx.trans ((Below.refl _ _).drew.trans (hbc.mono hzr))⟩
      case measure => simp [intOf]; omega
    · go_wp2
      go_ret
      exact ⟨rfl, hnx⟩

set_option maxRecDepth 100000 in
set_option maxHeartbeats 4000000 in
theorem markEventS_own (v : Value) (base n : Nat) (ns : List EvD) (q : Int) (w : World) (hn0 : ns.length = n) (h1 : w.ownsRow base 53 4 v n (flat evE ns)) (hb : base ≤ w.heap.size) (hn : n ≤ 1048576) (hq : 0 ≤ q) (hq2 : q ≤ 1000000000) :
    Calls Tryd.prog 10 #[v, .int .i64 q] w fun e w' => e = .returned (.int .i64 (q + 4 * (n : Int))) ∧ w'.ownsRow base 53 4 v n (flat evE (mkAll (mkEv q) n)) ∧ KeepT (fun t => t ≠ 53) w w' ∧ Below base w w' := by
  by_cases h0 : n = 0
  · subst h0
    obtain ⟨a1, c1, rfl⟩ := owns_lenS h1
    have hnn : ns = [] := List.length_eq_zero_iff.1 hn0
    have H1 := hide h1
    rw [hnn] at H1
    clear h1 hn0 hnn
    go_enter Tryd.func10, Tryd.ntmps10
    go_wp2
    refine wp_loop_rounds 1 ?_
    rw [rounds_succ]
    go_wp2
    go_ret
    exact ⟨by simp, H1.out, KeepT.refl _ _, Below.refl _ _⟩
  · obtain ⟨g1, c1, rfl, hg1, hl1⟩ := owns_shapeS h1 (by omega)
    have H1 := hide h1
    have HN0 := hide hn0
    clear h1 h0 hn0
    go_enter Tryd.func10, Tryd.ntmps10
    go_wp2
    go_loopw [5, 1] (fun i r wr => ∃ (k : Nat) (ys : List EvD), k ≤ n ∧ i = .int .i64 k ∧ r = .int .i64 (q + 4 * (k : Int)) ∧ ys.length = n ∧ (∀ j, j < k → ys[j]? = some (mkEv q j)) ∧ wr.ownsRow base 53 4 (.slice (some ⟨g1, 0, none⟩) n c1) n (flat evE ys) ∧ KeepT (fun t => t ≠ 53) w wr ∧ Below base w wr) (fun i _ _ => n - (intOf i).toNat)
    case atStart => exact ⟨0, ns, by omega, rfl, by simp, HN0.out, by omega, H1.out, KeepT.refl _ _, Below.refl _ _⟩
    case round =>
      clear H1
      obtain ⟨k, ys, hk, rfl, rfl, hyl, hys, hown, hkp, hnx⟩ := hrel
      by_cases hlt : k < n
      · have hki : (0 : Int) ≤ (k : Int) := by omega
        have hkj : (k : Int) < (n : Int) := by omega
        obtain ⟨u0, d0⟩ := own_cell hown (k * 4) (by omega)
        obtain ⟨u1, d1⟩ := own_cell hown (k * 4 + 1) (by omega)
        obtain ⟨u2, d2⟩ := own_cell hown (k * 4 + 2) (by omega)
        have f0 := hown.frozenAt (k * 4)
        have f1 := hown.frozenAt (k * 4 + 1)
        have f2 := hown.frozenAt (k * 4 + 2)
        have hsz := hnx.size
        have hg1w : base ≤ g1 ∧ g1 < wr.heap.size := by
          obtain ⟨g', c', e1, e3, e2⟩ := owns_shapeS hown (by omega)
          cases e1
          exact ⟨e3, e2⟩
        have st := (((hown.stored (k * 4) (.int .i64 (q + 4 * (k : Int)))).1.stored (k * 4 + 1) (.int .i64 (q + 4 * (k : Int) + 1))).1.stored (k * 4 + 2) (.int .i64 (q + 4 * (k : Int) + 1 + 1))).1
        have OW := hide hown
        have ST := hide st
        have HYL := hide hyl
        have HYS := hide hys
        have HKP := hide hkp
        clear hown st hyl hys hkp
        go_wp2_with fail
        refine (mark_any _ _ (by omega)).mono ?_
        rintro e w1 ⟨rfl, hb1⟩
        obtain ⟨W, hW⟩ : ∃ W, W = ((wr.setCell ⟨g1, k * 4, none⟩ (.int .i64 (q + 4 * (k : Int)))).setCell ⟨g1, k * 4 + 1, none⟩ (.int .i64 (q + 4 * (k : Int) + 1))).setCell ⟨g1, k * 4 + 2, none⟩ (.int .i64 (q + 4 * (k : Int) + 1 + 1)) := ⟨_, rfl⟩
        have hWs : W.heap.size = wr.heap.size := by rw [hW]; simp
        have ST2 := hide (show W.ownsRow base 53 4 (.slice (some ⟨g1, 0, none⟩) n c1) n _ from by rw [hW]; exact ST.out)
        have HBW := hide (show Below base w W from by rw [hW]; exact ((hnx.setCell (p := ⟨g1, k * 4, none⟩) hg1w.1 _).setCell (p := ⟨g1, k * 4 + 1, none⟩) hg1w.1 _).setCell (p := ⟨g1, k * 4 + 2, none⟩) hg1w.1 _)
        have HGW := hide (show wr.grownBy W (some g1) from by rw [hW]; exact grown_trans (grown_trans (grown_set _ _ _ _) (grown_set _ _ _ _)) (grown_set _ _ _ _))
        rw [← hW] at hb1
        clear hW
        have hown1 := owns_below ST2.out hb1 (Nat.le_refl _)
        have f3 := hown1.frozenAt (k * 4 + 3)
        obtain ⟨u3, d3⟩ := own_cell hown1 (k * 4 + 3) (by omega)
        have st := (hown1.stored (k * 4 + 3) (.string (bs (mkT (q + 4 * (k : Int) + 1 + 1 + 1))))).1
        have e1 : ((((flat evE ys).set (k * 4) (.int .i64 (q + 4 * (k : Int)))).set (k * 4 + 1) (.int .i64 (q + 4 * (k : Int) + 1))).set (k * 4 + 2) (.int .i64 (q + 4 * (k : Int) + 1 + 1))).set (k * 4 + 3) (.string (bs (mkT (q + 4 * (k : Int) + 1 + 1 + 1)))) = flat evE (ys.set k (mkEv q k)) := flat_set evE_len ys k (mkEv q k) (by have := HYL.out; omega)
        rw [e1] at st
        have ST3 := hide st
        have HB1 := hide hb1
        clear hown1 st e1 hb1
        go_wp2
        refine ⟨⟨k + 1, ys.set k (mkEv q k), by omega, by go_num, by go_num, by simp [HYL.out], ?_, ST3.out, ?_, (HBW.out.trans (HB1.out.mono (Nat.le_trans hb HBW.out.size))).setCell hg1w.1 _⟩, by simp [intOf]; omega⟩
        · intro j hj
          by_cases e : j = k
          · subst e
            rw [List.getElem?_set_self (by rw [HYL.out]; exact hlt)]
          · rw [List.getElem?_set_ne (by omega)]
            exact HYS.out j (by omega)
        · exact ((HKP.out.trans (KeepT.grown OW.out (fun t ht => ht) HGW.out)).trans (KeepT.of HB1.out)).trans (KeepT.grown (owns_below ST2.out HB1.out (Nat.le_refl _)) (fun t ht => ht) (grown_set _ _ _ _))
      · have hkn : k = n := by omega
        have hm : ys = mkAll (mkEv q) n := mkAll_all hyl (by rw [← hkn]; exact hys)
        have OW := hide hown
        have HM := hide hm
        have KN := hide hkn
        clear hkn hown hm hyl hys
        go_wp2
        go_ret
        exact ⟨ret_int9 (by rw [KN.out]), by rw [← HM.out]; exact OW.out, hkp, hnx⟩

set_option maxRecDepth 100000 in
set_option maxHeartbeats 4000000 in
theorem heldEventS_all (v : Value) (n : Nat) (q : Int) (w : World) (h1 : EvsAt w v (mkAll (mkEv q) n) w.heap.size) (hn : n ≤ 1048576) (hq : 0 ≤ q) (hq2 : q ≤ 1000000000) :
    Calls Tryd.prog 12 #[v, .int .i64 q] w fun e w' => e = .returned (.int .i64 (q + 4 * (n : Int))) ∧ Below w.heap.size w w' := by
  obtain ⟨a, cap, rfl⟩ := h1.shape
  rw [mkAll_len] at *
  have H1 := hide h1
  clear h1
  go_enter Tryd.func12, Tryd.ntmps12
  go_wp2
  go_loopw [5, 1] (fun i r wr => ∃ k : Nat, k ≤ n ∧ i = .int .i64 k ∧ r = .int .i64 (q + 4 * (k : Int)) ∧ Below w.heap.size w wr) (fun i _ _ => n - (intOf i).toNat)
  case atStart => exact ⟨0, by omega, rfl, by simp, Below.refl _ _⟩
  case round =>
    obtain ⟨k, hk, rfl, rfl, hnx⟩ := hrel
    by_cases hlt : k < n
    · have hki : (0 : Int) ≤ (k : Int) := by omega
      have hkj : (k : Int) < (n : Int) := by omega
      obtain ⟨b, off, cap', hve, hbb, s0, s1, s2, s3⟩ := H1.out.cells k (mkEv q k) (mkAll_at _ _ _ hlt)
      rw [mkAll_len] at hve
      cases hve
      simp only [mkEv] at s0 s1 s2 s3
      obtain ⟨t, ht⟩ : ∃ t, t = bs (mkT (q + 4 * (k : Int) + 1 + 1 + 1)) := ⟨_, rfl⟩
      rw [← ht] at s3
      have hmk : ∀ w, Calls Tryd.prog 33 #[.int .i64 (q + 4 * (k : Int) + 1 + 1 + 1)] w fun e w' => e = .returned (.string t) ∧ Below w.heap.size w w' := fun w => by rw [ht]; exact mark_any _ w (by omega)
      have MK := hide hmk
      have hsz := hnx.size
      have hb2 : b < wr.heap.size := by omega
      rw [← hnx.cell (p := ⟨b, off + k * 4, none⟩) hbb] at s0
      rw [← hnx.cell (p := ⟨b, off + k * 4 + 1, none⟩) hbb] at s1
      rw [← hnx.cell (p := ⟨b, off + k * 4 + 2, none⟩) hbb] at s2
      rw [← hnx.cell (p := ⟨b, off + k * 4 + 3, none⟩) hbb] at s3
      clear ht hmk
      go_wp2
      go_region_held3 (fun w' => w'.cell? ⟨b, off + k * 4 + 3, none⟩ = some (.string t)) (first | go_keep | (rw [hbc.cell (p := ⟨b, off + k * 4 + 3, none⟩) (by simp; omega)]; go_keep)) (first | (go_at_call 33; refine (MK.out _).mono ?_; rintro e w' ⟨rfl, hbc⟩))
      go_wp2
      go_roundw
      case rel => exact ⟨k + 1, by omega, by go_num, by go_num, hnx.trans ((Below.refl _ _).drew.trans (hbc.mono hsz))⟩
      case measure => simp [intOf]; omega
    · have hkn : k = n := by omega
      have KN := hide hkn
      clear hkn
      go_wp2
      go_ret
      exact ⟨ret_int9 (by rw [KN.out]), hnx⟩
end Go.Proofs.YtpiookjdeopmgaaDoor
