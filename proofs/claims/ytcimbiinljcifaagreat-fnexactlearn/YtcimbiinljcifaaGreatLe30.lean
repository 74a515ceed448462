/-
  laws.markLinkS, markThingS, heldLinkS, heldThingS: only the row's own memory turns; what was marked is held.
  laws.markNet, heldNet, markSelf, heldSelf: just the blocks of its own turn; what was marked is held.
-/
import Derived.Test.YtcimbiinljcifaaGreatLe3
import Derived.Test.YtcimbiinljcifaaGreatLe2
import Derived.Test.YtcimbiinljcifaaGreatLe21
import Derived.Test.YtcimbiinljcifaaGreatLe7
namespace Go.Proofs.YtcimbiinljcifaaGreat
open Go.RowKit

def mkOfL (q : Int) (i : Nat) : Lk := ⟨q + 4 * (i : Int), q + 4 * (i : Int) + 1, q + 4 * (i : Int) + 1 + 1, q + 4 * (i : Int) + 1 + 1 + 1⟩

def marksL (q : Int) (n : Nat) : List Lk := (List.range n).map (mkOfL q)

theorem marksL_len (q : Int) (n : Nat) : (marksL q n).length = n := by simp [marksL]

theorem marksL_all {q : Int} {n : Nat} {ys : List Lk} (hl : ys.length = n) (h : ∀ j, j < n → ys[j]? = some (mkOfL q j)) : ys = marksL q n := by
  apply List.ext_getElem?
  intro i
  by_cases hi : i < n
  · rw [h i hi]
    simp [marksL, hi]
  · rw [List.getElem?_eq_none (by omega), List.getElem?_eq_none (by rw [marksL_len]; omega)]

set_option maxRecDepth 100000 in
set_option maxHeartbeats 2000000 in
theorem markLinkS_own (v : Value) (base n : Nat) (ns : List Lk) (q : Int) (w : World) (hn0 : ns.length = n) (h1 : w.ownsRow base 127 4 v n (flat lkE ns)) (hn : n ≤ 1048576) (hq : 0 ≤ q) (hq2 : q ≤ 1000000000) :
    Calls Tryz.prog 93 #[v, .int .i64 q] w fun e w' => e = .returned (.int .i64 (q + 4 * (n : Int))) ∧ w'.ownsRow base 127 4 v n (flat lkE (marksL q n)) ∧ w.grownBy w' v.ownBlock := by
  by_cases h0 : n = 0
  · subst h0
    obtain ⟨a1, c1, rfl⟩ := owns_lenS h1
    have hnn : ns = [] := List.length_eq_zero_iff.1 hn0
    have H1 := hide h1
    rw [hnn] at H1
    clear h1 hn0 hnn
    go_enter Tryz.func93, Tryz.ntmps93
    go_wp2
    refine wp_loop_rounds 1 ?_
    rw [rounds_succ]
    go_wp2
    go_ret
    exact ⟨by simp, H1.out, grown_refl _ _⟩
  · obtain ⟨g1, c1, rfl, hg1, hl1⟩ := owns_shapeS h1 (by omega)
    have H1 := hide h1
    have HN0 := hide hn0
    clear h1 h0 hn0
    go_enter Tryz.func93, Tryz.ntmps93
    go_wp2
    go_loopw [5, 1] (fun i r wr => ∃ (k : Nat) (ys : List Lk), k ≤ n ∧ i = .int .i64 k ∧ r = .int .i64 (q + 4 * (k : Int)) ∧ ys.length = n ∧ (∀ j, j < k → ys[j]? = some (mkOfL q j)) ∧ wr.ownsRow base 127 4 (.slice (some ⟨g1, 0, none⟩) n c1) n (flat lkE ys) ∧ w.grownBy wr (some g1)) (fun i _ _ => n - (intOf i).toNat)
    case atStart => exact ⟨0, ns, by omega, rfl, by simp, HN0.out, by omega, H1.out, grown_refl _ _⟩
    case round =>
      clear H1
      obtain ⟨k, ys, hk, rfl, rfl, hyl, hys, hown, hnx⟩ := hrel
      by_cases hlt : k < n
      · have hki : (0 : Int) ≤ (k : Int) := by omega
        have hkj : (k : Int) < (n : Int) := by omega
        obtain ⟨u0, d0⟩ := own_cell hown (k * 4) (by omega)
        obtain ⟨u1, d1⟩ := own_cell hown (k * 4 + 1) (by omega)
        obtain ⟨u2, d2⟩ := own_cell hown (k * 4 + 2) (by omega)
        obtain ⟨u3, d3⟩ := own_cell hown (k * 4 + 3) (by omega)
        have f0 := hown.frozenAt (k * 4)
        have f1 := hown.frozenAt (k * 4 + 1)
        have f2 := hown.frozenAt (k * 4 + 2)
        have f3 := hown.frozenAt (k * 4 + 3)
        have st := ((((hown.stored (k * 4) (.int .i64 (q + 4 * (k : Int)))).1.stored (k * 4 + 1) (.int .i64 (q + 4 * (k : Int) + 1))).1.stored (k * 4 + 2) (.int .i64 (q + 4 * (k : Int) + 1 + 1))).1.stored (k * 4 + 3) (.int .i64 (q + 4 * (k : Int) + 1 + 1 + 1))).1
        have e1 : (((((flat lkE ys).set (k * 4) (.int .i64 (q + 4 * (k : Int)))).set (k * 4 + 1) (.int .i64 (q + 4 * (k : Int) + 1))).set (k * 4 + 2) (.int .i64 (q + 4 * (k : Int) + 1 + 1))).set (k * 4 + 3) (.int .i64 (q + 4 * (k : Int) + 1 + 1 + 1))) = flat lkE (ys.set k (mkOfL q k)) := flat_set lkE_len ys k (mkOfL q k) (by omega)
        rw [e1] at st
        have ST := hide st
        have HYL := hide hyl
        have HYS := hide hys
        clear hown st e1 hyl hys
        go_wp2
        refine ⟨⟨k + 1, ys.set k (mkOfL q k), by omega, by go_num, by go_num, by simp [HYL.out], ?_, ST.out, grown_trans (grown_trans (grown_trans (grown_trans hnx (grown_set _ _ _ _)) (grown_set _ _ _ _)) (grown_set _ _ _ _)) (grown_set _ _ _ _)⟩, by simp [intOf]; omega⟩
        intro j hj
        by_cases e : j = k
        · subst e
          rw [List.getElem?_set_self (by rw [HYL.out]; exact hlt)]
        · rw [List.getElem?_set_ne (by omega)]
          exact HYS.out j (by omega)
      · have hkn : k = n := by omega
        have hm : ys = marksL q n := marksL_all hyl (by rw [← hkn]; exact hys)
        have OW := hide hown
        have HM := hide hm
        have KN := hide hkn
        clear hkn hown hm hyl hys
        go_wp2
        go_ret
        exact ⟨ret_int1 (by rw [KN.out]), by rw [← HM.out]; exact OW.out, hnx⟩

set_option maxRecDepth 100000 in
set_option maxHeartbeats 1000000 in
theorem heldLinkS_any (v : Value) (n : Nat) (q : Int) (w : World) (h1 : LinksAt w v (marksL q n) w.heap.size) (hn : n ≤ 1048576) (hq : 0 ≤ q) (hq2 : q ≤ 1000000000) :
    Calls Tryz.prog 95 #[v, .int .i64 q] w fun e w' => e = .returned (.int .i64 (q + 4 * (n : Int))) ∧ w = w' := by
  obtain ⟨a, cap, rfl⟩ := h1.shape
  rw [marksL_len] at *
  have H1 := hide h1
  clear h1
  go_enter Tryz.func95, Tryz.ntmps95
  go_wp2
  go_loop [5, 1] (fun i r => ∃ k : Nat, k ≤ n ∧ i = .int .i64 k ∧ r = .int .i64 (q + 4 * (k : Int))) (fun i _ => n - (intOf i).toNat)
  case atStart => exact ⟨0, by omega, rfl, by simp⟩
  case round =>
    obtain ⟨k, hk, rfl, rfl⟩ := hrel
    by_cases hlt : k < n
    · have hki : (0 : Int) ≤ (k : Int) := by omega
      have hkj : (k : Int) < (n : Int) := by omega
      obtain ⟨b, off, cap', hve, hbb, s0, s1, s2, s3⟩ := H1.out.cells k (mkOfL q k) (by simp [marksL, hlt])
      rw [marksL_len] at hve
      cases hve
      simp only [mkOfL] at s0 s1 s2 s3
      go_wp2
      go_round
      case rel => exact ⟨k + 1, by omega, by go_num, by go_num⟩
      case measure => simp [intOf]; omega
    · have hkn : k = n := by omega
      have KN := hide hkn
      clear hkn
      go_wp2
      go_ret
      exact ⟨ret_int1 (by rw [KN.out]), rfl⟩

def mkOfT (q : Int) (i : Nat) : Th := ⟨q + 4 * (i : Int), q + 4 * (i : Int) + 1, q + 4 * (i : Int) + 1 + 1, (q + 4 * (i : Int) + 1 + 1 + 1) % 3 == 0⟩

def marksT (q : Int) (n : Nat) : List Th := (List.range n).map (mkOfT q)

theorem marksT_len (q : Int) (n : Nat) : (marksT q n).length = n := by simp [marksT]

theorem marksT_all {q : Int} {n : Nat} {ys : List Th} (hl : ys.length = n) (h : ∀ j, j < n → ys[j]? = some (mkOfT q j)) : ys = marksT q n := by
  apply List.ext_getElem?
  intro i
  by_cases hi : i < n
  · rw [h i hi]
    simp [marksT, hi]
  · rw [List.getElem?_eq_none (by omega), List.getElem?_eq_none (by rw [marksT_len]; omega)]

set_option maxRecDepth 100000 in
set_option maxHeartbeats 2000000 in
theorem markThingS_own (v : Value) (base n : Nat) (ns : List Th) (q : Int) (w : World) (hn0 : ns.length = n) (h1 : w.ownsRow base 131 4 v n (flat thE ns)) (hn : n ≤ 1048576) (hq : 0 ≤ q) (hq2 : q ≤ 1000000000) :
    Calls Tryz.prog 94 #[v, .int .i64 q] w fun e w' => e = .returned (.int .i64 (q + 4 * (n : Int))) ∧ w'.ownsRow base 131 4 v n (flat thE (marksT q n)) ∧ w.grownBy w' v.ownBlock := by
  by_cases h0 : n = 0
  · subst h0
    obtain ⟨a1, c1, rfl⟩ := owns_lenS h1
    have hnn : ns = [] := List.length_eq_zero_iff.1 hn0
    have H1 := hide h1
    rw [hnn] at H1
    clear h1 hn0 hnn
    go_enter Tryz.func94, Tryz.ntmps94
    go_wp2
    refine wp_loop_rounds 1 ?_
    rw [rounds_succ]
    go_wp2
    go_ret
    exact ⟨by simp, H1.out, grown_refl _ _⟩
  · obtain ⟨g1, c1, rfl, hg1, hl1⟩ := owns_shapeS h1 (by omega)
    have H1 := hide h1
    have HN0 := hide hn0
    clear h1 h0 hn0
    go_enter Tryz.func94, Tryz.ntmps94
    go_wp2
    go_loopw [5, 1] (fun i r wr => ∃ (k : Nat) (ys : List Th), k ≤ n ∧ i = .int .i64 k ∧ r = .int .i64 (q + 4 * (k : Int)) ∧ ys.length = n ∧ (∀ j, j < k → ys[j]? = some (mkOfT q j)) ∧ wr.ownsRow base 131 4 (.slice (some ⟨g1, 0, none⟩) n c1) n (flat thE ys) ∧ w.grownBy wr (some g1)) (fun i _ _ => n - (intOf i).toNat)
    case atStart => exact ⟨0, ns, by omega, rfl, by simp, HN0.out, by omega, H1.out, grown_refl _ _⟩
    case round =>
      clear H1
      obtain ⟨k, ys, hk, rfl, rfl, hyl, hys, hown, hnx⟩ := hrel
      by_cases hlt : k < n
      · have hki : (0 : Int) ≤ (k : Int) := by omega
        have hkj : (k : Int) < (n : Int) := by omega
        obtain ⟨u0, d0⟩ := own_cell hown (k * 4) (by omega)
        obtain ⟨u1, d1⟩ := own_cell hown (k * 4 + 1) (by omega)
        obtain ⟨u2, d2⟩ := own_cell hown (k * 4 + 2) (by omega)
        obtain ⟨u3, d3⟩ := own_cell hown (k * 4 + 3) (by omega)
        have f0 := hown.frozenAt (k * 4)
        have f1 := hown.frozenAt (k * 4 + 1)
        have f2 := hown.frozenAt (k * 4 + 2)
        have f3 := hown.frozenAt (k * 4 + 3)
        have st := ((((hown.stored (k * 4) (.int .i64 (q + 4 * (k : Int)))).1.stored (k * 4 + 1) (.int .i64 (q + 4 * (k : Int) + 1))).1.stored (k * 4 + 2) (.int .i64 (q + 4 * (k : Int) + 1 + 1))).1.stored (k * 4 + 3) (.bool ((q + 4 * (k : Int) + 1 + 1 + 1) % 3 == 0))).1
        have e1 : (((((flat thE ys).set (k * 4) (.int .i64 (q + 4 * (k : Int)))).set (k * 4 + 1) (.int .i64 (q + 4 * (k : Int) + 1))).set (k * 4 + 2) (.int .i64 (q + 4 * (k : Int) + 1 + 1))).set (k * 4 + 3) (.bool ((q + 4 * (k : Int) + 1 + 1 + 1) % 3 == 0))) = flat thE (ys.set k (mkOfT q k)) := flat_set thE_len ys k (mkOfT q k) (by omega)
        rw [e1] at st
        have ST := hide st
        have HYL := hide hyl
        have HYS := hide hys
        clear hown st e1 hyl hys
        go_wp2
        refine ⟨⟨k + 1, ys.set k (mkOfT q k), by omega, by go_num, by go_num, by simp [HYL.out], ?_, ST.out, grown_trans (grown_trans (grown_trans (grown_trans hnx (grown_set _ _ _ _)) (grown_set _ _ _ _)) (grown_set _ _ _ _)) (grown_set _ _ _ _)⟩, by simp [intOf]; omega⟩
        intro j hj
        by_cases e : j = k
        · subst e
          rw [List.getElem?_set_self (by rw [HYL.out]; exact hlt)]
        · rw [List.getElem?_set_ne (by omega)]
          exact HYS.out j (by omega)
      · have hkn : k = n := by omega
        have hm : ys = marksT q n := marksT_all hyl (by rw [← hkn]; exact hys)
        have OW := hide hown
        have HM := hide hm
        have KN := hide hkn
        clear hkn hown hm hyl hys
        go_wp2
        go_ret
        exact ⟨ret_int1 (by rw [KN.out]), by rw [← HM.out]; exact OW.out, hnx⟩

set_option maxRecDepth 100000 in
set_option maxHeartbeats 1000000 in
theorem heldThingS_any (v : Value) (n : Nat) (q : Int) (w : World) (h1 : ThingsAt w v (marksT q n) w.heap.size) (hn : n ≤ 1048576) (hq : 0 ≤ q) (hq2 : q ≤ 1000000000) :
    Calls Tryz.prog 96 #[v, .int .i64 q] w fun e w' => e = .returned (.int .i64 (q + 4 * (n : Int))) ∧ w = w' := by
  obtain ⟨a, cap, rfl⟩ := h1.shape
  rw [marksT_len] at *
  have H1 := hide h1
  clear h1
  go_enter Tryz.func96, Tryz.ntmps96
  go_wp2
  go_loop [5, 1] (fun i r => ∃ k : Nat, k ≤ n ∧ i = .int .i64 k ∧ r = .int .i64 (q + 4 * (k : Int))) (fun i _ => n - (intOf i).toNat)
  case atStart => exact ⟨0, by omega, rfl, by simp⟩
  case round =>
    obtain ⟨k, hk, rfl, rfl⟩ := hrel
    by_cases hlt : k < n
    · have hki : (0 : Int) ≤ (k : Int) := by omega
      have hkj : (k : Int) < (n : Int) := by omega
      obtain ⟨b, off, cap', hve, hbb, s0, s1, s2, s3⟩ := H1.out.cells k (mkOfT q k) (by simp [marksT, hlt])
      rw [marksT_len] at hve
      cases hve
      simp only [mkOfT] at s0 s1 s2 s3
      go_wp2
      go_round
      case rel => exact ⟨k + 1, by omega, by go_num, by go_num⟩
      case measure => simp [intOf]; omega
    · have hkn : k = n := by omega
      have KN := hide hkn
      clear hkn
      go_wp2
      go_ret
      exact ⟨ret_int1 (by rw [KN.out]), rfl⟩
end Go.Proofs.YtcimbiinljcifaaGreat
namespace Go.Proofs.YtcimbiinljcifaaGreat
open Go.RowKit

theorem own_box_ne {w : World} {base size n : Nat} {e : TypeId} {v : Value} {xs : List Value} (h : w.ownsRow base e size v n xs) : some w.heap.size ≠ v.ownBlock := fun e => by have := (h.lt _ e.symm).2; omega

set_option maxRecDepth 100000 in
set_option maxHeartbeats 1000000 in
theorem markNet_own (n : Int) (v1 v2 : Value) (base : Nat) (ls : List Lk) (ts : List Th) (c : Int) (w : World) (h1 : w.ownsRow base 127 4 v1 ls.length (flat lkE ls)) (h2 : w.ownsRow base 131 4 v2 ts.length (flat thE ts)) (hn : ls.length ≤ 1048576) (hm : ts.length ≤ 1048576) (hc : 0 ≤ c) (hc2 : c ≤ 10000000) :
    Calls Tryz.prog 51 #[.agg #[.int .i64 n, v1, v2], .int .i64 c] w fun e w' => e = .returned (.int .i64 (c + 4 * (ls.length : Int) + 4 * (ts.length : Int))) ∧ w'.ownsRow base 127 4 v1 ls.length (flat lkE (marksL c ls.length)) ∧ w'.ownsRow base 131 4 v2 ts.length (flat thE (marksT (c + 4 * (ls.length : Int)) ts.length)) ∧ FrameS (fun k => v1.ownBlock = some k ∨ v2.ownBlock = some k) w w' := by
  obtain ⟨a1, c1, rfl⟩ := owns_lenS h1
  obtain ⟨a2, c2, rfl⟩ := owns_lenS h2
  have BA := (Below.refl w.heap.size w).alloc (Nat.le_refl _) (.cells #[.int .i64 n, .slice a1 ls.length c1, .slice a2 ts.length c2] 27)
  have g0 := heap_alloc_new w (.cells #[.int .i64 n, .slice a1 ls.length c1, .slice a2 ts.length c2] 27)
  have HM1 := hide (markLinkS_own _ base ls.length ls c _ rfl (h1.alloc (.cells #[.int .i64 n, .slice a1 ls.length c1, .slice a2 ts.length c2] 27)) hn hc (by omega))
  have N1 := own_box_ne h1
  have N2 := own_box_ne h2
  have H1 := hide h1
  have H2 := hide (h2.alloc (.cells #[.int .i64 n, .slice a1 ls.length c1, .slice a2 ts.length c2] 27))
  have H2' := hide h2
  have G0 := hide g0
  clear h1 h2 g0
  go_enter Tryz.func51, Tryz.ntmps51
  go_wp2_with fail
  obtain ⟨w0, hw0⟩ : ∃ W, W = w.alloc (.cells #[.int .i64 n, .slice a1 ls.length c1, .slice a2 ts.length c2] 27) := ⟨_, rfl⟩
  rw [← hw0] at BA G0 HM1 H2 ⊢
  clear hw0
  refine HM1.out.mono ?_
  rintro e w1 ⟨rfl, o1, gr1⟩
  have g1 := (gr1.block _ (lt_of_heap G0.out) N1).trans G0.out
  have hx : ∀ k, (Value.slice a1 ls.length c1).ownBlock = some k → (Value.slice a2 ts.length c2).ownBlock ≠ some k := fun k hk e => by
    rcases H1.out.2 with ⟨h, _⟩ | ⟨g', cap', cur', hv', _, hh', _⟩
    · rw [h] at hk; simp [Value.ownBlock] at hk
    · rw [hv'] at hk
      simp [Value.ownBlock] at hk
      subst hk
      exact own_type_ne2 H2'.out hh' (by decide) e.symm
  have o2 := owns_keepB (W' := w1) H2.out (fun k hk => gr1.block k (H2.out.lt k hk).2 (fun e => hx k e.symm hk))
  have F1 : FrameS (fun k => (Value.slice a1 ls.length c1).ownBlock = some k ∨ (Value.slice a2 ts.length c2).ownBlock = some k) w w1 := ⟨gr1.os.trans BA.os, gr1.tape.trans BA.tape, gr1.output.trans BA.output, Nat.le_trans BA.size gr1.size, fun k hk hs => (gr1.block k (Nat.lt_of_lt_of_le hk BA.size) (fun e => hs (.inl e.symm))).trans (BA.block k hk)⟩
  have s2 := cells_at g1 2
  simp at s2
  have HM2 := hide (markThingS_own _ base ts.length ts (c + 4 * (ls.length : Int)) w1 rfl o2 hm (by omega) (by omega))
  have O1 := hide o1
  have HX := hide hx
  clear g1 o1 o2 hx HM1 gr1
  go_wp2_with fail
  refine HM2.out.mono ?_
  rintro e w2 ⟨rfl, o2, gr2⟩
  have F2 := F1.trans (FrameS.grown gr2 (fun k hk => .inr hk))
  have o1 := owns_keepB (W' := w2) O1.out (fun k hk => gr2.block k (O1.out.lt k hk).2 (fun e => HX.out k hk e.symm))
  have O2 := hide o2
  have O3 := hide o1
  clear o1 o2 gr2 s2 HM2
  go_wp2
  go_ret
  exact ⟨rfl, O3.out, O2.out, F2⟩

set_option maxRecDepth 100000 in
set_option maxHeartbeats 1000000 in
theorem heldNet_any (n : Int) (v1 v2 : Value) (nl nt : Nat) (c : Int) (w : World) (h1 : LinksAt w v1 (marksL c nl) w.heap.size) (h2 : ThingsAt w v2 (marksT (c + 4 * (nl : Int)) nt) w.heap.size) (hn : nl ≤ 1048576) (hm : nt ≤ 1048576) (hc : 0 ≤ c) (hc2 : c ≤ 10000000) :
    Calls Tryz.prog 54 #[.agg #[.int .i64 n, v1, v2], .int .i64 c] w fun e w' => e = .returned (.int .i64 (c + 4 * (nl : Int) + 4 * (nt : Int))) ∧ Below w.heap.size w w' := by
  obtain ⟨a1, c1, rfl⟩ := h1.shape
  obtain ⟨a2, c2, rfl⟩ := h2.shape
  rw [marksL_len, marksT_len] at *
  have BA := (Below.refl w.heap.size w).alloc (Nat.le_refl _) (.cells #[.int .i64 n, .slice a1 nl c1, .slice a2 nt c2] 27)
  have HL := hide (heldLinkS_any _ nl c _ (RowAt.then h1 BA) hn hc (by omega))
  have HT := hide (heldThingS_any _ nt (c + 4 * (nl : Int)) _ (RowAt.then h2 BA) hm (by omega) (by omega))
  have hp1 : ¬ c + 4 * (nl : Int) < 0 := by omega
  have hp2 : ¬ c + 4 * (nl : Int) + 4 * (nt : Int) < 0 := by omega
  clear h1 h2
  go_enter Tryz.func54, Tryz.ntmps54
  go_wp2_with fail
  refine HL.out.mono ?_
  rintro e w1 ⟨rfl, rfl⟩
  go_wp2_with fail
  refine HT.out.mono ?_
  rintro e w1 ⟨rfl, rfl⟩
  go_wp2
  go_ret
  exact ⟨rfl, BA⟩

/-- the blocks of a node -/
def SelfBlk (v1 v2 v3 v4 : Value) (ps : List RP) (k : Nat) : Prop := (v1.ownBlock = some k ∨ v2.ownBlock = some k) ∨ v3.ownBlock = some k ∨ BlkOf v4 ps k

/-- a node that is marked from c on -/
def mkSelf (c : Int) (x : SelfD) : SelfD := ⟨x.id, x.boot, ⟨x.net.n, marksL c x.net.ls.length, marksT (c + 4 * (x.net.ls.length : Int)) x.net.ts.length⟩, marksI (c + 4 * (x.net.ls.length : Int) + 4 * (x.net.ts.length : Int)) x.heard.length⟩

def mkAt (c : Int) (x : SelfD) : Int := c + 4 * (x.net.ls.length : Int) + 4 * (x.net.ts.length : Int) + (x.heard.length : Int)

theorem SelfOwn.blk {W : World} {lo hi m1 m2 : Nat} {v1 v2 v3 v4 : Value} {x : SelfD} {ps : List RP} (h : SelfOwn W lo hi v1 v2 v3 v4 x ps m1 m2) (k : Nat) (hk : SelfBlk v1 v2 v3 v4 ps k) : lo ≤ k ∧ k < hi ∧ k < W.heap.size := by
  have h1 := h.o1
  have h2 := h.o2
  have h3 := h.o3
  rcases hk with (e | e) | e | e
  · have a := h.links.lt k e; have b := h.ltop k e; omega
  · have a := h.things.lt k e; have b := h.ttop k e; omega
  · have a := h.heard.row.lt k e; have b := h.heard.top k e; omega
  · have a := h.store.blk k e; omega

theorem SelfOwn.keepS {W W' : World} {lo hi m1 m2 : Nat} {v1 v2 v3 v4 : Value} {x : SelfD} {ps : List RP} (h : SelfOwn W lo hi v1 v2 v3 v4 x ps m1 m2) (hk : ∀ k, SelfBlk v1 v2 v3 v4 ps k → W'.heap[k]? = W.heap[k]?) : SelfOwn W' lo hi v1 v2 v3 v4 x ps m1 m2 where
  o1 := h.o1
  o2 := h.o2
  o3 := h.o3
  links := owns_keepB h.links (fun k e => hk k (.inl (.inl e)))
  ltop := h.ltop
  things := owns_keepB h.things (fun k e => hk k (.inl (.inr e)))
  ttop := h.ttop
  heard := ⟨owns_keepB h.heard.row (fun k e => hk k (.inr (.inl e))), h.heard.top⟩
  store := h.store.keepS (fun k e => hk k (.inr (.inr e)))

theorem markInts_fine (v : Value) (l : List Int) (lo hi : Nat) (q : Int) (w : World) (h : IntsOwn w lo hi v l) (hn : l.length ≤ 1048576) (hq : 0 ≤ q) (hq2 : q ≤ 1000000000) :
    Calls Tryz.prog 52 #[v, .int .i64 q] w fun e w' => e = .returned (.int .i64 (q + (l.length : Int))) ∧ IntsOwn w' lo hi v (marksI q l.length) ∧ w.grownBy w' v.ownBlock := by
  refine (markG_any v lo l q w h.row hn hq hq2).mono ?_
  rintro e w' ⟨rfl, ho, hg⟩
  exact ⟨rfl, ⟨by rw [marksI_length]; exact ho, h.top⟩, hg⟩

set_option maxRecDepth 100000 in
set_option maxHeartbeats 2000000 in
theorem markSelf_own (v1 v2 v3 v4 : Value) (x : SelfD) (ps : List RP) (lo hi m1 m2 : Nat) (c : Int) (w : World) (h : SelfOwn w lo hi v1 v2 v3 v4 x ps m1 m2) (hhi : hi ≤ w.heap.size) (ht : totS x ps ≤ 1048576) (hc : 0 ≤ c) (hc2 : c ≤ 1000000) :
    Calls Tryz.prog 20 #[selfV x v1 v2 v3 v4, .int .i64 c] w fun e w' => e = .returned (.int .i64 (mkE (mkAt c x) ps)) ∧ SelfOwn w' lo hi v1 v2 v3 v4 (mkSelf c x) (mkL (mkAt c x) ps) m1 m2 ∧ FrameS (SelfBlk v1 v2 v3 v4 ps) w w' := by
  obtain ⟨⟨a1, c1, rfl⟩, ⟨a2, c2, rfl⟩, ⟨a3, c3, rfl⟩, ⟨a4, c4, rfl⟩⟩ := h.in.shapes
  have hlL : x.net.ls.length ≤ 1048576 := by unfold totS at ht; omega
  have hlT : x.net.ts.length ≤ 1048576 := by unfold totS at ht; omega
  have hlH : x.heard.length ≤ 1048576 := by unfold totS at ht; omega
  have hlR : tot ps ≤ 1048576 := by unfold totS at ht; omega
  have htt : (x.net.ls.length : Int) + (x.net.ts.length : Int) + (x.heard.length : Int) + (tot ps : Int) ≤ 1048576 := by unfold totS at ht; omega
  have BA := (Below.refl w.heap.size w).alloc (Nat.le_refl _) (.cells #[.int .i64 x.id, .int .i64 x.boot, .int .i64 x.net.n, .slice a1 x.net.ls.length c1, .slice a2 x.net.ts.length c2, .slice a3 x.heard.length c3, .slice a4 ps.length c4] 31)
  have g0 := heap_alloc_new w (.cells #[.int .i64 x.id, .int .i64 x.boot, .int .i64 x.net.n, .slice a1 x.net.ls.length c1, .slice a2 x.net.ts.length c2, .slice a3 x.heard.length c3, .slice a4 ps.length c4] 31)
  have HM1 := hide (markNet_own x.net.n _ _ lo x.net.ls x.net.ts c _ (h.links.alloc (.cells #[.int .i64 x.id, .int .i64 x.boot, .int .i64 x.net.n, .slice a1 x.net.ls.length c1, .slice a2 x.net.ts.length c2, .slice a3 x.heard.length c3, .slice a4 ps.length c4] 31)) (h.things.alloc _) hlL hlT hc (by omega))
  have HB := hide (fun k => h.blk k)
  have H := hide h
  have G0 := hide g0
  clear h g0
  go_enter Tryz.func20, Tryz.ntmps20
  go_wp2_with fail
  obtain ⟨w0, hw0⟩ : ∃ W, W = w.alloc (.cells #[.int .i64 x.id, .int .i64 x.boot, .int .i64 x.net.n, .slice a1 x.net.ls.length c1, .slice a2 x.net.ts.length c2, .slice a3 x.heard.length c3, .slice a4 ps.length c4] 31) := ⟨_, rfl⟩
  rw [← hw0] at BA G0 HM1 ⊢
  clear hw0
  refine HM1.out.mono ?_
  rintro e w1 ⟨rfl, o1, o2, f1⟩
  have bas := BA.size
  have f1s := f1.size
  have oo1 := H.out.o1
  have oo2 := H.out.o2
  have oo3 := H.out.o3
  have nb1 : ¬ ((Value.slice a1 x.net.ls.length c1).ownBlock = some w.heap.size ∨ (Value.slice a2 x.net.ts.length c2).ownBlock = some w.heap.size) := fun e => by have := (HB.out _ (.inl e)).2.2; omega
  have g1 := (f1.block _ (lt_of_heap G0.out) nb1).trans G0.out
  have F1 : FrameS (SelfBlk (.slice a1 x.net.ls.length c1) (.slice a2 x.net.ts.length c2) (.slice a3 x.heard.length c3) (.slice a4 ps.length c4) ps) w w1 := ⟨f1.os.trans BA.os, f1.tape.trans BA.tape, f1.output.trans BA.output, Nat.le_trans BA.size f1.size, fun k hk hs => (f1.block k (Nat.lt_of_lt_of_le hk BA.size) (fun e => hs (.inl e))).trans (BA.block k hk)⟩
  have low : ∀ k, ((Value.slice a1 x.net.ls.length c1).ownBlock = some k ∨ (Value.slice a2 x.net.ts.length c2).ownBlock = some k) → k < m1 := fun k e => by
    rcases e with e | e
    · exact H.out.ltop k e
    · exact H.out.ttop k e
  have i1 := H.out.heard.keep (W' := w1) (fun k h1 _ h3 => (f1.block k (by omega) (fun e => by have := low k e; omega)).trans (BA.block k h3))
  have r1 := H.out.store.keep (W' := w1) (fun k h1 _ h3 => (f1.block k (by omega) (fun e => by have := low k e; omega)).trans (BA.block k h3))
  have s5 := cells_at g1 5
  simp at s5
  have HM2 := hide (markInts_fine _ x.heard m1 m2 (c + 4 * (x.net.ls.length : Int) + 4 * (x.net.ts.length : Int)) w1 i1 hlH (by omega) (by omega))
  have O1 := hide o1
  have O2 := hide o2
  have R1 := hide r1
  have G1 := hide g1
  have LOW := hide low
  clear o1 o2 f1 i1 r1 g1 low nb1 HM1 G0
  go_wp2_with fail
  refine HM2.out.mono ?_
  rintro e w2 ⟨rfl, i2, f2⟩
  have f2s := f2.size
  have hb3 : ∀ k, (Value.slice a3 x.heard.length c3).ownBlock = some k → m1 ≤ k ∧ k < m2 := fun k e => ⟨(H.out.heard.row.lt k e).1, H.out.heard.top k e⟩
  have g2 := (f2.block _ (lt_of_heap G1.out) (fun e => by have := hb3 _ e.symm; omega)).trans G1.out
  have o1 := owns_keepB (W' := w2) O1.out (fun k hk => f2.block k (O1.out.lt k hk).2 (fun e => by have := hb3 _ e.symm; have := LOW.out k (.inl hk); omega))
  have o2 := owns_keepB (W' := w2) O2.out (fun k hk => f2.block k (O2.out.lt k hk).2 (fun e => by have := hb3 _ e.symm; have := LOW.out k (.inr hk); omega))
  have r2 := R1.out.keep (W' := w2) (fun k h1 _ h3 => f2.block k h3 (fun e => by have := hb3 _ e.symm; omega))
  have F2 := F1.trans (FrameS.grown f2 (fun k hk => .inr (.inl hk)))
  have s6 := cells_at g2 6
  simp at s6
  have HM3 := hide (markRecordS_fine _ m2 hi ps (mkAt c x) w2 r2 hlR (by unfold mkAt; omega) (by unfold mkAt; omega))
  have HAT := hide (show c + 4 * (x.net.ls.length : Int) + 4 * (x.net.ts.length : Int) + (x.heard.length : Int) = mkAt c x from rfl)
  have P1 := hide o1
  have P2 := hide o2
  have I2 := hide i2
  clear o1 o2 i2 r2 g2 f2 hb3 HM2 s5 O1 O2 R1 F1 G1
  rw [HAT.out]
  go_wp2_with fail
  refine HM3.out.mono ?_
  rintro e w3 ⟨rfl, r3, f3⟩
  have hb4 : ∀ k, BlkOf (.slice a4 ps.length c4) ps k → m2 ≤ k := fun k e => (H.out.store.blk k e).1
  have F3 := F2.trans (f3.mono (fun k hk => .inr (.inr hk)))
  have fin : SelfOwn w3 lo hi (.slice a1 x.net.ls.length c1) (.slice a2 x.net.ts.length c2) (.slice a3 x.heard.length c3) (.slice a4 ps.length c4) (mkSelf c x) (mkL (mkAt c x) ps) m1 m2 :=
    { o1 := oo1
      o2 := oo2
      o3 := oo3
      links := by
        have h := owns_keepB (W' := w3) P1.out (fun k hk => f3.block k (P1.out.lt k hk).2 (fun e => by have := hb4 _ e; have := LOW.out k (.inl hk); omega))
        simp only [mkSelf]
        rw [marksL_len]
        exact h
      ltop := H.out.ltop
      things := by
        have h := owns_keepB (W' := w3) P2.out (fun k hk => f3.block k (P2.out.lt k hk).2 (fun e => by have := hb4 _ e; have := LOW.out k (.inr hk); omega))
        simp only [mkSelf]
        rw [marksT_len]
        exact h
      ttop := H.out.ttop
      heard := I2.out.keep (W' := w3) (fun k _ h2 h3 => f3.block k h3 (fun e => by have := hb4 _ e; omega))
      store := r3 }
  have FIN := hide fin
  have FF := hide F3
  clear fin F3 r3 f3 hb4 s6 HM3 P1 P2 I2 F2
  go_wp2
  go_ret
  exact ⟨rfl, FIN.out, FF.out⟩

set_option maxRecDepth 100000 in
set_option maxHeartbeats 2000000 in
theorem heldSelf_any (v1 v2 v3 v4 : Value) (x : SelfD) (ps : List RP) (c : Int) (w : World) (h : SelfIn w v1 v2 v3 v4 (mkSelf c x) (mkL (mkAt c x) ps) w.heap.size) (ht : totS x ps ≤ 1048576) (hc : 0 ≤ c) (hc2 : c ≤ 1000000) :
    Calls Tryz.prog 22 #[selfV x v1 v2 v3 v4, .int .i64 c] w fun e w' => e = .returned (.int .i64 (mkE (mkAt c x) ps)) ∧ Below w.heap.size w w' := by
  obtain ⟨⟨a1, c1, rfl⟩, ⟨a2, c2, rfl⟩, ⟨a3, c3, rfl⟩, ⟨a4, c4, rfl⟩⟩ := h.shapes
  simp only [mkSelf, marksL_len, marksT_len, marksI_length, mkL_len] at *
  have hlL : x.net.ls.length ≤ 1048576 := by unfold totS at ht; omega
  have hlT : x.net.ts.length ≤ 1048576 := by unfold totS at ht; omega
  have hlH : x.heard.length ≤ 1048576 := by unfold totS at ht; omega
  have hlR : tot ps ≤ 1048576 := by unfold totS at ht; omega
  have htt : (x.net.ls.length : Int) + (x.net.ts.length : Int) + (x.heard.length : Int) + (tot ps : Int) ≤ 1048576 := by unfold totS at ht; omega
  have BA := (Below.refl w.heap.size w).alloc (Nat.le_refl _) (.cells #[.int .i64 x.id, .int .i64 x.boot, .int .i64 x.net.n, .slice a1 x.net.ls.length c1, .slice a2 x.net.ts.length c2, .slice a3 x.heard.length c3, .slice a4 ps.length c4] 31)
  have g0 := heap_alloc_new w (.cells #[.int .i64 x.id, .int .i64 x.boot, .int .i64 x.net.n, .slice a1 x.net.ls.length c1, .slice a2 x.net.ts.length c2, .slice a3 x.heard.length c3, .slice a4 ps.length c4] 31)
  have hk := h.then BA
  have HN := hide (heldNet_any x.net.n _ _ x.net.ls.length x.net.ts.length c _ hk.links hk.things hlL hlT hc (by omega))
  have HX := hide h
  have G0 := hide g0
  have q1 : ¬ c + 4 * (x.net.ls.length : Int) + 4 * (x.net.ts.length : Int) < 0 := by omega
  have q2 : ¬ c + 4 * (x.net.ls.length : Int) + 4 * (x.net.ts.length : Int) + (x.heard.length : Int) < 0 := by omega
  have q3 : ¬ mkE (mkAt c x) ps < 0 := by have := mkE_tot (mkAt c x) ps; unfold mkAt at *; omega
  clear h hk g0
  go_enter Tryz.func22, Tryz.ntmps22
  go_wp2_with fail
  obtain ⟨w0, hw0⟩ : ∃ W, W = w.alloc (.cells #[.int .i64 x.id, .int .i64 x.boot, .int .i64 x.net.n, .slice a1 x.net.ls.length c1, .slice a2 x.net.ts.length c2, .slice a3 x.heard.length c3, .slice a4 ps.length c4] 31) := ⟨_, rfl⟩
  rw [← hw0] at BA G0 HN ⊢
  clear hw0
  refine HN.out.mono ?_
  rintro e w1 ⟨rfl, b1⟩
  have g1 := (b1.block _ (lt_of_heap G0.out)).trans G0.out
  have B1 : Below w.heap.size w w1 := BA.trans (b1.mono BA.size)
  have s5 := cells_at g1 5
  have s6 := cells_at g1 6
  simp at s5 s6
  have HI := hide (heldG_any _ x.heard.length (c + 4 * (x.net.ls.length : Int) + 4 * (x.net.ts.length : Int)) w1 (HX.out.then B1).heard hlH (by omega) (by omega))
  have HR := hide (heldRecordS_any _ ps (mkAt c x) w1 (HX.out.then B1).store hlR (by unfold mkAt; omega) (by unfold mkAt; omega))
  have HAT := hide (show c + 4 * (x.net.ls.length : Int) + 4 * (x.net.ts.length : Int) + (x.heard.length : Int) = mkAt c x from rfl)
  rw [HAT.out] at q2
  clear g1 b1 HN
  go_wp2_with fail
  refine HI.out.mono ?_
  rintro e w2 ⟨rfl, rfl⟩
  rw [HAT.out]
  go_wp2_with fail
  refine HR.out.mono ?_
  rintro e w2 ⟨rfl, rfl⟩
  go_wp2
  go_ret
  exact ⟨rfl, B1⟩
end Go.Proofs.YtcimbiinljcifaaGreat
