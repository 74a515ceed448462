/-
  laws.markLinkS, markThingS, heldLinkS, heldThingS, markNet, heldNet: what was marked is held.
-/
import Derived.Test.YtpiookjdeopmgaaDoorRd36
namespace Go.Proofs.YtpiookjdeopmgaaDoor
open Go.RowKit
set_option linter.unusedSimpArgs false
set_option linter.unusedVariables false

def mkAll {α : Type} (f : Nat → α) (n : Nat) : List α := (List.range n).map f

theorem mkAll_len {α : Type} (f : Nat → α) (n : Nat) : (mkAll f n).length = n := by simp [mkAll]

theorem mkAll_at {α : Type} (f : Nat → α) (n k : Nat) (h : k < n) : (mkAll f n)[k]? = some (f k) := by simp [mkAll, h]

theorem mkAll_all {α : Type} {f : Nat → α} {n : Nat} {ys : List α} (hl : ys.length = n) (h : ∀ j, j < n → ys[j]? = some (f j)) : ys = mkAll f n := by
  apply List.ext_getElem?
  intro i
  by_cases hi : i < n
  · rw [h i hi, mkAll_at f n i hi]
  · rw [List.getElem?_eq_none (by omega), List.getElem?_eq_none (by rw [mkAll_len]; omega)]

theorem ret_int9 {a b : Int} (h : a = b) : Ending.returned (.int .i64 a) = .returned (.int .i64 b) := by rw [h]

/-- blocks of cells of other types stay -/
def KeepT (P : TypeId → Prop) (w w' : World) : Prop := ∀ (k : Nat) (cs : Array Value) (t : TypeId) (fr : Nat × Nat), w.heap[k]? = some (.cells cs t fr) → P t → w'.heap[k]? = some (.cells cs t fr)

theorem KeepT.refl (P : TypeId → Prop) (w : World) : KeepT P w w := fun _ _ _ _ h _ => h
theorem KeepT.trans {P : TypeId → Prop} {w w1 w2 : World} (h : KeepT P w w1) (g : KeepT P w1 w2) : KeepT P w w2 := fun k cs t fr hk hp => g k cs t fr (h k cs t fr hk hp) hp
theorem KeepT.of {P : TypeId → Prop} {w w' : World} (h : Below w.heap.size w w') : KeepT P w w' := fun k cs t fr hk _ => (h.block k (lt_of_heap hk)).trans hk
theorem KeepT.grown {P : TypeId → Prop} {w w' : World} {base s n : Nat} {e : TypeId} {v : Value} {xs : List Value} (h : w.ownsRow base e s v n xs) (hp : ∀ t, P t → t ≠ e) (hg : w.grownBy w' v.ownBlock) : KeepT P w w' :=
  fun k cs t fr hk ht => (hg.block k (lt_of_heap hk) (fun e2 => own_ne h hk (hp t ht) e2.symm)).trans hk
theorem KeepT.own {P : TypeId → Prop} {w w' : World} {base s n : Nat} {e : TypeId} {v : Value} {xs : List Value} (h : KeepT P w w') (ho : w.ownsRow base e s v n xs) (hp : P e) : w'.ownsRow base e s v n xs := by
  refine ⟨ho.1, ?_⟩
  rcases ho.2 with h2 | ⟨g, cap, cur, hv, hgb, hh, r⟩
  · exact .inl h2
  · exact .inr ⟨g, cap, cur, hv, hgb, h _ _ _ _ hh hp, r⟩

def mkLk (q : Int) (i : Nat) : Lk := ⟨q + 4 * (i : Int), q + 4 * (i : Int) + 1, q + 4 * (i : Int) + 1 + 1, q + 4 * (i : Int) + 1 + 1 + 1⟩
def mkTh (q : Int) (i : Nat) : Th := ⟨q + 4 * (i : Int), q + 4 * (i : Int) + 1, q + 4 * (i : Int) + 1 + 1, (q + 4 * (i : Int) + 1 + 1 + 1) % 3 == 0⟩
def mkEv (q : Int) (i : Nat) : EvD := ⟨q + 4 * (i : Int), q + 4 * (i : Int) + 1, q + 4 * (i : Int) + 1 + 1, bs (mkT (q + 4 * (i : Int) + 1 + 1 + 1))⟩

set_option maxRecDepth 100000 in
set_option maxHeartbeats 4000000 in
theorem markLinkS_own (v : Value) (base n : Nat) (ns : List Lk) (q : Int) (w : World) (hn0 : ns.length = n) (h1 : w.ownsRow base 77 4 v n (flat lkE ns)) (hn : n ≤ 1048576) (hq : 0 ≤ q) (hq2 : q ≤ 1000000000) :
    Calls Tryd.prog 31 #[v, .int .i64 q] w fun e w' => e = .returned (.int .i64 (q + 4 * (n : Int))) ∧ w'.ownsRow base 77 4 v n (flat lkE (mkAll (mkLk q) n)) ∧ w.grownBy w' v.ownBlock := by
  by_cases h0 : n = 0
  · subst h0
    obtain ⟨a1, c1, rfl⟩ := owns_lenS h1
    have hnn : ns = [] := List.length_eq_zero_iff.1 hn0
    have H1 := hide h1
    rw [hnn] at H1
    clear h1 hn0 hnn
    go_enter Tryd.func31, Tryd.ntmps31
    go_wp2
    refine wp_loop_rounds 1 ?_
    rw [rounds_succ]
    go_wp2
    go_ret
    exact ⟨by simp, H1.out, grown_refl _ _⟩
  · obtain ⟨g1, c1, rfl, hg1, hl1⟩ := owns_shapeS h1 (by omega)
    have H1 := hide h1
    have HN0 := hide hn0
    clear h1 h0 hn0
    go_enter Tryd.func31, Tryd.ntmps31
    go_wp2
    go_loopw [5, 1] (fun i r wr => ∃ (k : Nat) (ys : List Lk), k ≤ n ∧ i = .int .i64 k ∧ r = .int .i64 (q + 4 * (k : Int)) ∧ ys.length = n ∧ (∀ j, j < k → ys[j]? = some (mkLk q j)) ∧ wr.ownsRow base 77 4 (.slice (some ⟨g1, 0, none⟩) n c1) n (flat lkE ys) ∧ w.grownBy wr (some g1)) (fun i _ _ => n - (intOf i).toNat)
    case atStart => exact ⟨0, ns, by omega, rfl, by simp, HN0.out, by omega, H1.out, grown_refl _ _⟩
    case round =>
      clear H1
      obtain ⟨k, ys, hk, rfl, rfl, hyl, hys, hown, hnx⟩ := hrel
      by_cases hlt : k < n
      · have hki : (0 : Int) ≤ (k : Int) := by omega
        have hkj : (k : Int) < (n : Int) := by omega
        obtain ⟨u0, d0⟩ := own_cell hown (k * 4) (by omega)
        obtain ⟨u1, d1⟩ := own_cell hown (k * 4 + 1) (by omega)
        obtain ⟨u2, d2⟩ := own_cell hown (k * 4 + 2) (by omega)
        obtain ⟨u3, d3⟩ := own_cell hown (k * 4 + 3) (by omega)
        have f0 := hown.frozenAt (k * 4)
        have f1 := hown.frozenAt (k * 4 + 1)
        have f2 := hown.frozenAt (k * 4 + 2)
        have f3 := hown.frozenAt (k * 4 + 3)
        have st := ((((hown.stored (k * 4) (.int .i64 (q + 4 * (k : Int)))).1.stored (k * 4 + 1) (.int .i64 (q + 4 * (k : Int) + 1))).1.stored (k * 4 + 2) (.int .i64 (q + 4 * (k : Int) + 1 + 1))).1.stored (k * 4 + 3) (.int .i64 (q + 4 * (k : Int) + 1 + 1 + 1))).1
        have e1 : ((((flat lkE ys).set (k * 4) (.int .i64 (q + 4 * (k : Int)))).set (k * 4 + 1) (.int .i64 (q + 4 * (k : Int) + 1))).set (k * 4 + 2) (.int .i64 (q + 4 * (k : Int) + 1 + 1))).set (k * 4 + 3) (.int .i64 (q + 4 * (k : Int) + 1 + 1 + 1)) = flat lkE (ys.set k (mkLk q k)) := flat_set lkE_len ys k (mkLk q k) (by omega)
        rw [e1] at st
        have ST := hide st
        have HYL := hide hyl
        have HYS := hide hys
        clear hown st e1 hyl hys
        go_wp2
        refine ⟨⟨k + 1, ys.set k (mkLk q k), by omega, by go_num, by go_num, by simp [HYL.out], ?_, ST.out, grown_trans (grown_trans (grown_trans (grown_trans hnx (grown_set _ _ _ _)) (grown_set _ _ _ _)) (grown_set _ _ _ _)) (grown_set _ _ _ _)⟩, by simp [intOf]; omega⟩
        intro j hj
        by_cases e : j = k
        · subst e
          rw [List.getElem?_set_self (by rw [HYL.out]; exact hlt)]
        · rw [List.getElem?_set_ne (by omega)]
          exact HYS.out j (by omega)
      · have hkn : k = n := by omega
        have hm : ys = mkAll (mkLk q) n := mkAll_all hyl (by rw [← hkn]; exact hys)
        have OW := hide hown
        have HM := hide hm
        have KN := hide hkn
        clear hkn hown hm hyl hys
        go_wp2
        go_ret
        exact ⟨ret_int9 (by rw [KN.out]), by rw [← HM.out]; exact OW.out, hnx⟩

set_option maxRecDepth 100000 in
set_option maxHeartbeats 4000000 in
theorem markThingS_own (v : Value) (base n : Nat) (ns : List Th) (q : Int) (w : World) (hn0 : ns.length = n) (h1 : w.ownsRow base 81 4 v n (flat thE ns)) (hn : n ≤ 1048576) (hq : 0 ≤ q) (hq2 : q ≤ 1000000000) :
    Calls Tryd.prog 32 #[v, .int .i64 q] w fun e w' => e = .returned (.int .i64 (q + 4 * (n : Int))) ∧ w'.ownsRow base 81 4 v n (flat thE (mkAll (mkTh q) n)) ∧ w.grownBy w' v.ownBlock := by
  by_cases h0 : n = 0
  · subst h0
    obtain ⟨a1, c1, rfl⟩ := owns_lenS h1
    have hnn : ns = [] := List.length_eq_zero_iff.1 hn0
    have H1 := hide h1
    rw [hnn] at H1
    clear h1 hn0 hnn
    go_enter Tryd.func32, Tryd.ntmps32
    go_wp2
    refine wp_loop_rounds 1 ?_
    rw [rounds_succ]
    go_wp2
    go_ret
    exact ⟨by simp, H1.out, grown_refl _ _⟩
  · obtain ⟨g1, c1, rfl, hg1, hl1⟩ := owns_shapeS h1 (by omega)
    have H1 := hide h1
    have HN0 := hide hn0
    clear h1 h0 hn0
    go_enter Tryd.func32, Tryd.ntmps32
    go_wp2
    go_loopw [5, 1] (fun i r wr => ∃ (k : Nat) (ys : List Th), k ≤ n ∧ i = .int .i64 k ∧ r = .int .i64 (q + 4 * (k : Int)) ∧ ys.length = n ∧ (∀ j, j < k → ys[j]? = some (mkTh q j)) ∧ wr.ownsRow base 81 4 (.slice (some ⟨g1, 0, none⟩) n c1) n (flat thE ys) ∧ w.grownBy wr (some g1)) (fun i _ _ => n - (intOf i).toNat)
    case atStart => exact ⟨0, ns, by omega, rfl, by simp, HN0.out, by omega, H1.out, grown_refl _ _⟩
    case round =>
      clear H1
      obtain ⟨k, ys, hk, rfl, rfl, hyl, hys, hown, hnx⟩ := hrel
      by_cases hlt : k < n
      · have hki : (0 : Int) ≤ (k : Int) := by omega
        have hkj : (k : Int) < (n : Int) := by omega
        obtain ⟨u0, d0⟩ := own_cell hown (k * 4) (by omega)
        obtain ⟨u1, d1⟩ := own_cell hown (k * 4 + 1) (by omega)
        obtain ⟨u2, d2⟩ := own_cell hown (k * 4 + 2) (by omega)
        obtain ⟨u3, d3⟩ := own_cell hown (k * 4 + 3) (by omega)
        have f0 := hown.frozenAt (k * 4)
        have f1 := hown.frozenAt (k * 4 + 1)
        have f2 := hown.frozenAt (k * 4 + 2)
        have f3 := hown.frozenAt (k * 4 + 3)
        have st := ((((hown.stored (k * 4) (.int .i64 (q + 4 * (k : Int)))).1.stored (k * 4 + 1) (.int .i64 (q + 4 * (k : Int) + 1))).1.stored (k * 4 + 2) (.int .i64 (q + 4 * (k : Int) + 1 + 1))).1.stored (k * 4 + 3) (.bool ((q + 4 * (k : Int) + 1 + 1 + 1) % 3 == 0))).1
        have e1 : ((((flat thE ys).set (k * 4) (.int .i64 (q + 4 * (k : Int)))).set (k * 4 + 1) (.int .i64 (q + 4 * (k : Int) + 1))).set (k * 4 + 2) (.int .i64 (q + 4 * (k : Int) + 1 + 1))).set (k * 4 + 3) (.bool ((q + 4 * (k : Int) + 1 + 1 + 1) % 3 == 0)) = flat thE (ys.set k (mkTh q k)) := flat_set thE_len ys k (mkTh q k) (by omega)
        rw [e1] at st
        have ST := hide st
        have HYL := hide hyl
        have HYS := hide hys
        clear hown st e1 hyl hys
        go_wp2
        refine ⟨⟨k + 1, ys.set k (mkTh q k), by omega, by go_num, by go_num, by simp [HYL.out], ?_, ST.out, grown_trans (grown_trans (grown_trans (grown_trans hnx (grown_set _ _ _ _)) (grown_set _ _ _ _)) (grown_set _ _ _ _)) (grown_set _ _ _ _)⟩, by simp [intOf]; omega⟩
        intro j hj
        by_cases e : j = k
        · subst e
          rw [List.getElem?_set_self (by rw [HYL.out]; exact hlt)]
        · rw [List.getElem?_set_ne (by omega)]
          exact HYS.out j (by omega)
      · have hkn : k = n := by omega
        have hm : ys = mkAll (mkTh q) n := mkAll_all hyl (by rw [← hkn]; exact hys)
        have OW := hide hown
        have HM := hide hm
        have KN := hide hkn
        clear hkn hown hm hyl hys
        go_wp2
        go_ret
        exact ⟨ret_int9 (by rw [KN.out]), by rw [← HM.out]; exact OW.out, hnx⟩

set_option maxRecDepth 100000 in
set_option maxHeartbeats 4000000 in
theorem heldLinkS_all (v : Value) (n : Nat) (q : Int) (w : World) (h1 : LinksAt w v (mkAll (mkLk q) n) w.heap.size) (hn : n ≤ 1048576) (hq : 0 ≤ q) (hq2 : q ≤ 1000000000) :
    Calls Tryd.prog 34 #[v, .int .i64 q] w fun e w' => e = .returned (.int .i64 (q + 4 * (n : Int))) ∧ w = w' := by
  obtain ⟨a, cap, rfl⟩ := h1.shape
  rw [mkAll_len] at *
  have H1 := hide h1
  clear h1
  go_enter Tryd.func34, Tryd.ntmps34
  go_wp2
  go_loop [5, 1] (fun i r => ∃ k : Nat, k ≤ n ∧ i = .int .i64 k ∧ r = .int .i64 (q + 4 * (k : Int))) (fun i _ => n - (intOf i).toNat)
  case atStart => exact ⟨0, by omega, rfl, by simp⟩
  case round =>
    obtain ⟨k, hk, rfl, rfl⟩ := hrel
    by_cases hlt : k < n
    · have hki : (0 : Int) ≤ (k : Int) := by omega
      have hkj : (k : Int) < (n : Int) := by omega
      obtain ⟨b, off, cap', hve, hbb, s0, s1, s2, s3⟩ := H1.out.cells k (mkLk q k) (mkAll_at _ _ _ hlt)
      rw [mkAll_len] at hve
      cases hve
      simp only [mkLk] at s0 s1 s2 s3
      go_wp2
      go_round
      case rel => exact ⟨k + 1, by omega, by go_num, by go_num⟩
      case measure => simp [intOf]; omega
    · have hkn : k = n := by omega
      have KN := hide hkn
      clear hkn
      go_wp2
      go_ret
      exact ⟨ret_int9 (by rw [KN.out]), rfl⟩

set_option maxRecDepth 100000 in
set_option maxHeartbeats 4000000 in
theorem heldThingS_all (v : Value) (n : Nat) (q : Int) (w : World) (h1 : ThingsAt w v (mkAll (mkTh q) n) w.heap.size) (hn : n ≤ 1048576) (hq : 0 ≤ q) (hq2 : q ≤ 1000000000) :
    Calls Tryd.prog 35 #[v, .int .i64 q] w fun e w' => e = .returned (.int .i64 (q + 4 * (n : Int))) ∧ w = w' := by
  obtain ⟨a, cap, rfl⟩ := h1.shape
  rw [mkAll_len] at *
  have H1 := hide h1
  clear h1
  go_enter Tryd.func35, Tryd.ntmps35
  go_wp2
  go_loop [5, 1] (fun i r => ∃ k : Nat, k ≤ n ∧ i = .int .i64 k ∧ r = .int .i64 (q + 4 * (k : Int))) (fun i _ => n - (intOf i).toNat)
  case atStart => exact ⟨0, by omega, rfl, by simp⟩
  case round =>
    obtain ⟨k, hk, rfl, rfl⟩ := hrel
    by_cases hlt : k < n
    · have hki : (0 : Int) ≤ (k : Int) := by omega
      have hkj : (k : Int) < (n : Int) := by omega
      obtain ⟨b, off, cap', hve, hbb, s0, s1, s2, s3⟩ := H1.out.cells k (mkTh q k) (mkAll_at _ _ _ hlt)
      rw [mkAll_len] at hve
      cases hve
      simp only [mkTh] at s0 s1 s2 s3
      go_wp2
      go_round
      case rel => exact ⟨k + 1, by omega, by go_num, by go_num⟩
      case measure => simp [intOf]; omega
    · have hkn : k = n := by omega
      have KN := hide hkn
      clear hkn
      go_wp2
      go_ret
      exact ⟨ret_int9 (by rw [KN.out]), rfl⟩

end Go.Proofs.YtpiookjdeopmgaaDoor
