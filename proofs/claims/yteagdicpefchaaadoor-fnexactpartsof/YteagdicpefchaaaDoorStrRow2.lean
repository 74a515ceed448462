/-
  laws.eqStringS, markStringS, heldStringS: their contracts over rows that calls made.
-/
import Derived.Test.YteagdicpefchaaaDoorStrRow
namespace Go.Proofs.YteagdicpefchaaaDoor
open Go.RowKit

theorem strs_get (xs : List (List UInt8)) (i : Nat) (h : i < xs.length) : (strs xs)[i]? = some (.string (bs (xs.getD i []))) := by
  rw [strs_at xs i h]; simp [List.getElem?_eq_getElem h]

set_option maxRecDepth 100000 in
set_option maxHeartbeats 1000000 in
theorem eqS_any (v1 v2 : Value) (b1 b2 : Nat) (xs : List (List UInt8)) (w : World) (h1 : w.ownsRow b1 9 1 v1 xs.length (strs xs)) (h2 : w.ownsRow b2 9 1 v2 xs.length (strs xs)) (hn : xs.length ≤ 1000) :
    Calls Tryd.prog 20 #[v1, v2] w fun e w' => e = .returned (.bool true) ∧ Below w.heap.size w w' := by
  by_cases h0 : xs.length = 0
  · obtain ⟨a1, c1, rfl⟩ := owns_len h1
    obtain ⟨a2, c2, rfl⟩ := owns_len h2
    rw [h0]
    clear h1 h2
    go_enter Tryd.func20, Tryd.ntmps20
    go_wp2
    refine wp_loop_rounds 1 ?_
    rw [rounds_succ]
    go_wp2
    go_ret
    exact ⟨rfl, Below.refl _ _⟩
  · obtain ⟨g1, c1, rfl, hg1, hl1⟩ := owns_shape h1 (by omega)
    obtain ⟨g2, c2, rfl, hg2, hl2⟩ := owns_shape h2 (by omega)
    obtain ⟨n, hnn⟩ : ∃ n, n = xs.length := ⟨_, rfl⟩
    have hc1 : ∀ k (h : k < n), w.cell? ⟨g1, k, none⟩ = some (.string (bs (xs.getD k []))) := fun k h => by rw [h1.cellAt k (by omega)]; exact strs_get xs k (by omega)
    have hc2 : ∀ k (h : k < n), w.cell? ⟨g2, k, none⟩ = some (.string (bs (xs.getD k []))) := fun k h => by rw [h2.cellAt k (by omega)]; exact strs_get xs k (by omega)
    rw [← hnn] at hn ⊢
    have C1 := hide hc1
    have C2 := hide hc2
    have NN := hide hnn
    clear h1 h2 h0 hc1 hc2 hnn
    go_enter Tryd.func20, Tryd.ntmps20
    go_wp2
    go_loopw [5] (fun i wr => ∃ k : Nat, k ≤ n ∧ i = .int .i64 k ∧ Below w.heap.size w wr) (fun i _ => n - (intOf i).toNat)
    case atStart => exact ⟨0, by omega, rfl, Below.refl _ _⟩
    case round =>
      obtain ⟨k, hk, rfl, hnx⟩ := hrel
      by_cases hlt : k < n
      · obtain ⟨t, ht⟩ : ∃ t, t = bs (xs.getD k []) := ⟨_, rfl⟩
        have d1 : wr.cell? ⟨g1, k, none⟩ = some (.string t) := by rw [hnx.cell (p := ⟨g1, k, none⟩) hl1, C1.out k hlt, ht]
        have d2 : wr.cell? ⟨g2, k, none⟩ = some (.string t) := by rw [hnx.cell (p := ⟨g2, k, none⟩) hl2, C2.out k hlt, ht]
        have hki : (0 : Int) ≤ (k : Int) := by omega
        have hkj : (k : Int) < (n : Int) := by omega
        clear ht
        go_wp2
        go_quiet (fail)
        go_wp2
        go_roundw
        case rel => exact ⟨k + 1, by omega, by go_num, below_drewN hnx _⟩
        case measure => simp [intOf]; omega
      · go_wp2
        go_ret
        exact ⟨rfl, hnx⟩

def marks (k : Int) : Nat → List (List UInt8)
  | 0 => []
  | n + 1 => mkT k :: marks (k + 1) n
theorem marks_length : ∀ (n : Nat) (k : Int), (marks k n).length = n
  | 0, _ => rfl
  | n + 1, k => by simp [marks, marks_length n (k + 1)]
theorem marks_at : ∀ (n : Nat) (k : Int) (i : Nat) (h : i < (marks k n).length), (marks k n)[i] = mkT (k + i)
  | 0, _, _, h => by simp [marks] at h
  | n + 1, k, 0, _ => by simp [marks]
  | n + 1, k, i + 1, h => by
    simp only [marks, List.getElem_cons_succ]
    rw [marks_at n (k + 1) i]
    congr 1
    omega

/-- the row behind i marks -/
def marked (k : Int) (i : Nat) (xs : List (List UInt8)) : List (List UInt8) := marks k i ++ xs.drop i
theorem marked_length (k : Int) (i : Nat) (xs : List (List UInt8)) (h : i ≤ xs.length) : (marked k i xs).length = xs.length := by simp [marked, marks_length]; omega
theorem marks_snoc : ∀ (n : Nat) (k : Int), marks k (n + 1) = marks k n ++ [mkT (k + n)]
  | 0, k => by simp [marks]
  | n + 1, k => by
    have e : k + 1 + (n : Int) = k + ((n + 1 : Nat) : Int) := by omega
    rw [marks, marks_snoc n (k + 1), e]
    simp only [marks, List.cons_append]
theorem marked_step (k : Int) (i : Nat) (xs : List (List UInt8)) (h : i < xs.length) : (marked k i xs).set i (mkT (k + i)) = marked k (i + 1) xs := by
  unfold marked
  rw [marks_snoc, List.set_append_right _ _ (by rw [marks_length]; omega), marks_length, Nat.sub_self, List.drop_eq_getElem_cons h]
  simp only [List.set_cons_zero, List.append_assoc, List.cons_append, List.nil_append]
theorem strs_set (xs : List (List UInt8)) (i : Nat) (t : List UInt8) : (strs xs).set i (.string (bs t)) = strs (xs.set i t) := by simp [strs]

set_option maxRecDepth 100000 in
set_option maxHeartbeats 1000000 in
theorem markS_any (v : Value) (base : Nat) (xs : List (List UInt8)) (q : Int) (w : World) (h1 : w.ownsRow base 9 1 v xs.length (strs xs)) (hn : xs.length ≤ 1000) (hb : base ≤ w.heap.size) (hq : -1000000 ≤ q) (hq2 : q ≤ 1000000) :
    Calls Tryd.prog 21 #[v, .int .i64 q] w fun e w' => e = .returned (.int .i64 (q + (xs.length : Int))) ∧ w'.ownsRow base 9 1 v xs.length (strs (marks q xs.length)) ∧ Below base w w' := by
  by_cases h0 : xs.length = 0
  · have hx : xs = [] := List.length_eq_zero_iff.1 h0
    subst hx
    obtain ⟨a1, c1, rfl⟩ := owns_len h1
    have H1 := hide h1
    clear h1 h0
    go_enter Tryd.func21, Tryd.ntmps21
    go_wp2
    refine wp_loop_rounds 1 ?_
    rw [rounds_succ]
    go_wp2
    go_ret
    exact ⟨by simp, H1.out, Below.refl _ _⟩
  · obtain ⟨g1, c1, rfl, hg1, hl1⟩ := owns_shape h1 (by omega)
    obtain ⟨n, hnn⟩ : ∃ n, n = xs.length := ⟨_, rfl⟩
    have NN := hide hnn
    rw [← hnn] at hn h1 ⊢
    clear hnn h0
    go_enter Tryd.func21, Tryd.ntmps21
    go_wp2
    go_loopw [5, 1] (fun i r wr => ∃ k : Nat, k ≤ n ∧ i = .int .i64 k ∧ r = .int .i64 (q + (k : Int)) ∧ wr.ownsRow base 9 1 (.slice (some ⟨g1, 0, none⟩) n c1) n (strs (marked q k xs)) ∧ Below base w wr) (fun i _ _ => n - (intOf i).toNat)
    case atStart => exact ⟨0, by omega, rfl, by simp, h1, Below.refl _ _⟩
    case round =>
      clear h1
      obtain ⟨k, hk, rfl, rfl, hown, hnx⟩ := hrel
      have hsz := hnx.size
      by_cases hlt : k < n
      · have hki : (0 : Int) ≤ (k : Int) := by omega
        have hkj : (k : Int) < (n : Int) := by omega
        have hfr := hown.frozenAt k
        have OW := hide hown
        clear hown
        go_wp2_with fail
        refine (mark_any _ _ (by omega)).mono ?_
        rintro e w1 ⟨rfl, hb1⟩
        have hg1w : g1 < wr.heap.size := by
          obtain ⟨g', c', e1, _, e2⟩ := owns_shape OW.out (by omega)
          cases e1
          exact e2
        have hown1 := owns_below OW.out hb1 (Nat.le_refl _)
        have hfr1 := hown1.frozenAt k
        have hcl1 : ∃ t, w1.cell? ⟨g1, k, none⟩ = some (.string t) := by
          rw [hown1.cellAt k (by omega)]
          have hl : k < (marked q k xs).length := by rw [marked_length]; have := NN.out; omega; have := NN.out; omega
          exact ⟨_, strs_at _ k hl⟩
        obtain ⟨t, hcl⟩ := hcl1
        have hst := hown1.stored k (.string (bs (mkT (q + (k : Int)))))
        rw [strs_set, marked_step q k xs (by have := NN.out; omega)] at hst
        have ST := hide hst.1
        clear hst hown1
        go_wp2
        go_roundw
        case rel => exact ⟨k + 1, by omega, by go_num, by go_num, ST.out, (hnx.trans (hb1.mono (Nat.le_trans hb hsz))).setCell hg1 _⟩
        case measure => simp [intOf]; omega
      · have hkn : k = n := by omega
        have KN := hide hkn
        have OW := hide hown
        clear hkn hown
        go_wp2
        go_ret
        refine ⟨ret_int (by rw [KN.out]), ?_, hnx⟩
        have h := OW.out
        rw [KN.out] at h
        unfold marked at h
        rw [List.drop_eq_nil_of_le (by have := NN.out; omega), List.append_nil] at h
        exact h
end Go.Proofs.YteagdicpefchaaaDoor
