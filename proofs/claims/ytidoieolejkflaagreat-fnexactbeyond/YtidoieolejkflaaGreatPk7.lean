/-
  Ways as values; laws.szWay, toWay, eqWay.
  laws.markIntS, markWay, heldWay: only the row's own memory turns; what was marked is held.
  spec.l06Copy: a way with a row of its own.
  spec.l03In, l06Add: their contracts.
  Rows of a known number of cells, told by a function.
-/
import Derived.Test.YtidoieolejkflaaGreatPk6
import Derived.Handy
import Derived.Test.YtidoieolejkflaaGreatPk4
import Derived.Test.YtidoieolejkflaaGreatPk1
import Derived.Deep.OwnRows
namespace Go.Proofs.YtidoieolejkflaaGreat
open Go.RowKit

structure WayD where
  to : Int
  cost : Int
  hops : List Int
  deriving DecidableEq

def wayC (x : WayD) (v : Value) : Array Value := #[.int .i64 x.to, .int .i64 x.cost, v]

/-- the value v is the way x, whose row lies below B -/
def WayAt (W : World) (v : Value) (x : WayD) (B : Nat) : Prop := ∃ v1, v = .agg (wayC x v1) ∧ HopsAt W v1 x.hops B

theorem WayAt.then {W W' : World} {v : Value} {x : WayD} (h : WayAt W v x W.heap.size) (hb : Below W.heap.size W W') : WayAt W' v x W'.heap.size := by
  obtain ⟨v1, hv, h1⟩ := h
  exact ⟨v1, hv, h1.then hb⟩

theorem wayAt_of {W : World} {lo : Nat} {x : WayD} {u : Value} (h : W.ownsRow lo 3 1 u x.hops.length (flat intE x.hops)) : WayAt W (.agg (wayC x u)) x W.heap.size := ⟨u, rfl, hops_of h⟩

def szW (q : Int) (n : Nat) : Int := if q - (n : Int) < 0 then -1 else q - (n : Int)

theorem szW_neg {q : Int} {n : Nat} : szW q n < 0 ∨ (0 ≤ szW q n ∧ szW q n = q - (n : Int)) := by
  unfold szW
  split <;> omega

set_option maxRecDepth 100000 in
set_option maxHeartbeats 1000000 in
theorem eqWay_any (v1 v2 : Value) (x y : WayD) (w : World) (h1 : WayAt w v1 x w.heap.size) (h2 : WayAt w v2 y w.heap.size) (hl : x.hops.length ≤ 1048576) :
    Calls Tryz.prog 78 #[v1, v2] w fun e w' => e = .returned (.bool (decide (x = y))) ∧ Below w.heap.size w w' := by
  obtain ⟨a0, a1, ns⟩ := x
  obtain ⟨b0, b1, ms⟩ := y
  obtain ⟨u1, rfl, k1⟩ := h1
  obtain ⟨u2, rfl, k2⟩ := h2
  simp only [] at k1 k2 hl
  have K1 := hide k1
  have K2 := hide k2
  clear k1 k2
  unfold wayC
  simp only []
  by_cases h0 : a0 = b0
  case neg =>
    have hd : (a0 != b0) = true := by simpa using h0
    have hne : decide ((⟨a0, a1, ns⟩ : WayD) = ⟨b0, b1, ms⟩) = false := decide_eq_false (fun h => by cases h; exact h0 rfl)
    rw [hne]
    clear hne
    go_enter Tryz.func78, Tryz.ntmps78
    go_wp2
    go_ret
    exact ⟨rfl, below_two _ _⟩
  subst h0
  by_cases h1 : a1 = b1
  case neg =>
    have hd : (a1 != b1) = true := by simpa using h1
    have hne : decide ((⟨a0, a1, ns⟩ : WayD) = ⟨a0, b1, ms⟩) = false := decide_eq_false (fun h => by cases h; exact h1 rfl)
    rw [hne]
    clear hne
    go_enter Tryz.func78, Tryz.ntmps78
    go_wp2
    go_ret
    exact ⟨rfl, below_two _ _⟩
  subst h1
  obtain ⟨R, hR⟩ : ∃ R, R = decide (ns = ms) := ⟨_, rfl⟩
  have hRR : decide ((⟨a0, a1, ns⟩ : WayD) = ⟨a0, a1, ms⟩) = R := by rw [hR]; simp
  rw [hRR]
  have HE := fun W h1 h2 => eqI_any u1 u2 ns ms W h1 h2 hl
  rw [← hR] at HE
  have HEQ := hide HE
  clear HE hR hRR
  cases R
  · go_enter Tryz.func78, Tryz.ntmps78
    go_wp2_with fail
    refine (HEQ.out _ (K1.out.then (below_two _ _)).ints (K2.out.then (below_two _ _)).ints).mono ?_
    rintro e w1 ⟨rfl, bb1⟩
    go_wp2
    go_ret
    exact ⟨rfl, (below_two _ _).trans (bb1.mono (by simp; omega))⟩
  · go_enter Tryz.func78, Tryz.ntmps78
    go_wp2_with fail
    refine (HEQ.out _ (K1.out.then (below_two _ _)).ints (K2.out.then (below_two _ _)).ints).mono ?_
    rintro e w1 ⟨rfl, bb1⟩
    go_wp2
    go_ret
    exact ⟨rfl, (below_two _ _).trans (bb1.mono (by simp; omega))⟩
end Go.Proofs.YtidoieolejkflaaGreat
namespace Go.Proofs.YtidoieolejkflaaGreat
open Go.RowKit

theorem grown_reflW (w : World) (r : Option Nat) : w.grownBy w r := ⟨rfl, rfl, rfl, Nat.le_refl _, fun _ _ _ => rfl⟩

set_option maxRecDepth 100000 in
set_option maxHeartbeats 1000000 in
theorem markG_any (v : Value) (base : Nat) (xs : List Int) (q : Int) (w : World) (h1 : w.ownsRow base 3 1 v xs.length (flat intE xs)) (hn : xs.length ≤ 1048576) (hq : 0 ≤ q) (hq2 : q ≤ 1000000000) :
    Calls Tryz.prog 33 #[v, .int .i64 q] w fun e w' => e = .returned (.int .i64 (q + (xs.length : Int))) ∧ w'.ownsRow base 3 1 v xs.length (flat intE (marksI q xs.length)) ∧ w.grownBy w' v.ownBlock := by
  rw [flat_int] at h1
  rw [flat_int]
  by_cases h0 : xs.length = 0
  · have hx : xs = [] := List.length_eq_zero_iff.1 h0
    subst hx
    obtain ⟨a1, c1, rfl⟩ := owns_len h1
    have H1 := hide h1
    clear h1 h0
    go_enter Tryz.func33, Tryz.ntmps33
    go_wp2
    refine wp_loop_rounds 1 ?_
    rw [rounds_succ]
    go_wp2
    go_ret
    exact ⟨by simp, H1.out, grown_reflW _ _⟩
  · obtain ⟨g1, c1, rfl, hg1, hl1⟩ := owns_shape h1 (by omega)
    obtain ⟨n, hnn⟩ : ∃ n, n = xs.length := ⟨_, rfl⟩
    have NN := hide hnn
    rw [← hnn] at hn h1 ⊢
    clear hnn h0
    go_enter Tryz.func33, Tryz.ntmps33
    go_wp2
    go_loopw [5, 1] (fun i r wr => ∃ k : Nat, k ≤ n ∧ i = .int .i64 k ∧ r = .int .i64 (q + (k : Int)) ∧ wr.ownsRow base 3 1 (.slice (some ⟨g1, 0, none⟩) n c1) n (intsOf (markedI q k xs)) ∧ w.grownBy wr (some g1)) (fun i _ _ => n - (intOf i).toNat)
    case atStart => exact ⟨0, by omega, rfl, by simp, h1, grown_reflW _ _⟩
    case round =>
      clear h1
      obtain ⟨k, hk, rfl, rfl, hown, hnx⟩ := hrel
      by_cases hlt : k < n
      · have hki : (0 : Int) ≤ (k : Int) := by omega
        have hkj : (k : Int) < (n : Int) := by omega
        have hfr1 := hown.frozenAt k
        have hcl1 : ∃ t, wr.cell? ⟨g1, k, none⟩ = some (.int .i64 t) := by
          rw [hown.cellAt k (by omega)]
          have hl : k < (markedI q k xs).length := by rw [markedI_length]; have := NN.out; omega; have := NN.out; omega
          exact ⟨(markedI q k xs)[k], by simp [intsOf, List.getElem?_eq_getElem hl]⟩
        obtain ⟨t, hcl⟩ := hcl1
        have hst := hown.stored k (.int .i64 (q + (k : Int)))
        rw [intsOf_set, markedI_step q k xs (by have := NN.out; omega)] at hst
        have ST := hide hst.1
        clear hst hown
        go_wp2
        go_roundw
        case rel => exact ⟨k + 1, by omega, by go_num, by go_num, ST.out, grown_trans hnx (grown_set _ _ _ _)⟩
        case measure => simp [intOf]; omega
      · have hkn : k = n := by omega
        have KN := hide hkn
        have OW := hide hown
        clear hkn hown
        go_wp2
        go_ret
        refine ⟨ret_int (by rw [KN.out]), ?_, hnx⟩
        have h := OW.out
        rw [KN.out] at h
        unfold markedI at h
        rw [List.drop_eq_nil_of_le (by have := NN.out; omega), List.append_nil] at h
        exact h

set_option maxRecDepth 100000 in
set_option maxHeartbeats 1000000 in
theorem heldG_any (v : Value) (n : Nat) (q : Int) (w : World) (h1 : HopsAt w v (marksI q n) w.heap.size) (hn : n ≤ 1048576) (hq : 0 ≤ q) (hq2 : q ≤ 1000000000) :
    Calls Tryz.prog 81 #[v, .int .i64 q] w fun e w' => e = .returned (.int .i64 (q + (n : Int))) ∧ w = w' := by
  obtain ⟨a1, c1, rfl, k1⟩ := h1.ints
  rw [marksI_length] at k1 ⊢
  have K1 := hide k1
  clear k1 h1
  go_enter Tryz.func81, Tryz.ntmps81
  go_wp2
  go_loop [5, 1] (fun i r => ∃ k : Nat, k ≤ n ∧ i = .int .i64 k ∧ r = .int .i64 (q + (k : Int))) (fun i _ => n - (intOf i).toNat)
  case atStart => exact ⟨0, by omega, rfl, by simp⟩
  case round =>
    obtain ⟨k, hk, rfl, rfl⟩ := hrel
    by_cases hlt : k < n
    · obtain ⟨b1, o1, ha1, hb1, d1⟩ : ∃ b1 o1, a1 = some ⟨b1, o1, none⟩ ∧ b1 < w.heap.size ∧ w.cell? ⟨b1, o1 + k, none⟩ = some (.int .i64 (q + (k : Int))) := by
        rcases K1.out with h0 | ⟨b, off, ha, hb, hx⟩
        · omega
        · exact ⟨b, off, ha, hb, by rw [hx k (by omega)]; simp only [intC, marksI_get q n k hlt]⟩
      subst ha1
      have hki : (0 : Int) ≤ (k : Int) := by omega
      have hkj : (k : Int) < (n : Int) := by omega
      go_wp2
      go_round
      case rel => exact ⟨k + 1, by omega, by go_num, by go_num⟩
      case measure => simp [intOf]; omega
    · have hkn : k = n := by omega
      have KN := hide hkn
      clear hkn
      go_wp2
      go_ret
      exact ⟨ret_int (by rw [KN.out]), rfl⟩
end Go.Proofs.YtidoieolejkflaaGreat
namespace Go.Proofs.YtidoieolejkflaaGreat
open Go.RowKit

set_option linter.unusedSimpArgs false

theorem intE_one (z : Int) : ∀ u ∈ intE z, u.oneCell' = true := by
  intro u hu
  simp [intE] at hu
  subst hu
  rfl

abbrev putW3 (W : World) (g : Nat) (x : WayD) (v : Value) : World := ((W.setCell ⟨g, 0, none⟩ (.int .i64 x.to)).setCell ⟨g, 1, none⟩ (.int .i64 x.cost)).setCell ⟨g, 2, none⟩ v

theorem finW3 {W : World} {B0 : Nat} {c0 c1 c2 : Value} (x : WayD) (v : Value) (hr : W.heap[B0]? = some (.cells #[c0, c1, c2] 46)) :
    (putW3 W B0 x v).heap[B0]? = some (.cells (wayC x v) 46) := by
  have k1 := heap_setCell_same _ _ 0 _ _ (.int .i64 x.to) hr
  have k2 := heap_setCell_same _ _ 1 _ _ (.int .i64 x.cost) k1
  have k3 := heap_setCell_same _ _ 2 _ _ v k2
  simp only [List.setIfInBounds_toArray, List.set_cons_zero, List.set_cons_succ] at k3
  unfold putW3 wayC
  exact k3

theorem grownW3 (W : World) (g : Nat) (x : WayD) (v : Value) : W.grownBy (putW3 W g x v) (some g) :=
  grown_trans (grown_trans (grown_set W g _ _) (grown_set _ g _ _)) (grown_set _ g _ _)

theorem int_flat1 (l : List Int) : (flat intE l).length = l.length * 1 := flat_len intE_len l

theorem own_litI (W : World) (g base : Nat) (hg : g = W.heap.size) (hb : base ≤ W.heap.size) : (W.alloc (.cells #[] 3)).ownsRow base 3 1 (.slice (some ⟨g, 0, none⟩) 0 0) 0 (flat intE []) := by
  subst hg
  exact World.ownsRow_lit W #[] 0 hb (by unfold maxLen; omega) (by simp)

set_option maxRecDepth 100000 in
set_option maxHeartbeats 1000000 in
theorem copyW_any (x : WayD) (v : Value) (base : Nat) (w : World) (ho : w.ownsRow base 3 1 v x.hops.length (flat intE x.hops)) (hn : x.hops.length ≤ 1048576) :
    Calls Tryz.prog 67 #[.agg (wayC x v)] w fun e w' => ∃ v', e = .returned (.agg (wayC x v')) ∧ w'.ownsRow w.heap.size 3 1 v' x.hops.length (flat intE x.hops) ∧ Below w.heap.size w w' := by
  obtain ⟨va, vc, rfl⟩ := owns_lenS ho
  have OW := hide ho
  clear ho
  go_enter Tryz.func67, Tryz.ntmps67
  unfold wayC
  go_wp2_with (first
    | (at_builtin; refine append_row5 int_flat1 (by omega) intE_one (by omega) _ rfl _ _ 34 rfl (w.heap.size + 2) 3 Tryz.underlying34 (.int .i64 0) rfl Tryz.info3 _ [] rfl ?own0 base _ x.hops rfl (((OW.out.alloc _).alloc _).alloc _) (by simp; omega) (by simp) ?_))
  case own0 =>
    exact own_litI _ _ _ (by simp) (by simp)
  intro v' w4 hown' hgrow
  obtain ⟨na, nc, rfl⟩ := owns_lenS hown'
  simp only [Value.ownBlock] at hgrow
  have hb4 : Below w.heap.size w w4 := ((((Below.refl w.heap.size w).alloc (by simp) _).alloc (by simp) _).alloc (by simp; omega) _).grown hgrow (by simp; omega) (fun k hk => by simp at hk; omega)
  have q0 : w4.heap[w.heap.size]? = some (.cells #[.int .i64 x.to, .int .i64 x.cost, .slice va x.hops.length vc] 46) := by
    rw [hgrow.block w.heap.size (by simp; omega) (by simp; omega), Below.heap_alloc _ _ _ (by simp; omega), Below.heap_alloc _ _ _ (by simp), heap_alloc_new]
  have q1 : w4.heap[w.heap.size + 1]? = some (.cells #[.int .i64 0, .int .i64 0, .slice none 0 0] 46) := by
    rw [hgrow.block (w.heap.size + 1) (by simp) (by simp), Below.heap_alloc _ _ _ (by simp)]
    have e := heap_alloc_new (w.alloc (.cells #[.int .i64 x.to, .int .i64 x.cost, .slice va x.hops.length vc] 46)) (.cells #[.int .i64 0, .int .i64 0, .slice none 0 0] 46)
    rw [show (w.alloc (.cells #[.int .i64 x.to, .int .i64 x.cost, .slice va x.hops.length vc] 46)).heap.size = w.heap.size + 1 by simp] at e
    exact e
  have r2 := cells_at q0 2
  have f0 := frozen_at q0
  simp at r2
  have q2 := heap_setCell_same w4 w.heap.size 2 _ _ (.slice na x.hops.length nc) q0
  simp only [List.setIfInBounds_toArray, List.set_cons_zero, List.set_cons_succ] at q2
  have q3 : (w4.setCell ⟨w.heap.size, 2, none⟩ (.slice na x.hops.length nc)).heap[w.heap.size + 1]? = some (.cells #[.int .i64 0, .int .i64 0, .slice none 0 0] 46) := by
    rw [heap_setCell_other w4 ⟨w.heap.size, 2, none⟩ _ _ (by show w.heap.size + 1 ≠ w.heap.size; omega)]; exact q1
  have y0 := cells_at q2 0
  have y1 := cells_at q2 1
  have y2 := cells_at q2 2
  simp at y0 y1 y2
  have u0 := cells_at q3 0
  have u1 := cells_at q3 1
  have u2 := cells_at q3 2
  simp at u0 u1 u2
  have fu := frozen_at q3
  have F := finW3 x (.slice na x.hops.length nc) q3
  have hown2 := owns_set (j := 2) (u := .slice na x.hops.length nc) hown' (show w.heap.size < w.heap.size + 2 by omega)
  have G8 := grownW3 (w4.setCell ⟨w.heap.size, 2, none⟩ (.slice na x.hops.length nc)) (w.heap.size + 1) x (.slice na x.hops.length nc)
  have hown3 := owns_baseS (b0 := w.heap.size) (hown2.kept G8 (by
    cases hv : (Value.slice na x.hops.length nc).ownBlock with
    | none => exact .inl rfl
    | some g => exact .inr (fun e => by have := (hown2.lt g hv).1; simp at e; omega))) (by omega)
  have hb5 : Below w.heap.size w (putW3 (w4.setCell ⟨w.heap.size, 2, none⟩ (.slice na x.hops.length nc)) (w.heap.size + 1) x (.slice na x.hops.length nc)) := (hb4.setCell (p := ⟨w.heap.size, 2, none⟩) (Nat.le_refl _) _).grown G8 (by have := lt_of_heap q3; omega) (fun k hk => by simp at hk; omega)
  have FF := hide F
  have H3 := hide hown3
  have H5 := hide hb5
  clear F hown3 hb5 hown2 G8 hb4 hown' hgrow q0 q1 q2 q3 OW
  go_wp2_with fail
  (try simp only [Exit.inBlock, Exit.then])
  refine bodyPost_ret (results_cell_row rfl _ _ (w.heap.size + 1) 46 (wayC _ _) (0, 0) _ rfl FF.out Tryz.underlying46 rfl (by kernel_rfl)) rfl ?_
  exact ⟨_, rfl, H3.out, H5.out⟩
end Go.Proofs.YtidoieolejkflaaGreat
namespace Go.Proofs.YtidoieolejkflaaGreat
open Go.RowKit

set_option linter.unusedSimpArgs false

theorem take_mem {l : List Int} {k : Nat} {z y : Int} (h : l[k]? = some y) (hn : z ∉ l.take k) (hz : z ≠ y) : z ∉ l.take (k + 1) := by
  obtain ⟨hk, e⟩ := List.getElem?_eq_some_iff.1 h
  rw [List.take_succ_eq_append_getElem hk, e]
  simp [hn, hz]

set_option maxRecDepth 100000 in
set_option maxHeartbeats 1000000 in
theorem sin_any (v : Value) (l : List Int) (z : Int) (w : World) (hn : l.length ≤ 1048576) (hv : HopsAt w v l w.heap.size) :
    Calls Tryz.prog 123 #[v, .int .i64 z] w fun e w' => e = .returned (.bool (decide (z ∈ l))) ∧ Below w.heap.size w w' := by
  obtain ⟨R, hR⟩ : ∃ R, R = decide (z ∈ l) := ⟨_, rfl⟩
  rw [← hR]
  have HR := hide hR
  clear hR
  obtain ⟨a, cap, rfl⟩ := hv.shape
  have HV := hide hv
  clear hv
  go_enter Tryz.func123, Tryz.ntmps123
  go_wp2
  go_loopw [5] (fun i wr => ∃ k : Nat, k ≤ l.length ∧ i = .int .i64 k ∧ Hid (z ∉ l.take k) ∧ Below w.heap.size w wr) (fun i _ => l.length - (intOf i).toNat)
  case atStart => exact ⟨0, by omega, rfl, hide (by simp), Below.refl _ _⟩
  case round =>
    obtain ⟨k, hk, rfl, HNO, hnx⟩ := hrel
    by_cases hlt : k < l.length
    · obtain ⟨y, hy⟩ : ∃ y, l[k]? = some y := ⟨l[k], List.getElem?_eq_getElem hlt⟩
      obtain ⟨b, off, cap', hve, hbb, c0⟩ := HV.out.cell k y hy
      cases hve
      rw [← hnx.cell (p := ⟨b, off + k, none⟩) hbb] at c0
      have hki : (0 : Int) ≤ (k : Int) := by omega
      have hkj : (k : Int) < (l.length : Int) := by omega
      by_cases hzy : z = y
      · subst hzy
        have HF := hide (show R = true by rw [HR.out]; exact decide_eq_true (List.mem_of_getElem? hy))
        clear hy
        go_wp2
        (try go_quiet (fail))
        (try go_wp2)
        go_ret
        exact ⟨ret_bool HF.out, by first | exact hnx | exact hnx.trans ⟨rfl, rfl, rfl, Nat.le_refl _, fun _ _ => rfl⟩⟩
      · have HN := hide (take_mem hy HNO.out hzy)
        have hyz : ¬ y = z := fun e => hzy e.symm
        have hd : (y == z) = false := by simpa using hyz
        clear hy
        go_wp2
        (try go_quiet (fail))
        (try go_wp2)
        go_roundw
        case rel => exact ⟨k + 1, by omega, by go_num, HN, by first | exact hnx | exact hnx.trans ⟨rfl, rfl, rfl, Nat.le_refl _, fun _ _ => rfl⟩⟩
        case measure => simp [intOf]; omega
    · have HF := hide (show R = false by
        rw [HR.out]
        have h := HNO.out
        rw [List.take_of_length_le (by omega)] at h
        exact decide_eq_false h)
      go_wp2
      go_ret
      exact ⟨ret_bool HF.out, hnx⟩

/-- the numbers of 1 .. k that stand in one of the two -/
def addT (a b : List Int) : Nat → List Int
  | 0 => []
  | k + 1 => addT a b k ++ (if (k : Int) + 1 ∈ a ∨ (k : Int) + 1 ∈ b then [(k : Int) + 1] else [])

def addL (a b : List Int) : List Int := addT a b 6

theorem addT_len (a b : List Int) (k : Nat) : (addT a b k).length ≤ k := by
  induction k with
  | zero => simp [addT]
  | succ k ih =>
    unfold addT
    rw [List.length_append]
    split <;> simp <;> omega

set_option maxRecDepth 100000 in
set_option maxHeartbeats 2000000 in
theorem sadd_any (v1 v2 : Value) (xs ys : List Int) (w : World) (hx : xs.length ≤ 1048576) (hy : ys.length ≤ 1048576) (h1 : HopsAt w v1 xs w.heap.size) (h2 : HopsAt w v2 ys w.heap.size) :
    Calls Tryz.prog 74 #[v1, v2] w fun e w' => ∃ x, e = .returned x ∧ w'.ownsRow w.heap.size 3 1 x (addL xs ys).length (flat intE (addL xs ys)) ∧ Below w.heap.size w w' := by
  obtain ⟨a1, c1, rfl⟩ := h1.shape
  obtain ⟨a2, c2, rfl⟩ := h2.shape
  have HI1 := hide (fun z W (hb : Below w.heap.size w W) => sin_any (.slice a1 xs.length c1) xs z W hx ((RowAt.later h1 hb (Nat.le_refl _)).more hb.size))
  have HI2 := hide (fun z W (hb : Below w.heap.size w W) => sin_any (.slice a2 ys.length c2) ys z W hy ((RowAt.later h2 hb (Nat.le_refl _)).more hb.size))
  have O0 := hide (own_litI w w.heap.size w.heap.size rfl (Nat.le_refl _))
  have B0 : Below w.heap.size w (w.alloc (.cells #[] 3)) := (Below.refl _ _).alloc (Nat.le_refl _) _
  clear h1 h2
  go_enter Tryz.func74, Tryz.ntmps74
  go_wp2
  generalize w.alloc (.cells #[] 3) = w0 at *
  go_loopw [6, 5] (fun i o wr => ∃ (k : Nat) (l : List Int) (u : Value), k ≤ 6 ∧ i = .int .i64 ((k : Int) + 1) ∧ o = u ∧ Hid (l = addT xs ys k) ∧ wr.ownsRow w.heap.size 3 1 u l.length (flat intE l) ∧ Below w.heap.size w wr) (fun i _ _ => 8 - (intOf i).toNat)
  case atStart => exact ⟨0, [], _, by omega, rfl, rfl, hide rfl, O0.out, B0⟩
  case round =>
    obtain ⟨k, l, u, hk, rfl, rfl, HL, hown, hnx⟩ := hrel
    obtain ⟨ua, uc, rfl⟩ := owns_lenS hown
    have hsz := hnx.size
    have hll : l.length ≤ 6 := by rw [HL.out]; have := addT_len xs ys k; omega
    have OW := hide hown
    clear hown
    by_cases hlt : k < 6
    · have hk6 : (k : Int) + 1 ≤ 6 := by omega
      have hw1 : IntKind.i64.wrap ((k : Int) + 1 + 1) = ((k + 1 : Nat) : Int) + 1 := by rw [wrap_fit _ (by omega) (by omega)]; omega
      obtain ⟨P, hP⟩ : ∃ P, P = decide ((k : Int) + 1 ∈ xs) := ⟨_, rfl⟩
      obtain ⟨Q, hQ⟩ : ∃ Q, Q = decide ((k : Int) + 1 ∈ ys) := ⟨_, rfl⟩
      have H1 := HI1.out ((k : Int) + 1)
      have H2 := HI2.out ((k : Int) + 1)
      rw [← hP] at H1
      rw [← hQ] at H2
      have J1 := hide H1
      have J2 := hide H2
      have HST := hide (show addT xs ys (k + 1) = l ++ (if P = true ∨ Q = true then [(k : Int) + 1] else []) by
        rw [HL.out, hP, hQ]
        simp [addT])
      clear H1 H2 hP hQ HI1 HI2
      cases P
      · go_wp2_with fail
        refine (J1.out _ hnx).mono ?_
        rintro e w2 ⟨rfl, b2⟩
        have b2s := b2.size
        go_wp2_with fail
        refine (J2.out _ (hnx.trans (b2.mono hsz))).mono ?_
        rintro e w3 ⟨rfl, b3⟩
        have b3s := b3.size
        have B3 : Below wr.heap.size wr w3 := b2.trans (b3.mono b2s)
        clear b2 b3
        cases Q
        · have HN := hide (show l = addT xs ys (k + 1) by rw [HST.out]; simp)
          have OW3 := hide (owns_below OW.out B3 (Nat.le_refl _))
          go_wp2
          go_roundw
          case rel => exact ⟨k + 1, l, _, by omega, rfl, rfl, HN, OW3.out, hnx.trans (B3.mono hsz)⟩
          case measure => simp [intOf]; omega
        · have HN := hide (show l ++ [(k : Int) + 1] = addT xs ys (k + 1) by rw [HST.out]; simp)
          go_wp2_with (first
            | (at_builtin; refine append_struct5 intE_len (by omega) (by omega) _ rfl _ _ 34 rfl w.heap.size 3 Tryz.underlying34 (.int .i64 0) rfl Tryz.info3 _ l ((k : Int) + 1) (intE_one _) rfl ((owns_below OW.out B3 (Nat.le_refl _)).alloc _) ⟨w3.heap.size, 0, none⟩ 1 rfl (news_struct (cs := intE ((k : Int) + 1))) (by omega) (by simp; omega) ?_))
          intro v' w4 hown' hgrow
          obtain ⟨va, vc, rfl⟩ := owns_lenS hown'
          have B4 : Below w.heap.size w w4 := ((hnx.trans (B3.mono hsz)).alloc (by omega) _).grown hgrow (by simp; omega) (fun j hj => (OW.out.lt j hj).1)
          have OW4 := hide hown'
          clear hown' hgrow
          go_wp2
          go_roundw
          case rel => exact ⟨k + 1, l ++ [(k : Int) + 1], _, by omega, rfl, rfl, HN, (by simpa using OW4.out), B4⟩
          case measure => simp [intOf]; omega
      · have HN := hide (show l ++ [(k : Int) + 1] = addT xs ys (k + 1) by rw [HST.out]; simp)
        go_wp2_with fail
        refine (J1.out _ hnx).mono ?_
        rintro e w3 ⟨rfl, B3⟩
        have b3s := B3.size
        go_wp2_with (first
          | (at_builtin; refine append_struct5 intE_len (by omega) (by omega) _ rfl _ _ 34 rfl w.heap.size 3 Tryz.underlying34 (.int .i64 0) rfl Tryz.info3 _ l ((k : Int) + 1) (intE_one _) rfl ((owns_below OW.out B3 (Nat.le_refl _)).alloc _) ⟨w3.heap.size, 0, none⟩ 1 rfl (news_struct (cs := intE ((k : Int) + 1))) (by omega) (by simp; omega) ?_))
        intro v' w4 hown' hgrow
        obtain ⟨va, vc, rfl⟩ := owns_lenS hown'
        have B4 : Below w.heap.size w w4 := ((hnx.trans (B3.mono hsz)).alloc (by omega) _).grown hgrow (by simp; omega) (fun j hj => (OW.out.lt j hj).1)
        have OW4 := hide hown'
        clear hown' hgrow
        go_wp2
        go_roundw
        case rel => exact ⟨k + 1, l ++ [(k : Int) + 1], _, by omega, rfl, rfl, HN, (by simpa using OW4.out), B4⟩
        case measure => simp [intOf]; omega
    · have hk6 : ¬ (k : Int) + 1 ≤ 6 := by omega
      have KN := hide (show l = addL xs ys by rw [HL.out, show k = 6 by omega]; rfl)
      go_wp2
      go_ret
      have h := OW.out
      rw [KN.out] at h
      exact ⟨_, by rw [KN.out]; rfl, h, hnx⟩
end Go.Proofs.YtidoieolejkflaaGreat
namespace Go.Proofs.YtidoieolejkflaaGreat
open Go.RowKit

def rowA (f : Nat → Value) (n : Nat) : Array Value := ((List.range n).map f).toArray

theorem rowA_at {f : Nat → Value} {n i : Nat} (h : i < n) : (rowA f n)[i]? = some (f i) := by
  simp [rowA, h]

theorem rowA_size (f : Nat → Value) (n : Nat) : (rowA f n).size = n := by simp [rowA]

theorem rowA_set (f : Nat → Value) (n i : Nat) (x : Value) : (rowA f n).setIfInBounds i x = rowA (fun j => if j = i then x else f j) n := by
  apply Array.ext
  · simp [rowA]
  · intro j h1 h2
    have hj : j < n := by simpa [rowA] using h2
    simp [rowA]
    by_cases e : i = j
    · subst e; simp
    · have e' : ¬ j = i := fun h => e h.symm
      simp [e, e']

theorem rowA_congr {f g : Nat → Value} {n : Nat} (h : ∀ i, i < n → f i = g i) : rowA f n = rowA g n := by
  unfold rowA
  congr 1
  apply List.map_congr_left
  intro i hi
  exact h i (List.mem_range.1 hi)

theorem rowA_const (x : Value) (n : Nat) : rowA (fun _ => x) n = Array.replicate n x := by
  apply Array.ext
  · simp [rowA]
  · intro j h1 h2
    simp [rowA]

theorem rowA_cell {W : World} {b n i : Nat} {f : Nat → Value} {t : TypeId} (h : W.heap[b]? = some (.cells (rowA f n) t)) (hi : i < n) : W.cell? ⟨b, i, none⟩ = some (f i) := by
  have e := cells_at h i
  rw [rowA_at hi] at e
  exact e

theorem rowA_put {W : World} {b n i : Nat} {f : Nat → Value} {t : TypeId} (h : W.heap[b]? = some (.cells (rowA f n) t)) (x : Value) : (W.setCell ⟨b, i, none⟩ x).heap[b]? = some (.cells (rowA (fun j => if j = i then x else f j) n) t) := by
  have e := heap_setCell_same W b i _ _ x h
  rw [rowA_set] at e
  exact e
theorem rowA_made (z : Value) (n : Nat) : madeCells #[z] n = rowA (fun _ => z) n := by
  apply Array.ext
  · simp [rowA, madeCells]
  · intro j h1 h2
    simp [rowA, madeCells, Nat.mod_one]

theorem wpList_make_rowA {P : Program} (w : World) {ops : Array Oper} {rest : List Oper} {o : Oper} {a : Act} {Q : Exit → Act → World → Prop}
    (hg : o.guard = none) (l c : Operand) (t : TypeId) (hop : o.op = Op.makeSlice t l c)
    (e : TypeId) (z : Value) (bytes : Nat) (ht : P.underlying t = some (.slice e)) (hinfo : (P.info? e).map (fun i => (i.zero, i.size, i.bytes)) = some (some z, 1, bytes)) (hz1 : z.cells = #[z])
    (n : Nat) (hl : a.eval l = .int .i64 (n : Int)) (hc : a.eval c = .int .i64 (n : Int)) (hbytes : bytes * n ≤ 281474976710656) (h63 : n ≤ 9223372036854775807)
    (hK : wpList P ops Q rest (a.put o.dst (.slice (some ⟨w.heap.size, 0, none⟩) n n)) (w.alloc (.cells (rowA (fun _ => z) n) e))) :
    wpList P ops Q (o :: rest) a w := by
  obtain ⟨i, hi, hzz⟩ := Option.map_eq_some_iff.1 hinfo
  simp only [Prod.mk.injEq] at hzz
  obtain ⟨hz, hs, hb⟩ := hzz
  refine wpList_make_row w hg l c t hop e i z ht hi hz hs hz1 .i64 .i64 n hl hc (by rw [hb]; exact hbytes) h63 ?_
  rw [rowA_made]
  exact hK
end Go.Proofs.YtidoieolejkflaaGreat
