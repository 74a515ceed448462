/-
  laws.eqIntS, markIntS, heldIntS, toIntS, szIntS: their contracts (IntRow2 without nets).
  Ways as values; laws.szWay, toWay, eqWay.
  laws.markIntS, markWay, heldWay: only the row's own memory turns; what was marked is held.
  Lists of ways, each with a row of its own.
  laws.szWayS, toWayS, eqWayS: their contracts.
-/
import Derived.Test.YtfccainebmbbdaaDoorRq6
import Derived.Test.YtfccainebmbbdaaDoorRq1
import Derived.Deep.QuietTactic
import Derived.BigQuiet
import Derived.WalkSmall
import Derived.Handy
import Derived.Test.YtfccainebmbbdaaDoorRq4
namespace Go.Proofs.YtfccainebmbbdaaDoor
open Go.RowKit

def intC (zs : List Int) (j : Nat) : Value := .int .i64 (zs.getD j 0)

def IntsAt (W : World) (v : Value) (zs : List Int) (B : Nat) : Prop := RowAt W v zs.length 1 (intC zs) B

theorem ints_of_owns {W : World} {base : Nat} {v : Value} {zs : List Int} (h : W.ownsRow base 3 1 v zs.length (intsOf zs)) : IntsAt W v zs W.heap.size := by
  by_cases h0 : zs.length = 0
  · obtain ⟨a, cap, rfl⟩ := owns_len h
    exact ⟨a, cap, rfl, .inl h0⟩
  · obtain ⟨g, cap, rfl, hg, hl⟩ := owns_shape h (by omega)
    refine ⟨_, cap, rfl, .inr ⟨g, 0, rfl, hl, fun j hj => ?_⟩⟩
    rw [Nat.zero_add, h.cellAt j (by omega)]
    have hj' : j < zs.length := by omega
    simp [intsOf, intC, List.getElem?_eq_getElem hj']

theorem below_drewN {B : Nat} {w wr : World} (h : Below B w wr) (n : Nat) : Below B w (wr.drewN n) := ⟨h.os, h.tape, h.output, h.size, h.block⟩

theorem list_ne_at {xs ys : List Int} {k : Nat} (h : xs.getD k 0 ≠ ys.getD k 0) : ¬ xs = ys := by
  rintro rfl
  exact h rfl

theorem list_eq_all {xs ys : List Int} (hl : xs.length = ys.length) (h : ∀ j, j < xs.length → xs.getD j 0 = ys.getD j 0) : xs = ys := by
  apply List.ext_getElem hl
  intro i h1 h2
  have := h i h1
  simpa [List.getD, List.getElem?_eq_getElem h1, List.getElem?_eq_getElem h2] using this

set_option maxRecDepth 100000 in
set_option maxHeartbeats 1000000 in
theorem eqI_any (v1 v2 : Value) (xs ys : List Int) (w : World) (h1 : IntsAt w v1 xs w.heap.size) (h2 : IntsAt w v2 ys w.heap.size) (hn : xs.length ≤ 1048576) :
    Calls Tryd.prog 18 #[v1, v2] w fun e w' => e = .returned (.bool (decide (xs = ys))) ∧ Below w.heap.size w w' := by
  obtain ⟨a1, c1, rfl, k1⟩ := h1
  obtain ⟨a2, c2, rfl, k2⟩ := h2
  by_cases hl : xs.length = ys.length
  · have K1 := hide k1
    have K2 := hide k2
    clear k1 k2
    go_enter Tryd.func18, Tryd.ntmps18
    go_wp2
    go_loopw [5] (fun i wr => ∃ k : Nat, k ≤ xs.length ∧ i = .int .i64 k ∧ (∀ j, j < k → xs.getD j 0 = ys.getD j 0) ∧ Below w.heap.size w wr) (fun i _ => xs.length - (intOf i).toNat)
    case atStart => exact ⟨0, by omega, rfl, by omega, Below.refl _ _⟩
    case round =>
      obtain ⟨k, hk, rfl, hall, hnx⟩ := hrel
      have HALL := hide hall
      clear hall
      by_cases hlt : k < xs.length
      · obtain ⟨b1, o1, ha1, hb1, d1⟩ : ∃ b1 o1, a1 = some ⟨b1, o1, none⟩ ∧ b1 < w.heap.size ∧ wr.cell? ⟨b1, o1 + k, none⟩ = some (.int .i64 (xs.getD k 0)) := by
          rcases K1.out with h0 | ⟨b, off, ha, hb, hx⟩
          · omega
          · exact ⟨b, off, ha, hb, by rw [hnx.cell (p := ⟨b, off + k, none⟩) hb, hx k (by omega)]; rfl⟩
        obtain ⟨b2, o2, ha2, hb2, d2⟩ : ∃ b2 o2, a2 = some ⟨b2, o2, none⟩ ∧ b2 < w.heap.size ∧ wr.cell? ⟨b2, o2 + k, none⟩ = some (.int .i64 (ys.getD k 0)) := by
          rcases K2.out with h0 | ⟨b, off, ha, hb, hx⟩
          · omega
          · exact ⟨b, off, ha, hb, by rw [hnx.cell (p := ⟨b, off + k, none⟩) hb, hx k (by omega)]; rfl⟩
        subst ha1 ha2
        have hki : (0 : Int) ≤ (k : Int) := by omega
        have hkj : (k : Int) < (xs.length : Int) := by omega
        have hkl : (k : Int) < (ys.length : Int) := by omega
        obtain ⟨x, hx⟩ : ∃ x, x = xs.getD k 0 := ⟨_, rfl⟩
        obtain ⟨y, hy⟩ : ∃ y, y = ys.getD k 0 := ⟨_, rfl⟩
        rw [← hx] at d1
        rw [← hy] at d2
        have HX := hide hx
        have HY := hide hy
        clear hx hy
        by_cases hxy : x = y
        · subst hxy
          go_wp2
          go_quiet (fail)
          go_wp2
          go_roundw
          case rel => exact ⟨k + 1, by omega, by go_num, (fun j hj => by
            by_cases e : j = k
            · subst e; rw [← HX.out, ← HY.out]
            · exact HALL.out j (by omega)), below_drewN hnx _⟩
          case measure => simp [intOf]; omega
        · have hd : (x != y) = true := by simpa using hxy
          go_wp2
          go_quiet (fail)
          go_wp2
          go_ret
          exact ⟨ret_bool_no (list_ne_at (k := k) (by rw [← HX.out, ← HY.out]; exact hxy)), below_drewN hnx _⟩
      · have hkn : k = xs.length := by omega
        have KN := hide hkn
        clear hkn
        go_wp2
        go_ret
        exact ⟨ret_bool_yes (list_eq_all hl (by rw [← KN.out]; exact HALL.out)), hnx⟩
  · clear k1 k2
    have hd : ((xs.length : Int) != (ys.length : Int)) = true := by simp; omega
    go_enter Tryd.func18, Tryd.ntmps18
    go_wp2
    go_ret
    exact ⟨ret_bool_no (fun h => hl (by rw [h])), Below.refl _ _⟩

def marksI (q : Int) : Nat → List Int
  | 0 => []
  | n + 1 => marksI q n ++ [q + (n : Int)]

theorem marksI_length (q : Int) : ∀ n, (marksI q n).length = n
  | 0 => rfl
  | n + 1 => by simp [marksI, marksI_length q n]

def markedI (q : Int) (i : Nat) (xs : List Int) : List Int := marksI q i ++ xs.drop i

theorem markedI_length (q : Int) (i : Nat) (xs : List Int) (h : i ≤ xs.length) : (markedI q i xs).length = xs.length := by simp [markedI, marksI_length]; omega

theorem markedI_step (q : Int) (i : Nat) (xs : List Int) (h : i < xs.length) : (markedI q i xs).set i (q + (i : Int)) = markedI q (i + 1) xs := by
  unfold markedI
  rw [marksI, List.set_append_right _ _ (by rw [marksI_length]; omega), marksI_length, Nat.sub_self, List.drop_eq_getElem_cons h]
  simp only [List.set_cons_zero, List.append_assoc, List.cons_append, List.nil_append]

theorem intsOf_set (xs : List Int) (i : Nat) (t : Int) : (intsOf xs).set i (.int .i64 t) = intsOf (xs.set i t) := by simp [intsOf]

set_option maxRecDepth 100000 in
set_option maxHeartbeats 1000000 in
theorem markI_any (v : Value) (base : Nat) (xs : List Int) (q : Int) (w : World) (h1 : w.ownsRow base 3 1 v xs.length (intsOf xs)) (hn : xs.length ≤ 1000000) (hq : -1000000 ≤ q) (hq2 : q ≤ 1000000000) :
    Calls Tryd.prog 20 #[v, .int .i64 q] w fun e w' => e = .returned (.int .i64 (q + (xs.length : Int))) ∧ w'.ownsRow base 3 1 v xs.length (intsOf (marksI q xs.length)) ∧ Below base w w' := by
  by_cases h0 : xs.length = 0
  · have hx : xs = [] := List.length_eq_zero_iff.1 h0
    subst hx
    obtain ⟨a1, c1, rfl⟩ := owns_len h1
    have H1 := hide h1
    clear h1 h0
    go_enter Tryd.func20, Tryd.ntmps20
    go_wp2
    refine wp_loop_rounds 1 ?_
    rw [rounds_succ]
    go_wp2
    go_ret
    exact ⟨by simp, H1.out, Below.refl _ _⟩
  · obtain ⟨g1, c1, rfl, hg1, hl1⟩ := owns_shape h1 (by omega)
    obtain ⟨n, hnn⟩ : ∃ n, n = xs.length := ⟨_, rfl⟩
    have NN := hide hnn
    rw [← hnn] at hn h1 ⊢
    clear hnn h0
    go_enter Tryd.func20, Tryd.ntmps20
    go_wp2
    go_loopw [5, 1] (fun i r wr => ∃ k : Nat, k ≤ n ∧ i = .int .i64 k ∧ r = .int .i64 (q + (k : Int)) ∧ wr.ownsRow base 3 1 (.slice (some ⟨g1, 0, none⟩) n c1) n (intsOf (markedI q k xs)) ∧ Below base w wr) (fun i _ _ => n - (intOf i).toNat)
    case atStart => exact ⟨0, by omega, rfl, by simp, h1, Below.refl _ _⟩
    case round =>
      clear h1
      obtain ⟨k, hk, rfl, rfl, hown, hnx⟩ := hrel
      have hsz := hnx.size
      by_cases hlt : k < n
      · have hki : (0 : Int) ≤ (k : Int) := by omega
        have hkj : (k : Int) < (n : Int) := by omega
        have hfr1 := hown.frozenAt k
        have hcl1 : ∃ t, wr.cell? ⟨g1, k, none⟩ = some (.int .i64 t) := by
          rw [hown.cellAt k (by omega)]
          have hl : k < (markedI q k xs).length := by rw [markedI_length]; have := NN.out; omega; have := NN.out; omega
          exact ⟨(markedI q k xs)[k], by simp [intsOf, List.getElem?_eq_getElem hl]⟩
        obtain ⟨t, hcl⟩ := hcl1
        have hst := hown.stored k (.int .i64 (q + (k : Int)))
        rw [intsOf_set, markedI_step q k xs (by have := NN.out; omega)] at hst
        have ST := hide hst.1
        clear hst hown
        go_wp2
        go_roundw
        case rel => exact ⟨k + 1, by omega, by go_num, by go_num, ST.out, hnx.setCell hg1 _⟩
        case measure => simp [intOf]; omega
      · have hkn : k = n := by omega
        have KN := hide hkn
        have OW := hide hown
        clear hkn hown
        go_wp2
        go_ret
        refine ⟨ret_int (by rw [KN.out]), ?_, hnx⟩
        have h := OW.out
        rw [KN.out] at h
        unfold markedI at h
        rw [List.drop_eq_nil_of_le (by have := NN.out; omega), List.append_nil] at h
        exact h

theorem marksI_get (q : Int) : ∀ (n k : Nat), k < n → (marksI q n).getD k 0 = q + (k : Int)
  | 0, k, h => by omega
  | n + 1, k, h => by
    by_cases e : k = n
    · subst e
      simp [marksI, List.getD, marksI_length]
    · have := marksI_get q n k (by omega)
      have hk : k < (marksI q n).length := by rw [marksI_length]; omega
      simp only [marksI, List.getD, List.getElem?_append_left hk] at this ⊢
      exact this

set_option maxRecDepth 100000 in
set_option maxHeartbeats 1000000 in
theorem heldI_any (v : Value) (n : Nat) (q : Int) (w : World) (h1 : IntsAt w v (marksI q n) w.heap.size) (hn : n ≤ 1000000) (hq : -1000000 ≤ q) (hq2 : q ≤ 1000000000) :
    Calls Tryd.prog 22 #[v, .int .i64 q] w fun e w' => e = .returned (.int .i64 (q + (n : Int))) ∧ Below w.heap.size w w' := by
  obtain ⟨a1, c1, rfl, k1⟩ := h1
  rw [marksI_length] at k1 ⊢
  have K1 := hide k1
  clear k1
  go_enter Tryd.func22, Tryd.ntmps22
  go_wp2
  go_loopw [5, 1] (fun i r wr => ∃ k : Nat, k ≤ n ∧ i = .int .i64 k ∧ r = .int .i64 (q + (k : Int)) ∧ Below w.heap.size w wr) (fun i _ _ => n - (intOf i).toNat)
  case atStart => exact ⟨0, by omega, rfl, by simp, Below.refl _ _⟩
  case round =>
    obtain ⟨k, hk, rfl, rfl, hnx⟩ := hrel
    by_cases hlt : k < n
    · obtain ⟨b1, o1, ha1, hb1, d1⟩ : ∃ b1 o1, a1 = some ⟨b1, o1, none⟩ ∧ b1 < w.heap.size ∧ wr.cell? ⟨b1, o1 + k, none⟩ = some (.int .i64 (q + (k : Int))) := by
        rcases K1.out with h0 | ⟨b, off, ha, hb, hx⟩
        · omega
        · exact ⟨b, off, ha, hb, by rw [hnx.cell (p := ⟨b, off + k, none⟩) hb, hx k (by omega)]; simp only [intC, marksI_get q n k hlt]⟩
      subst ha1
      have hki : (0 : Int) ≤ (k : Int) := by omega
      have hkj : (k : Int) < (n : Int) := by omega
      go_wp2
      go_roundw
      case rel => exact ⟨k + 1, by omega, by go_num, by go_num, hnx⟩
      case measure => simp [intOf]; omega
    · have hkn : k = n := by omega
      have KN := hide hkn
      clear hkn
      go_wp2
      go_ret
      exact ⟨ret_int (by rw [KN.out]), hnx⟩

/-- cells of numbers, as rows of structs of one cell -/
def intE (z : Int) : List Value := [.int .i64 z]

theorem intE_len (z : Int) : (intE z).length = 1 := rfl

theorem flat_int (l : List Int) : flat intE l = intsOf l := by
  induction l with
  | nil => rfl
  | cons x l ih => rw [flat_cons, ih]; rfl

def HopsAt (W : World) (v : Value) (l : List Int) (B : Nat) : Prop := StructsAt intE 1 W v l B

theorem HopsAt.then {W W' : World} {v : Value} {l : List Int} (h : HopsAt W v l W.heap.size) (hb : Below W.heap.size W W') : HopsAt W' v l W'.heap.size := RowAt.then h hb

theorem HopsAt.shape {W : World} {v : Value} {l : List Int} {B : Nat} (h : HopsAt W v l B) : ∃ a cap, v = .slice a l.length cap := by obtain ⟨a, cap, h, _⟩ := h; exact ⟨a, cap, h⟩

theorem HopsAt.ints {W : World} {v : Value} {l : List Int} {B : Nat} (h : HopsAt W v l B) : IntsAt W v l B := by
  obtain ⟨a, cap, hv, h2⟩ := h
  refine ⟨a, cap, hv, ?_⟩
  rcases h2 with h0 | ⟨b, off, ha, hb, hx⟩
  · exact .inl h0
  · refine .inr ⟨b, off, ha, hb, fun j hj => ?_⟩
    rw [hx j hj, flat_int]
    have hj' : j < l.length := by omega
    simp [intsOf, intC, List.getD, List.getElem?_eq_getElem hj']

theorem HopsAt.cell {W : World} {v : Value} {l : List Int} {B : Nat} (h : HopsAt W v l B) (i : Nat) (z : Int) (hz : l[i]? = some z) : ∃ b off cap, v = .slice (some ⟨b, off, none⟩) l.length cap ∧ b < B ∧ W.cell? ⟨b, off + i, none⟩ = some (.int .i64 z) := by
  obtain ⟨b, off, cap, hv, hb, hc⟩ := StructsAt.cell h intE_len i z hz
  exact ⟨b, off, cap, hv, hb, by have := hc 0 _ rfl; simpa using this⟩

theorem hops_of {W : World} {base : Nat} {v : Value} {l : List Int} (h : W.ownsRow base 3 1 v l.length (flat intE l)) : HopsAt W v l W.heap.size := owns_rowAt h

end Go.Proofs.YtfccainebmbbdaaDoor
namespace Go.Proofs.YtfccainebmbbdaaDoor
open Go.RowKit

structure WayD where
  to : Int
  cost : Int
  hops : List Int
  deriving DecidableEq

def wayC (x : WayD) (v : Value) : Array Value := #[.int .i64 x.to, .int .i64 x.cost, v]

/-- the value v is the way x, whose row lies below B -/
def WayAt (W : World) (v : Value) (x : WayD) (B : Nat) : Prop := ∃ v1, v = .agg (wayC x v1) ∧ HopsAt W v1 x.hops B

theorem WayAt.then {W W' : World} {v : Value} {x : WayD} (h : WayAt W v x W.heap.size) (hb : Below W.heap.size W W') : WayAt W' v x W'.heap.size := by
  obtain ⟨v1, hv, h1⟩ := h
  exact ⟨v1, hv, h1.then hb⟩

theorem wayAt_of {W : World} {lo : Nat} {x : WayD} {u : Value} (h : W.ownsRow lo 3 1 u x.hops.length (flat intE x.hops)) : WayAt W (.agg (wayC x u)) x W.heap.size := ⟨u, rfl, hops_of h⟩

def szW (q : Int) (n : Nat) : Int := if q - (n : Int) < 0 then -1 else q - (n : Int)

theorem szW_neg {q : Int} {n : Nat} : szW q n < 0 ∨ (0 ≤ szW q n ∧ szW q n = q - (n : Int)) := by
  unfold szW
  split <;> omega

end Go.Proofs.YtfccainebmbbdaaDoor
namespace Go.Proofs.YtfccainebmbbdaaDoor
open Go.RowKit

theorem grown_reflW (w : World) (r : Option Nat) : w.grownBy w r := ⟨rfl, rfl, rfl, Nat.le_refl _, fun _ _ _ => rfl⟩

set_option maxRecDepth 100000 in
set_option maxHeartbeats 1000000 in
theorem markG_any (v : Value) (base : Nat) (xs : List Int) (q : Int) (w : World) (h1 : w.ownsRow base 3 1 v xs.length (flat intE xs)) (hn : xs.length ≤ 1048576) (hq : 0 ≤ q) (hq2 : q ≤ 1000000000) :
    Calls Tryd.prog 20 #[v, .int .i64 q] w fun e w' => e = .returned (.int .i64 (q + (xs.length : Int))) ∧ w'.ownsRow base 3 1 v xs.length (flat intE (marksI q xs.length)) ∧ w.grownBy w' v.ownBlock := by
  rw [flat_int] at h1
  rw [flat_int]
  by_cases h0 : xs.length = 0
  · have hx : xs = [] := List.length_eq_zero_iff.1 h0
    subst hx
    obtain ⟨a1, c1, rfl⟩ := owns_len h1
    have H1 := hide h1
    clear h1 h0
    go_enter Tryd.func20, Tryd.ntmps20
    go_wp2
    refine wp_loop_rounds 1 ?_
    rw [rounds_succ]
    go_wp2
    go_ret
    exact ⟨by simp, H1.out, grown_reflW _ _⟩
  · obtain ⟨g1, c1, rfl, hg1, hl1⟩ := owns_shape h1 (by omega)
    obtain ⟨n, hnn⟩ : ∃ n, n = xs.length := ⟨_, rfl⟩
    have NN := hide hnn
    rw [← hnn] at hn h1 ⊢
    clear hnn h0
    go_enter Tryd.func20, Tryd.ntmps20
    go_wp2
    go_loopw [5, 1] (fun i r wr => ∃ k : Nat, k ≤ n ∧ i = .int .i64 k ∧ r = .int .i64 (q + (k : Int)) ∧ wr.ownsRow base 3 1 (.slice (some ⟨g1, 0, none⟩) n c1) n (intsOf (markedI q k xs)) ∧ w.grownBy wr (some g1)) (fun i _ _ => n - (intOf i).toNat)
    case atStart => exact ⟨0, by omega, rfl, by simp, h1, grown_reflW _ _⟩
    case round =>
      clear h1
      obtain ⟨k, hk, rfl, rfl, hown, hnx⟩ := hrel
      by_cases hlt : k < n
      · have hki : (0 : Int) ≤ (k : Int) := by omega
        have hkj : (k : Int) < (n : Int) := by omega
        have hfr1 := hown.frozenAt k
        have hcl1 : ∃ t, wr.cell? ⟨g1, k, none⟩ = some (.int .i64 t) := by
          rw [hown.cellAt k (by omega)]
          have hl : k < (markedI q k xs).length := by rw [markedI_length]; have := NN.out; omega; have := NN.out; omega
          exact ⟨(markedI q k xs)[k], by simp [intsOf, List.getElem?_eq_getElem hl]⟩
        obtain ⟨t, hcl⟩ := hcl1
        have hst := hown.stored k (.int .i64 (q + (k : Int)))
        rw [intsOf_set, markedI_step q k xs (by have := NN.out; omega)] at hst
        have ST := hide hst.1
        clear hst hown
        go_wp2
        go_roundw
        case rel => exact ⟨k + 1, by omega, by go_num, by go_num, ST.out, grown_trans hnx (grown_set _ _ _ _)⟩
        case measure => simp [intOf]; omega
      · have hkn : k = n := by omega
        have KN := hide hkn
        have OW := hide hown
        clear hkn hown
        go_wp2
        go_ret
        refine ⟨ret_int (by rw [KN.out]), ?_, hnx⟩
        have h := OW.out
        rw [KN.out] at h
        unfold markedI at h
        rw [List.drop_eq_nil_of_le (by have := NN.out; omega), List.append_nil] at h
        exact h

set_option maxRecDepth 100000 in
set_option maxHeartbeats 1000000 in
theorem heldG_any (v : Value) (n : Nat) (q : Int) (w : World) (h1 : HopsAt w v (marksI q n) w.heap.size) (hn : n ≤ 1048576) (hq : 0 ≤ q) (hq2 : q ≤ 1000000000) :
    Calls Tryd.prog 22 #[v, .int .i64 q] w fun e w' => e = .returned (.int .i64 (q + (n : Int))) ∧ w = w' := by
  obtain ⟨a1, c1, rfl, k1⟩ := h1.ints
  rw [marksI_length] at k1 ⊢
  have K1 := hide k1
  clear k1 h1
  go_enter Tryd.func22, Tryd.ntmps22
  go_wp2
  go_loop [5, 1] (fun i r => ∃ k : Nat, k ≤ n ∧ i = .int .i64 k ∧ r = .int .i64 (q + (k : Int))) (fun i _ => n - (intOf i).toNat)
  case atStart => exact ⟨0, by omega, rfl, by simp⟩
  case round =>
    obtain ⟨k, hk, rfl, rfl⟩ := hrel
    by_cases hlt : k < n
    · obtain ⟨b1, o1, ha1, hb1, d1⟩ : ∃ b1 o1, a1 = some ⟨b1, o1, none⟩ ∧ b1 < w.heap.size ∧ w.cell? ⟨b1, o1 + k, none⟩ = some (.int .i64 (q + (k : Int))) := by
        rcases K1.out with h0 | ⟨b, off, ha, hb, hx⟩
        · omega
        · exact ⟨b, off, ha, hb, by rw [hx k (by omega)]; simp only [intC, marksI_get q n k hlt]⟩
      subst ha1
      have hki : (0 : Int) ≤ (k : Int) := by omega
      have hkj : (k : Int) < (n : Int) := by omega
      go_wp2
      go_round
      case rel => exact ⟨k + 1, by omega, by go_num, by go_num⟩
      case measure => simp [intOf]; omega
    · have hkn : k = n := by omega
      have KN := hide hkn
      clear hkn
      go_wp2
      go_ret
      exact ⟨ret_int (by rw [KN.out]), rfl⟩
end Go.Proofs.YtfccainebmbbdaaDoor
namespace Go.Proofs.YtfccainebmbbdaaDoor
open Go.RowKit

/-- a way, and the value of its row -/
abbrev WP := WayD × Value

def encW (p : WP) : List Value := [.int .i64 p.1.to, .int .i64 p.1.cost, p.2]

def zeroWD : WayD := ⟨0, 0, []⟩

def zW : WP := (zeroWD, .slice none 0 0)

theorem encW_len (p : WP) : (encW p).length = 3 := rfl

/-- a list to read: its cells, and each record's row, below B -/
def WaysAt (W : World) (v : Value) (ps : List WP) (B : Nat) : Prop := StructsAt encW 3 W v ps B ∧ ∀ p ∈ ps, HopsAt W p.2 p.1.hops B

theorem WaysAt.shape {W : World} {v : Value} {ps : List WP} {B : Nat} (h : WaysAt W v ps B) : ∃ a cap, v = .slice a ps.length cap := by
  obtain ⟨⟨a, cap, h, _⟩, _⟩ := h
  exact ⟨a, cap, h⟩

theorem WaysAt.later {W W' : World} {v : Value} {ps : List WP} {B C : Nat} (h : WaysAt W v ps B) (hb : Below C W W') (hBC : B ≤ C) : WaysAt W' v ps B :=
  ⟨RowAt.later h.1 hb hBC, fun p hp => RowAt.later (h.2 p hp) hb hBC⟩

theorem WaysAt.more {W : World} {v : Value} {ps : List WP} {B C : Nat} (h : WaysAt W v ps B) (hBC : B ≤ C) : WaysAt W v ps C :=
  ⟨RowAt.more h.1 hBC, fun p hp => RowAt.more (h.2 p hp) hBC⟩

theorem WaysAt.then {W W' : World} {v : Value} {ps : List WP} (h : WaysAt W v ps W.heap.size) (hb : Below W.heap.size W W') : WaysAt W' v ps W'.heap.size := (h.later hb (Nat.le_refl _)).more hb.size

/-- its row is the caller's own, in blocks of lo .. hi -/
def HopOwn (W : World) (lo hi : Nat) (p : WP) : Prop := W.ownsRow lo 3 1 p.2 p.1.hops.length (flat intE p.1.hops) ∧ ∀ k, p.2.ownBlock = some k → k < hi

def ApartW (p q : WP) : Prop := ∀ k, p.2.ownBlock = some k → q.2.ownBlock ≠ some k

theorem HopOwn.keep {W W' : World} {lo hi : Nat} {p : WP} (h : HopOwn W lo hi p) (hk : ∀ k, lo ≤ k → k < hi → k < W.heap.size → W'.heap[k]? = W.heap[k]?) : HopOwn W' lo hi p :=
  ⟨owns_keepB h.1 (fun k e => hk k (h.1.lt k e).1 (h.2 k e) (h.1.lt k e).2), h.2⟩

theorem HopOwn.wide {W : World} {lo hi lo' hi' : Nat} {p : WP} (h : HopOwn W lo hi p) (hl : lo' ≤ lo) (hh : hi ≤ hi') : HopOwn W lo' hi' p :=
  ⟨owns_baseS h.1 hl, fun k e => Nat.lt_of_lt_of_le (h.2 k e) hh⟩

theorem HopOwn.at {W : World} {lo hi : Nat} {p : WP} (h : HopOwn W lo hi p) : HopsAt W p.2 p.1.hops hi := by
  have h1 := owns_rowAt h.1
  obtain ⟨a, cap, hv, h2⟩ := h1
  refine ⟨a, cap, hv, ?_⟩
  rcases h2 with h0 | ⟨b, off, ha, hb1, hx⟩
  · exact .inl h0
  · exact .inr ⟨b, off, ha, h.2 b (by rw [hv, ha]; rfl), hx⟩

/-- near rows of new records are behind all that was there -/
theorem apartW_add {W : World} {lo hi : Nat} {ps : List WP} {p : WP} (h : ps.Pairwise ApartW) (hn : ∀ q ∈ ps, HopOwn W lo hi q) (hp : ∀ k, p.2.ownBlock = some k → hi ≤ k) : (ps ++ [p]).Pairwise ApartW := by
  rw [List.pairwise_append]
  refine ⟨h, by simp, ?_⟩
  intro a ha b hb
  have : b = p := by simpa using hb
  subst this
  intro k hk he
  have h1 := (hn a ha).2 k hk
  have h2 := hp k he
  omega

/-- how many numbers a list has -/
def totW (ps : List WP) : Nat := (ps.map (fun p => 1 + p.1.hops.length)).sum

theorem totW_cons (p : WP) (ps : List WP) : totW (p :: ps) = 1 + p.1.hops.length + totW ps := by simp [totW]

theorem totW_append (a b : List WP) : totW (a ++ b) = totW a + totW b := by simp [totW]

theorem totW_len (ps : List WP) : ps.length ≤ totW ps := by
  induction ps with
  | nil => simp [totW]
  | cons p ps ih => rw [totW_cons, List.length_cons]; omega

theorem totW_mem {ps : List WP} {p : WP} (h : p ∈ ps) : p.1.hops.length ≤ totW ps := by
  induction ps with
  | nil => simp at h
  | cons q ps ih =>
    rw [totW_cons]
    rcases List.mem_cons.1 h with rfl | h1
    · omega
    · have := ih h1; omega

theorem totW_map {ps qs : List WP} (h : ps.map (·.1) = qs.map (·.1)) : totW ps = totW qs := by
  have e : ∀ l : List WP, totW l = ((l.map (·.1)).map (fun x => 1 + x.hops.length)).sum := fun l => by simp [totW, List.map_map, Function.comp_def]
  rw [e, e, h]

theorem totW_take {ps : List WP} {k : Nat} {p : WP} (h : ps[k]? = some p) : totW (ps.take (k + 1)) = totW (ps.take k) + (1 + p.1.hops.length) := by
  obtain ⟨hk, e⟩ := List.getElem?_eq_some_iff.1 h
  rw [List.take_succ_eq_append_getElem hk, totW_append, e]
  simp [totW]

theorem mapW_take {ps : List WP} {k : Nat} {p : WP} (h : ps[k]? = some p) : (ps.take (k + 1)).map (·.1) = (ps.take k).map (·.1) ++ [p.1] := by
  obtain ⟨hk, e⟩ := List.getElem?_eq_some_iff.1 h
  rw [List.take_succ_eq_append_getElem hk, List.map_append, e]
  rfl
theorem WaysAt.cells {W : World} {v : Value} {ps : List WP} {B : Nat} (h : WaysAt W v ps B) (i : Nat) (p : WP) (hp : ps[i]? = some p) :
    ∃ b off cap, v = .slice (some ⟨b, off, none⟩) ps.length cap ∧ b < B ∧ W.cell? ⟨b, off + i * 3, none⟩ = some (.int .i64 p.1.to) ∧ W.cell? ⟨b, off + i * 3 + 1, none⟩ = some (.int .i64 p.1.cost) ∧ W.cell? ⟨b, off + i * 3 + 2, none⟩ = some p.2 ∧ HopsAt W p.2 p.1.hops B := by
  obtain ⟨b, off, cap, hv, hb, hc⟩ := StructsAt.cell h.1 encW_len i p hp
  exact ⟨b, off, cap, hv, hb, hc 0 _ rfl, hc 1 _ rfl, hc 2 _ rfl, h.2 p (List.mem_of_getElem? hp)⟩

/-- three cells laid at o of block g -/
abbrev putW (W : World) (g o : Nat) (p : WP) : World := ((W.setCell ⟨g, o, none⟩ (.int .i64 p.1.to)).setCell ⟨g, o + 1, none⟩ (.int .i64 p.1.cost)).setCell ⟨g, o + 2, none⟩ p.2

theorem putW_grown (W : World) (g o : Nat) (p : WP) : W.grownBy (putW W g o p) (some g) := grown_trans (grown_trans (grown_set W g _ _) (grown_set _ g _ _)) (grown_set _ g _ _)

end Go.Proofs.YtfccainebmbbdaaDoor
namespace Go.Proofs.YtfccainebmbbdaaDoor
open Go.RowKit

def fstsW (ps : List WP) : List WayD := ps.map (·.1)

theorem fstsW_at {ps : List WP} {i : Nat} {p : WP} (h : ps[i]? = some p) : (fstsW ps)[i]? = some p.1 := by simp [fstsW, h]

end Go.Proofs.YtfccainebmbbdaaDoor
