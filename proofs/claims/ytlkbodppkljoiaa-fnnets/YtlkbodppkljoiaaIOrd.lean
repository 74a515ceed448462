/-
  cmp.Compare, cmp.Or, impl.orderOfLinks, impl.orderOfThings: their contracts.
-/
import Derived.Test.YtlkbodppkljoiaaRowAt
import Derived.Deep.RegionHeld3
namespace Go.Proofs.Ytlkbodppkljoiaa
open Go.RowKit

def cmpN (a b : Int) : Int := if a < b then -1 else if b < a then 1 else 0

/-- the first that is not 0 -/
def orN : List Int → Int
  | [] => 0
  | x :: xs => if x = 0 then orN xs else x

theorem orN_skip : ∀ (k : Nat) (l : List Int), (∀ j, j < k → l.getD j 0 = 0) → orN l = orN (l.drop k)
  | 0, l, _ => by simp
  | k + 1, [], _ => by simp
  | k + 1, x :: xs, h => by
    have h0 : x = 0 := by simpa using h 0 (by omega)
    subst h0
    have e : orN (0 :: xs) = orN xs := by simp [orN]
    rw [e, List.drop_succ_cons]
    exact orN_skip k xs (fun j hj => by simpa using h (j + 1) (by omega))

theorem orN_at {k : Nat} {l : List Int} (h : ∀ j, j < k → l.getD j 0 = 0) (hk : k < l.length) (hx : l.getD k 0 ≠ 0) : orN l = l.getD k 0 := by
  rw [orN_skip k l h, List.drop_eq_getElem_cons hk]
  have e : l.getD k 0 = l[k] := by simp [List.getElem?_eq_getElem hk]
  rw [e] at hx ⊢
  simp only [orN]
  rw [if_neg hx]

theorem orN_none {k : Nat} {l : List Int} (h : ∀ j, j < k → l.getD j 0 = 0) (hk : k = l.length) : orN l = 0 := by
  rw [orN_skip k l h, List.drop_of_length_le (by omega)]
  rfl

theorem ret_i {a b : Int} (h : b = a) : Ending.returned (.int .i64 a) = .returned (.int .i64 b) := by rw [h]

set_option maxRecDepth 100000 in
set_option maxHeartbeats 1000000 in
theorem isNaN_any (a : Int) (w : World) : Calls Try.prog 69 #[.int .i64 a] w fun e w' => e = .returned (.bool false) ∧ w = w' := by
  go_enter Try.func69, Try.ntmps69
  go_wp2
  go_ret
  exact ⟨by simp, rfl⟩

set_option maxRecDepth 100000 in
set_option maxHeartbeats 1000000 in
theorem compare_any (a b : Int) (w : World) : Calls Try.prog 57 #[.int .i64 a, .int .i64 b] w fun e w' => e = .returned (.int .i64 (cmpN a b)) ∧ w = w' := by
  go_enter Try.func57, Try.ntmps57
  go_wp2_with fail
  refine (isNaN_any a _).mono ?_
  rintro e w1 ⟨rfl, rfl⟩
  go_wp2_with fail
  refine (isNaN_any b _).mono ?_
  rintro e w1 ⟨rfl, rfl⟩
  go_wp2
  all_goals go_ret
  all_goals refine ⟨ret_i ?_, rfl⟩
  all_goals (unfold cmpN; grind)

set_option maxRecDepth 100000 in
set_option maxHeartbeats 1000000 in
theorem or_any (b n : Nat) (l : List Int) (w : World) (hn : n = l.length) (hs : l.length ≤ 1000) (hc : ∀ j, j < l.length → w.cell? ⟨b, j, none⟩ = some (.int .i64 (l.getD j 0))) :
    Calls Try.prog 56 #[.slice (some ⟨b, 0, none⟩) n n] w fun e w' => e = .returned (.int .i64 (orN l)) ∧ w = w' := by
  subst hn
  have HC := hide hc
  clear hc
  go_enter Try.func56, Try.ntmps56
  go_wp2
  go_loopw [8] (fun i wr => ∃ k : Nat, k ≤ l.length ∧ i = .int .i64 k ∧ (∀ j, j < k → l.getD j 0 = 0) ∧ w = wr) (fun i _ => l.length - (intOf i).toNat)
  case atStart => exact ⟨0, by omega, rfl, by omega, rfl⟩
  case round =>
    obtain ⟨k, hk, rfl, hno, rfl⟩ := hrel
    have HNO := hide hno
    clear hno
    by_cases hlt : k < l.length
    · have hcell := HC.out k hlt
      by_cases h0 : l.getD k 0 = 0
      · have hnx : ∀ j, j < k + 1 → l.getD j 0 = 0 := fun j hj => by
          by_cases e : j = k
          · subst e; exact h0
          · exact HNO.out j (by omega)
        rw [h0] at hcell
        have HN := hide hnx
        clear h0 hnx
        go_wp2
        go_roundw
        case rel => exact ⟨k + 1, by omega, by go_num, HN.out, trivial⟩
        case measure => simp [intOf]; omega
      · obtain ⟨y, hy⟩ : ∃ y, y = l.getD k 0 := ⟨_, rfl⟩
        rw [← hy] at hcell h0
        have hor : orN l = y := by rw [hy]; exact orN_at HNO.out hlt (by rw [← hy]; exact h0)
        have HO := hide hor
        clear hy hor
        go_wp2
        go_ret
        exact ⟨ret_i HO.out, rfl⟩
    · have hk' : k = l.length := by omega
      have HK := hide hk'
      clear hk'
      go_wp2
      go_ret
      exact ⟨ret_i (orN_none HNO.out HK.out), rfl⟩

theorem or_three (b : Nat) (x y z : Int) (w : World) (h0 : w.cell? ⟨b, 0, none⟩ = some (.int .i64 x)) (h1 : w.cell? ⟨b, 1, none⟩ = some (.int .i64 y)) (h2 : w.cell? ⟨b, 2, none⟩ = some (.int .i64 z)) :
    Calls Try.prog 56 #[.slice (some ⟨b, 0, none⟩) 3 3] w fun e w' => e = .returned (.int .i64 (orN [x, y, z])) ∧ w = w' :=
  or_any b 3 [x, y, z] w rfl (by simp) (fun j hj => by
    match j, hj with
    | 0, _ => exact h0
    | 1, _ => exact h1
    | 2, _ => exact h2
    | j + 3, hj => exact absurd hj (by simp only [List.length_cons, List.length_nil]; omega))

theorem or_two (b : Nat) (x y : Int) (w : World) (h0 : w.cell? ⟨b, 0, none⟩ = some (.int .i64 x)) (h1 : w.cell? ⟨b, 1, none⟩ = some (.int .i64 y)) :
    Calls Try.prog 56 #[.slice (some ⟨b, 0, none⟩) 2 2] w fun e w' => e = .returned (.int .i64 (orN [x, y])) ∧ w = w' :=
  or_any b 2 [x, y] w rfl (by simp) (fun j hj => by
    match j, hj with
    | 0, _ => exact h0
    | 1, _ => exact h1
    | j + 2, hj => exact absurd hj (by simp only [List.length_cons, List.length_nil]; omega))

theorem new_cell (w1 : World) (cs : Array Value) (t : TypeId) (j : Nat) (v : Value) (h : cs[j]? = some v) : (w1.alloc (.cells cs t)).drew.cell? ⟨w1.heap.size, j, none⟩ = some v := by
  have := cells_at (heap_alloc_new w1 (.cells cs t)) j
  rw [h] at this
  exact this

def ordL (l m : Lk) : Int := orN [cmpN l.a m.a, cmpN l.b m.b, cmpN l.r m.r]

def ordT (l m : Th) : Int := orN [cmpN l.k m.k, cmpN l.o m.o]

set_option maxRecDepth 100000 in
set_option maxHeartbeats 4000000 in
theorem ordL_any (l m : Lk) (w : World) : Calls Try.prog 47 #[lkV l, lkV m] w fun e w' => e = .returned (.int .i64 (ordL l m)) ∧ Below w.heap.size w w' := by
  obtain ⟨a, b, c, r⟩ := l
  obtain ⟨a', b', c', r'⟩ := m
  unfold lkV ordL
  simp only []
  go_enter Try.func47, Try.ntmps47
  go_wp2
  obtain ⟨w1, hw1⟩ : ∃ w1, w1 = (w.alloc (.cells #[.int .i64 a, .int .i64 b, .int .i64 c, .int .i64 r] 39)).alloc (.cells #[.int .i64 a', .int .i64 b', .int .i64 c', .int .i64 r'] 39) := ⟨_, rfl⟩
  have B1 : Below w.heap.size w w1 := by rw [hw1]; exact below_two _ _
  have p0 : w1.heap[w.heap.size]? = some (.cells #[.int .i64 a, .int .i64 b, .int .i64 c, .int .i64 r] 39) := by rw [hw1, Below.heap_alloc _ _ _ (by simp), heap_alloc_new]
  have q0 : w1.heap[w.heap.size + 1]? = some (.cells #[.int .i64 a', .int .i64 b', .int .i64 c', .int .i64 r'] 39) := by
    rw [hw1]
    have := heap_alloc_new (w.alloc (.cells #[.int .i64 a, .int .i64 b, .int .i64 c, .int .i64 r] 39)) (.cells #[.int .i64 a', .int .i64 b', .int .i64 c', .int .i64 r'] 39)
    simpa using this
  rw [← hw1]
  clear hw1
  have s0 := cells_at p0 0
  have s1 := cells_at p0 1
  have s3 := cells_at p0 3
  have t0 := cells_at q0 0
  have t1 := cells_at q0 1
  have t3 := cells_at q0 3
  have hz0 := lt_of_heap p0
  have hz1 := lt_of_heap q0
  simp at s0 s1 s3 t0 t1 t3
  clear p0 q0
  have hz2 := B1.size
  go_region_held3 (fun W => W.cell? ⟨w.heap.size, 0, none⟩ = some (.int .i64 a) ∧ W.cell? ⟨w.heap.size, 1, none⟩ = some (.int .i64 b) ∧ W.cell? ⟨w.heap.size, 3, none⟩ = some (.int .i64 r) ∧ W.cell? ⟨w.heap.size + 1, 0, none⟩ = some (.int .i64 a') ∧ W.cell? ⟨w.heap.size + 1, 1, none⟩ = some (.int .i64 b') ∧ W.cell? ⟨w.heap.size + 1, 3, none⟩ = some (.int .i64 r')) (first | go_keep | assumption) (first | (go_at_call 57; refine (compare_any _ _ _).mono ?_; rintro e w' ⟨rfl, rfl⟩) | (go_at_call 56; refine (or_three _ (cmpN a a') (cmpN b b') (cmpN r r') _ ?_ ?_ ?_).mono ?_; (exact new_cell _ _ _ _ _ rfl); (exact new_cell _ _ _ _ _ rfl); (exact new_cell _ _ _ _ _ rfl); rintro e w' ⟨rfl, rfl⟩))
  go_wp2
  go_ret
  exact ⟨rfl, B1.drew.alloc B1.size _⟩
set_option maxRecDepth 100000 in
set_option maxHeartbeats 4000000 in
theorem ordT_any (l m : Th) (w : World) : Calls Try.prog 49 #[thV l, thV m] w fun e w' => e = .returned (.int .i64 (ordT l m)) ∧ Below w.heap.size w w' := by
  obtain ⟨o, k, c, f⟩ := l
  obtain ⟨o', k', c', f'⟩ := m
  unfold thV ordT
  simp only []
  go_enter Try.func49, Try.ntmps49
  go_wp2
  obtain ⟨w1, hw1⟩ : ∃ w1, w1 = (w.alloc (.cells #[.int .i64 o, .int .i64 k, .int .i64 c, .bool f] 68)).alloc (.cells #[.int .i64 o', .int .i64 k', .int .i64 c', .bool f'] 68) := ⟨_, rfl⟩
  have B1 : Below w.heap.size w w1 := by rw [hw1]; exact below_two _ _
  have p0 : w1.heap[w.heap.size]? = some (.cells #[.int .i64 o, .int .i64 k, .int .i64 c, .bool f] 68) := by rw [hw1, Below.heap_alloc _ _ _ (by simp), heap_alloc_new]
  have q0 : w1.heap[w.heap.size + 1]? = some (.cells #[.int .i64 o', .int .i64 k', .int .i64 c', .bool f'] 68) := by
    rw [hw1]
    have := heap_alloc_new (w.alloc (.cells #[.int .i64 o, .int .i64 k, .int .i64 c, .bool f] 68)) (.cells #[.int .i64 o', .int .i64 k', .int .i64 c', .bool f'] 68)
    simpa using this
  rw [← hw1]
  clear hw1
  have s0 := cells_at p0 0
  have s1 := cells_at p0 1
  have t0 := cells_at q0 0
  have t1 := cells_at q0 1
  have hz0 := lt_of_heap p0
  have hz1 := lt_of_heap q0
  simp at s0 s1 t0 t1
  clear p0 q0
  have hz2 := B1.size
  go_region_held3 (fun W => W.cell? ⟨w.heap.size, 0, none⟩ = some (.int .i64 o) ∧ W.cell? ⟨w.heap.size, 1, none⟩ = some (.int .i64 k) ∧ W.cell? ⟨w.heap.size + 1, 0, none⟩ = some (.int .i64 o') ∧ W.cell? ⟨w.heap.size + 1, 1, none⟩ = some (.int .i64 k')) (first | go_keep | assumption) (first | (go_at_call 57; refine (compare_any _ _ _).mono ?_; rintro e w' ⟨rfl, rfl⟩) | (go_at_call 56; refine (or_two _ (cmpN k k') (cmpN o o') _ ?_ ?_).mono ?_; (exact new_cell _ _ _ _ _ rfl); (exact new_cell _ _ _ _ _ rfl); rintro e w' ⟨rfl, rfl⟩))
  go_wp2
  go_ret
  exact ⟨rfl, B1.drew.alloc B1.size _⟩
end Go.Proofs.Ytlkbodppkljoiaa
