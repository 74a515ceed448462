/-
  spec.l01Number, DrawVarText, DrawHex, laws.big: some number, some text.
-/
import Derived.Test.YteagdicpefchaaaDoorCur3
namespace Go.Proofs.YteagdicpefchaaaDoor
open Go.RowKit

theorem cur_alloc {w : World} {p : Nat} {a : Option Addr} {len cap : Nat} (h : Cur w p a len cap) (o : Obj) : Cur (w.alloc o) p a len cap :=
  h.grown (row := none) ⟨rfl, rfl, rfl, by simp, fun k hk _ => Below.heap_alloc _ _ _ hk⟩ (fun b _ => by simp)

theorem below_of_grown {p : Nat} {w w' : World} (h : w.grownBy w' (some p)) (hp : p ≤ w.heap.size) : Below p w w' := (Below.refl p w).grown h hp (fun k hk => by simp at hk; omega)

theorem ten_ints (w : World) (z0 z1 z2 z3 z4 z5 z6 z7 z8 z9 : Int) (t : TypeId) : ∀ k, k < 10 → ∃ z : Int, (w.alloc (.cells #[.int .i64 z0, .int .i64 z1, .int .i64 z2, .int .i64 z3, .int .i64 z4, .int .i64 z5, .int .i64 z6, .int .i64 z7, .int .i64 z8, .int .i64 z9] t)).cell? ⟨w.heap.size, k, none⟩ = some (.int .i64 z) := by
  intro k hk
  rw [World.cell?_alloc_at _ _ _ _ rfl]
  have : k = 0 ∨ k = 1 ∨ k = 2 ∨ k = 3 ∨ k = 4 ∨ k = 5 ∨ k = 6 ∨ k = 7 ∨ k = 8 ∨ k = 9 := by omega
  rcases this with h | h | h | h | h | h | h | h | h | h <;> subst h <;> exact ⟨_, rfl⟩

set_option maxRecDepth 100000 in
set_option maxHeartbeats 1000000 in
theorem number_any (p : Nat) (a : Option Addr) (len cap : Nat) (w : World) (hc : Cur w p a len cap) :
    Calls Tryd.prog 23 #[.pointer (some ⟨p, 0, none⟩)] w fun e w' => ∃ x : Int, e = .returned (.int .i64 x) ∧ Cur w' p a len cap ∧ Below p w w' := by
  have hp := lt_of_cur hc
  have HC := hide hc
  clear hc
  go_enter Tryd.func23, Tryd.ntmps23
  go_wp2_with fail
  refine (below_any p a len cap _ _ HC.out (by omega) (by omega)).mono ?_
  rintro e w1 ⟨x, rfl, h0, h1, hc1, hg1⟩
  have hb1 := below_of_grown hg1 (by omega)
  have hp1 := lt_of_cur hc1
  have HC1 := hide hc1
  clear hc1 hg1 HC
  by_cases hx0 : x = 0
  · subst hx0
    go_wp2_with fail
    refine (pickInt_any p a len cap w1.heap.size 10 _ (cur_alloc HC1.out _) (by omega) (by omega) (by omega) (ten_ints w1 _ _ _ _ _ _ _ _ _ _ _)).mono ?_
    rintro e w2 ⟨y, rfl, hc2, hg2⟩
    have HC2 := hide hc2
    have hb2 : Below p w w2 := (hb1.alloc (by omega) _).trans (below_of_grown hg2 (by simp; omega))
    clear hc2 hg2
    go_wp2
    go_ret
    exact ⟨_, rfl, HC2.out, hb2⟩
  · have hz : (x == 0) = false := by simp; exact hx0
    by_cases hx1 : x = 1
    · subst hx1
      clear hz
      go_wp2_with fail
      refine (below_any p a len cap _ _ HC1.out (by omega) (by omega)).mono ?_
      rintro e w2 ⟨y, rfl, h2, h3, hc2, hg2⟩
      have HC2 := hide hc2
      have hb2 : Below p w w2 := hb1.trans (below_of_grown hg2 (by omega))
      clear hc2 hg2
      go_wp2
      go_ret
      exact ⟨_, rfl, HC2.out, hb2⟩
    · have hz1 : (x == 1) = false := by simp; exact hx1
      clear hx0 hx1
      go_wp2_with fail
      refine (below_any p a len cap _ _ HC1.out (by omega) (by omega)).mono ?_
      rintro e w2 ⟨y, rfl, h2, h3, hc2, hg2⟩
      have HC2 := hide hc2
      have hb2 : Below p w w2 := hb1.trans (below_of_grown hg2 (by omega))
      clear hc2 hg2
      go_wp2
      go_ret
      exact ⟨_, rfl, HC2.out, hb2⟩

set_option maxRecDepth 100000 in
set_option maxHeartbeats 1000000 in
theorem drawVar_any (a : Option Addr) (len cap : Nat) (w : World) (hc : Code w a len w.heap.size) :
    Calls Tryd.prog 7 #[.slice a len cap] w fun e w' => ∃ x : Int, e = .returned (.int .i64 x) ∧ Below w.heap.size w w' := by
  have HC := hide hc
  clear hc
  go_enter Tryd.func7, Tryd.ntmps7
  go_wp2_with fail
  refine (new_any a len cap _ HC.out).mono ?_
  rintro e w1 ⟨rfl, hc1, hb1⟩
  have HC1 := hide hc1
  clear hc1
  go_wp2_with fail
  refine (number_any w.heap.size a len cap _ HC1.out).mono ?_
  rintro e w2 ⟨x, rfl, _, hb2⟩
  go_wp2
  go_ret
  exact ⟨_, rfl, hb1.trans hb2⟩

set_option maxRecDepth 100000 in
set_option maxHeartbeats 1000000 in
theorem drawHex_any (a : Option Addr) (len cap : Nat) (w : World) (hc : Code w a len w.heap.size) :
    Calls Tryd.prog 12 #[.slice a len cap] w fun e w' => ∃ l : List UInt8, e = .returned (.string (bs l)) ∧ l.length ≤ 30000 ∧ Below w.heap.size w w' := by
  have HC := hide hc
  clear hc
  go_enter Tryd.func12, Tryd.ntmps12
  go_wp2_with fail
  refine (new_any a len cap _ HC.out).mono ?_
  rintro e w1 ⟨rfl, hc1, hb1⟩
  have hp1 := lt_of_cur hc1
  have HC1 := hide hc1
  clear hc1
  go_wp2_with fail
  refine (once_any w.heap.size a len cap _ _ HC1.out (by omega) (by omega)).mono ?_
  rintro e w2 ⟨b, rfl, hc2, hg2⟩
  have hb2 := hb1.trans (below_of_grown hg2 (by omega))
  have hp2 := lt_of_cur hc2
  have HC2 := hide hc2
  clear hc2 hg2
  cases b
  · go_wp2_with fail
    refine (below_any w.heap.size a len cap _ _ HC2.out (by omega) (by omega)).mono ?_
    rintro e w3 ⟨y, rfl, h2, h3, hc3, hg3⟩
    have HC3 := hide hc3
    have hb3 := hb2.trans (below_of_grown hg3 (by omega))
    clear hc3 hg3
    go_wp2_with fail
    refine (text_any w.heap.size a len cap _ _ HC3.out (by omega) (by omega)).mono ?_
    rintro e w4 ⟨l, rfl, hl, _, hb4⟩
    have HL := hide hl
    clear hl
    go_wp2
    go_ret
    exact ⟨l, rfl, by have := HL.out; omega, hb3.trans hb4⟩
  · go_wp2_with fail
    refine (below_any w.heap.size a len cap _ _ HC2.out (by omega) (by omega)).mono ?_
    rintro e w3 ⟨y, rfl, h2, h3, hc3, hg3⟩
    have hb3 := hb2.trans (below_of_grown hg3 (by omega))
    have hz3 := hg3.size
    clear hc3 hg3
    obtain ⟨m, hm⟩ : ∃ m : Nat, (20000 : Int) + y = (m : Int) := ⟨(20000 + y).toNat, by omega⟩
    go_wp2_with fail
    have e200 : (200 : Int) = ((200 : Nat) : Int) := rfl
    rw [e200]
    refine (long_any m 200 _ (by omega) (by omega)).mono ?_
    rintro e w4 ⟨l, rfl, hl, hb4⟩
    have HL := hide hl
    clear hl
    go_wp2
    go_ret
    exact ⟨l, rfl, by have := HL.out; omega, hb3.trans (hb4.mono (by omega))⟩
end Go.Proofs.YteagdicpefchaaaDoor
