/-
  A cursor over the bytes of a draw: spec.l01New, l01Once, l01PickInt; laws.big.
-/
import Derived.Test.YtohjphhocdgpgaaCurL
namespace Go.Proofs.Ytohjphhocdgpgaa
open Go.RowKit


set_option maxRecDepth 100000 in
set_option maxHeartbeats 1000000 in
theorem new_any (a : Option Addr) (len cap : Nat) (w : World) (hc : Code w a len w.heap.size) :
    Calls Try.prog 57 #[.slice a len cap] w fun e w' => e = .returned (.pointer (some ⟨w.heap.size, 0, none⟩)) ∧ Cur w' w.heap.size a len cap ∧ Below w.heap.size w w' := by
  have hlen := hc.1
  have HC := hide hc
  clear hc
  have fin : ∀ h : Int, Cur (w.alloc (.cells #[.slice a len cap, .int .i64 0, .int .i64 h] 105)) w.heap.size a len cap := fun h =>
    ⟨⟨0, h, by omega, heap_alloc_new w _⟩, HC.out.grown (row := none) ⟨rfl, rfl, rfl, by simp, fun k hk _ => Below.heap_alloc _ _ _ hk⟩ (fun b _ => by simp)⟩
  have FIN := hide fin
  clear fin
  by_cases h0 : len = 0
  · subst h0
    go_enter Try.func57, Try.ntmps57
    go_wp2
    refine wp_loop_rounds 1 ?_
    rw [rounds_succ]
    go_wp2
    go_ret
    exact ⟨rfl, FIN.out _, (Below.refl _ _).alloc (Nat.le_refl _) _⟩
  · obtain ⟨b, off, ha, hb, hx⟩ : ∃ b off, a = some ⟨b, off, none⟩ ∧ b < w.heap.size ∧ ∀ i, i < len → ∃ x : Nat, x < 256 ∧ w.cell? ⟨b, off + i, none⟩ = some (.int .u8 (x : Int)) := by
      rcases HC.out.2 with h | h
      · exact absurd h h0
      · exact h
    subst ha
    have HX := hide hx
    clear hx
    go_enter Try.func57, Try.ntmps57
    go_wp2
    go_loop [3, 4] (fun h i => ∃ (k : Nat) (z : Int), k ≤ len ∧ i = .int .i64 k ∧ h = .int .i64 z) (fun _ i => len - (intOf i).toNat)
    case atStart => exact ⟨0, _, by omega, rfl, rfl⟩
    case round =>
      obtain ⟨k, z, hk, rfl, rfl⟩ := hrel
      by_cases hlt : k < len
      · obtain ⟨x, hx1, hx2⟩ := HX.out k hlt
        have hki : (k : Int) < (len : Int) := by omega
        by_cases h4 : (k : Int) < 4000
        · go_wp2
          go_round
          case rel => exact ⟨k + 1, _, by omega, by go_num, rfl⟩
          case measure => simp [intOf]; omega
        · go_wp2
          go_ret
          exact ⟨rfl, FIN.out _, (Below.refl _ _).alloc (Nat.le_refl _) _⟩
      · go_wp2
        go_ret
        exact ⟨rfl, FIN.out _, (Below.refl _ _).alloc (Nat.le_refl _) _⟩


theorem cur_alloc {w : World} {p : Nat} {a : Option Addr} {len cap : Nat} (h : Cur w p a len cap) (o : Obj) : Cur (w.alloc o) p a len cap :=
  h.grown (row := none) ⟨rfl, rfl, rfl, by simp, fun k hk _ => Below.heap_alloc _ _ _ hk⟩ (fun b _ => by simp)

theorem below_of_grown {p : Nat} {w w' : World} (h : w.grownBy w' (some p)) (hp : p ≤ w.heap.size) : Below p w w' := (Below.refl p w).grown h hp (fun k hk => by simp at hk; omega)

set_option maxHeartbeats 400000 in
theorem big_any (a : Option Addr) (len cap : Nat) (w : World) : Calls Try.prog 15 #[.slice a len cap] w fun e w' => e = .returned (.bool (decide ((1048576 : Int) < (len : Int)))) ∧ w = w' := by
  go_enter Try.func15, Try.ntmps15
  go_wp2
  go_ret
  exact ⟨rfl, rfl⟩

theorem code_later {w w' : World} {a : Option Addr} {len : Nat} (h : Code w a len w.heap.size) (hb : Below w.heap.size w w') : Code w' a len w'.heap.size := by
  refine ⟨h.1, ?_⟩
  rcases h.2 with h0 | ⟨b, off, ha, hb1, hx⟩
  · exact .inl h0
  · refine .inr ⟨b, off, ha, by have := hb.size; omega, fun i hi => ?_⟩
    obtain ⟨x, h1, h2⟩ := hx i hi
    exact ⟨x, h1, by rw [hb.cell (p := ⟨b, off + i, none⟩) hb1]; exact h2⟩



set_option maxRecDepth 100000 in
set_option maxHeartbeats 1000000 in
theorem once_any (p : Nat) (a : Option Addr) (len cap : Nat) (n : Int) (w : World) (hc : Cur w p a len cap) (hn : 0 < n) (hn2 : n ≤ 1000000000000) :
    Calls Try.prog 103 #[.pointer (some ⟨p, 0, none⟩), .int .i64 n] w fun e w' => ∃ x : Bool, e = .returned (.bool x) ∧ Cur w' p a len cap ∧ w.grownBy w' (some p) := by
  go_enter Try.func103, Try.ntmps103
  go_wp2_with fail
  refine (below_any p a len cap n _ hc hn hn2).mono ?_
  rintro e w1 ⟨x, rfl, h0, h1, hc1, hg1⟩
  have HG := hide hg1
  have HC := hide hc1
  clear hc1 hg1 hc
  go_wp2
  go_ret
  exact ⟨_, rfl, HC.out, HG.out⟩

set_option maxRecDepth 100000 in
set_option maxHeartbeats 1000000 in
theorem pickR_any (R : Int → Prop) (p : Nat) (a : Option Addr) (len cap : Nat) (g n : Nat) (w : World) (hc : Cur w p a len cap) (hn : 0 < n) (hn2 : n ≤ 1000) (hg : g ≠ p) (hz : ∀ k, k < n → ∃ z : Int, R z ∧ w.cell? ⟨g, k, none⟩ = some (.int .i64 z)) :
    Calls Try.prog 94 #[.pointer (some ⟨p, 0, none⟩), .slice (some ⟨g, 0, none⟩) n n] w fun e w' => ∃ x : Int, e = .returned (.int .i64 x) ∧ R x ∧ Cur w' p a len cap ∧ w.grownBy w' (some p) := by
  have HZ := hide hz
  have HC := hide hc
  clear hz hc
  go_enter Try.func94, Try.ntmps94
  go_wp2_with fail
  refine (below_any p a len cap _ _ HC.out (by omega) (by omega)).mono ?_
  rintro e w1 ⟨x, rfl, h0, h1, hc1, hg1⟩
  obtain ⟨z, hR, hz⟩ := HZ.out x.toNat (by omega)
  have hz1 := hg1.cell hz (by simp; exact hg)
  have hxn : x < (n : Int) := h1
  have HR := hide hR
  have HG := hide hg1
  have HC1 := hide hc1
  clear hg1 hc1 hz hR
  go_wp2
  go_ret
  exact ⟨_, rfl, HR.out, HC1.out, HG.out⟩

end Go.Proofs.Ytohjphhocdgpgaa
