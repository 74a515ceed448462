/-
  impl.putInPlace at Th: its contract.
-/
import Derived.Test.YtpiookjdeopmgaaDoorRd8
import Derived.Test.YtpiookjdeopmgaaDoorRd15
namespace Go.Proofs.YtpiookjdeopmgaaDoor
open Go.RowKit

set_option linter.unusedSimpArgs false
set_option linter.unusedVariables false

set_option maxRecDepth 100000 in
set_option maxHeartbeats 4000000 in
theorem pipT_any (lo : Nat) (v : Value) (ls : List Th) (l : Th) (w : World) (hv : w.ownsRow lo 81 4 v ls.length (flat thE ls)) (hlo : lo ≤ w.heap.size) (hn : ls.length ≤ 1000) (hmono : ∀ s t, s ≤ t → t < ls.length → ltT ls l t → ltT ls l s) :
    Calls Tryd.prog 94 #[v, thV l, .func (.func 95) #[] #[]] w fun e w' => ∃ v' i, e = .returned v' ∧ i ≤ ls.length ∧ (∀ t, t < i → ltT ls l t) ∧ (∀ t, i ≤ t → t < ls.length → ¬ ltT ls l t) ∧ w'.ownsRow lo 81 4 v' (ls.length + 1) (flat thE (ls.take i ++ [l] ++ ls.drop i)) ∧ w.grownBy w' v.ownBlock := by
  obtain ⟨a1, c1, rfl⟩ := owns_lenS hv
  have BX : Below w.heap.size w (w.alloc (.cells #[.int .i64 l.o, .int .i64 l.k, .int .i64 l.c, .bool l.f] 81)) := (Below.refl _ _).alloc (Nat.le_refl _) _
  have hx := heap_alloc_new w (.cells #[.int .i64 l.o, .int .i64 l.k, .int .i64 l.c, .bool l.f] 81)
  obtain ⟨w0, hw0⟩ : ∃ w0, w0 = w.alloc (.cells #[.int .i64 l.o, .int .i64 l.k, .int .i64 l.c, .bool l.f] 81) := ⟨_, rfl⟩
  rw [← hw0] at BX hx
  have hs0 := lt_of_heap hx
  have hv0 := owns_below hv BX (Nat.le_refl _)
  have HS := hide (searchT_any _ ls l w0 (owns_rowAt hv0) (by omega) hmono)
  have d0 := cells_at hx 0
  have d1 := cells_at hx 1
  have d2 := cells_at hx 2
  have d3 := cells_at hx 3
  simp at d0 d1 d2 d3
  have HX := hide hx
  have HV := hide hv0
  clear hv hv0 hx hmono
  go_enter Tryd.func94, Tryd.ntmps94
  unfold thV
  go_wp2_with fail
  rw [← hw0]
  clear hw0
  refine HS.out.mono ?_
  rintro e w1 ⟨i, f, rfl, hil, q1, q2, b1⟩
  have hx1 := (b1.block _ hs0).trans HX.out
  have e0 := cells_at hx1 0
  have e1 := cells_at hx1 1
  have e2 := cells_at hx1 2
  have e3 := cells_at hx1 3
  simp at e0 e1 e2 e3
  have hv1 := owns_below HV.out b1 (Nat.le_refl _)
  have hs1 := b1.size
  have Q1 := hide q1
  have Q2 := hide q2
  have HV1 := hide hv1
  clear q1 q2 hv1 d0 d1 d2 d3 hx1
  go_wp2_with fail
  have bA : Below w1.heap.size w1 (w1.alloc (.cells #[.int .i64 l.o, .int .i64 l.k, .int .i64 l.c, .bool l.f] 81)) := (Below.refl _ _).alloc (Nat.le_refl _) _
  refine (insertT_any lo i w1.heap.size _ ls l _ (owns_below HV1.out bA (Nat.le_refl _)) (by have := bA.size; have := BX.size; omega) hil (by omega) (heap_alloc_new w1 _) (by
    intro he
    have := (HV1.out.lt _ he.symm).2
    omega)).mono ?_
  rintro e w2 ⟨v', rfl, h1, h2, -⟩
  have H1 := hide h1
  have hG : w.grownBy w2 (Value.slice a1 ls.length c1).ownBlock := ⟨h2.os.trans (b1.os.trans BX.os), h2.tape.trans (b1.tape.trans BX.tape), h2.output.trans (b1.output.trans BX.output), by have := h2.size; have := bA.size; have := BX.size; omega, fun j hj hne => by
    rw [h2.block j (by have := bA.size; have := BX.size; omega) hne, bA.block j (by have := BX.size; omega), b1.block j (by have := BX.size; omega), BX.block j hj]⟩
  have HG := hide hG
  clear h1 h2 hG bA
  go_wp2
  go_ret
  exact ⟨_, i, rfl, hil, Q1.out, Q2.out, H1.out, HG.out⟩
end Go.Proofs.YtpiookjdeopmgaaDoor
