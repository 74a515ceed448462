/-
  spec.DrawRecordText: some record.
-/
import Derived.Test.YtohjphhocdgpgaaDrawCopy
namespace Go.Proofs.Ytohjphhocdgpgaa
open Go.RowKit

set_option linter.unusedSimpArgs false

set_option maxRecDepth 100000 in
set_option maxHeartbeats 1000000 in
theorem drawRT_any (a : Option Addr) (len cap : Nat) (w : World) (hc : Code w a len w.heap.size) :
    Calls Try.prog 16 #[.slice a len cap] w fun e w' => ∃ (x : RecD) (v : Value), e = .returned (.agg (recC x v)) ∧ w'.ownsRow w.heap.size 67 2 v x.near.length (flat nrE x.near) ∧ x.near.length ≤ 7 ∧ Below w.heap.size w w' := by
  have HC := hide hc
  clear hc
  have BZ : Below w.heap.size w (w.alloc (.cells zeroC 26)) := (Below.refl _ _).alloc (Nat.le_refl _) _
  have hz := heap_alloc_new w (.cells zeroC 26)
  have HN := hide (new_any a len cap (w.alloc (.cells zeroC 26)) (code_later HC.out BZ))
  obtain ⟨wz, hwz⟩ : ∃ wz, wz = w.alloc (.cells zeroC 26) := ⟨_, rfl⟩
  rw [← hwz] at BZ hz HN
  unfold zeroC at *
  have hzs := lt_of_heap hz
  go_enter Try.func16, Try.ntmps16
  go_wp2_with fail
  rw [← hwz]
  clear hwz
  refine HN.out.mono ?_
  rintro e w1 ⟨rfl, hc1, b1⟩
  have hz1 := (b1.block _ hzs).trans hz
  have B1 : Below w.heap.size w w1 := BZ.trans (b1.mono BZ.size)
  have b1s := b1.size
  obtain ⟨p, hp⟩ : ∃ p, p = wz.heap.size := ⟨_, rfl⟩
  rw [← hp] at hc1 ⊢
  have hpw : w.heap.size < p := by omega
  have HC1 := hide hc1
  have Z1 := hide hz1
  clear hz hz1 hc1 b1 HN BZ
  have hpl := lt_of_cur HC1.out
  clear hp
  go_wp2_with fail
  refine (anyD_any p a len cap _ HC1.out).mono ?_
  rintro e w2 ⟨x, v, rfl, ho, hl, _, g2⟩
  obtain ⟨va, vc, rfl⟩ := owns_lenS ho
  have hz2 := (g2.block _ (lt_of_heap Z1.out) (by simp; omega)).trans Z1.out
  have B2 : Below w.heap.size w w2 := B1.grown g2 B1.size (fun k hk => by simp at hk; omega)
  have g2s := g2.size
  have hzl := lt_of_heap hz2
  have u0 := cells_at hz2 0
  have u1 := cells_at hz2 1
  have u2 := cells_at hz2 2
  have u3 := cells_at hz2 3
  have u4 := cells_at hz2 4
  have u5 := cells_at hz2 5
  have u6 := cells_at hz2 6
  have u7 := cells_at hz2 7
  simp at u0 u1 u2 u3 u4 u5 u6 u7
  have fu := frozen_at hz2
  have FF := hide (fin8 x (.slice va x.near.length vc) hz2)
  have G8 := grown8 w2 w.heap.size x (.slice va x.near.length vc)
  have O3 := hide (owns_baseS (b0 := w.heap.size) (ho.kept G8 (by
    cases hv : (Value.slice va x.near.length vc).ownBlock with
    | none => exact .inl rfl
    | some g => exact .inr (fun e => by have := (ho.lt g hv).1; simp at e; omega))) (by omega))
  have BF := hide (B2.grown G8 (by omega) (fun k hk => by simp at hk; omega))
  have HL := hide hl
  clear hz2 ho G8 B2 Z1 HC1 g2 hl
  unfold recC at *
  go_wp2_with fail
  (try simp only [Exit.inBlock, Exit.then])
  refine bodyPost_ret (results_cell_row rfl _ _ w.heap.size 26 #[.int .i64 x.area, .int .i64 x.kind, .int .i64 x.owner, .int .i64 x.key, .int .i64 x.seq, .slice va x.near.length vc, .int .i64 x.cost, .bool x.far] (0, 0) _ rfl FF.out Try.underlying26 rfl (by kernel_rfl)) rfl ?_
  exact ⟨x, _, rfl, O3.out, HL.out, BF.out⟩
end Go.Proofs.Ytohjphhocdgpgaa
