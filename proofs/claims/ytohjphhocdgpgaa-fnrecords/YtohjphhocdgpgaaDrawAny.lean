/-
  spec.l04Any: some record, perhaps spoilt.
-/
import Derived.Test.YtohjphhocdgpgaaDrawRec
import Derived.Test.YtohjphhocdgpgaaAnyDag
namespace Go.Proofs.Ytohjphhocdgpgaa
open Go.RowKit

set_option linter.unusedSimpArgs false

set_option maxRecDepth 100000 in
set_option maxHeartbeats 2000000 in
theorem anyD_any (p : Nat) (a : Option Addr) (len cap : Nat) (w : World) (hc : Cur w p a len cap) :
    Calls Try.prog 56 #[.pointer (some ⟨p, 0, none⟩)] w fun e w' => ∃ (x : RecD) (v : Value), e = .returned (.agg (recC x v)) ∧ w'.ownsRow (w.heap.size + 1) 67 2 v x.near.length (flat nrE x.near) ∧ x.near.length ≤ 7 ∧ Cur w' p a len cap ∧ w.grownBy w' (some p) := by
  have hp := lt_of_cur hc
  have HC := hide hc
  clear hc
  go_enter Try.func56, Try.ntmps56
  go_wp2_with fail
  refine (recD_any p a len cap _ (cur_alloc HC.out _)).mono ?_
  rintro e w1 ⟨x, v, rfl, ho1, hl1, hc1, hg1⟩
  obtain ⟨va, vc, rfl⟩ := owns_lenS ho1
  have r1 := hg1.block w.heap.size (by simp) (by simp; omega)
  rw [heap_alloc_new] at r1
  have hsz1 : w.heap.size < w1.heap.size := lt_of_heap r1
  have st0 : RcSt w (w1.alloc (.cells (recC x (.slice va x.near.length vc)) 26)) p w.heap.size w1.heap.size a len cap (.slice va x.near.length vc) x :=
    { cur := cur_alloc hc1 _
      low := Nat.le_refl _
      gro := gro_alloc (gro_same (gro_alloc (gro_refl w _) _) hg1) _
      box := heap_alloc_new w1 _
      res := (Below.heap_alloc _ _ _ hsz1).trans r1
      own := owns_below (owns_baseS ho1 (by simp)) ((Below.refl _ _).alloc (Nat.le_refl _) _) (Nat.le_refl _)
      djn := fun e => by have := (ho1.lt _ e.symm).2; omega }
  have ST0 := hide st0
  have HL := hide hl1
  clear st0 hl1 ho1 hc1 hg1 r1 HC
  unfold recC
  go_wp2_with fail
  obtain ⟨z, hz⟩ : ∃ z, z = w1.heap.size := ⟨_, rfl⟩
  refine (below_any p a len cap 30 _ ST0.out.cur (by omega) (by omega)).mono ?_
  rintro e w2 ⟨y, rfl, hy0, hy1, hc2, hg2⟩
  have ST2 := hide (ST0.out.grown hc2 hg2 hp hsz1)
  clear hc2 hg2 ST0
  rw [← hz] at ST2 hsz1 ⊢
  clear hz
  have sb := ST2.out.box
  unfold recC at sb
  clear sb
  rcases (show y = 0 ∨ y = 1 ∨ y = 2 ∨ y = 3 ∨ y = 4 ∨ y = 5 ∨ y = 6 ∨ y = 7 ∨ 8 ≤ y by omega) with rfl | rfl | rfl | rfl | rfl | rfl | rfl | rfl | h8
  · have FC := hide (ints_cells w2 [-1, 3, 9, 0])
    have hp2 : w2.heap.size ≠ p := by have := lt_of_cur ST2.out.cur; omega
    go_wp2_with fail
    refine (pickR_any (fun _ => True) p a len cap w2.heap.size 4 _ (cur_alloc ST2.out.cur _) (by omega) (by omega) hp2 FC.out).mono ?_
    rintro e w3 ⟨y5, rfl, _, hc3, hg3⟩
    have ST3 := hide ((ST2.out.alloc _).grown hc3 hg3 hp hsz1)
    have sb := ST3.out.box
    unfold recC at sb
    have s6 := cells_at sb 0
    have f6 := frozen_at sb
    simp at s6
    have ST9 := hide (ST3.out.set 0 (.int .i64 y5) { x with area := y5 } rfl rfl hp hsz1)
    clear hc3 hg3 ST2 ST3 sb FC
    have yb := ST9.out.box
    have ub := ST9.out.res
    unfold recC at yb
    unfold zeroC at ub
    (try simp only [] at yb)
    have y0 := cells_at yb 0
    have y1 := cells_at yb 1
    have y2 := cells_at yb 2
    have y3 := cells_at yb 3
    have y4 := cells_at yb 4
    have y5 := cells_at yb 5
    have y6 := cells_at yb 6
    have y7 := cells_at yb 7
    have u0 := cells_at ub 0
    have u1 := cells_at ub 1
    have u2 := cells_at ub 2
    have u3 := cells_at ub 3
    have u4 := cells_at ub 4
    have u5 := cells_at ub 5
    have u6 := cells_at ub 6
    have u7 := cells_at ub 7
    simp at y0 y1 y2 y3 y4 y5 y6 y7 u0 u1 u2 u3 u4 u5 u6 u7
    have fu := frozen_at ub
    clear yb ub
    go_wp2_with fail
    (try simp only [Exit.inBlock, Exit.then])
    have F := ST9.out.fin hp (by have := lt_of_heap ST9.out.box; omega)
    refine bodyPost_ret (results_cell_row rfl _ _ w.heap.size 26 (recC _ _) (0, 0) _ rfl F.1 Try.underlying26 rfl (by kernel_rfl)) rfl ?_
    exact ⟨_, _, rfl, F.2.2.2, (by show x.near.length ≤ 7; have := HL.out; omega), F.2.1, F.2.2.1⟩
  · have FC := hide (ints_cells w2 [0, 1, 2, 3, 4])
    have hp2 : w2.heap.size ≠ p := by have := lt_of_cur ST2.out.cur; omega
    go_wp2_with fail
    refine (pickR_any (fun _ => True) p a len cap w2.heap.size 5 _ (cur_alloc ST2.out.cur _) (by omega) (by omega) hp2 FC.out).mono ?_
    rintro e w3 ⟨y5, rfl, _, hc3, hg3⟩
    have ST3 := hide ((ST2.out.alloc _).grown hc3 hg3 hp hsz1)
    have sb := ST3.out.box
    unfold recC at sb
    have s6 := cells_at sb 1
    have f6 := frozen_at sb
    simp at s6
    have ST9 := hide (ST3.out.set 1 (.int .i64 y5) { x with kind := y5 } rfl rfl hp hsz1)
    clear hc3 hg3 ST2 ST3 sb FC
    have yb := ST9.out.box
    have ub := ST9.out.res
    unfold recC at yb
    unfold zeroC at ub
    (try simp only [] at yb)
    have y0 := cells_at yb 0
    have y1 := cells_at yb 1
    have y2 := cells_at yb 2
    have y3 := cells_at yb 3
    have y4 := cells_at yb 4
    have y5 := cells_at yb 5
    have y6 := cells_at yb 6
    have y7 := cells_at yb 7
    have u0 := cells_at ub 0
    have u1 := cells_at ub 1
    have u2 := cells_at ub 2
    have u3 := cells_at ub 3
    have u4 := cells_at ub 4
    have u5 := cells_at ub 5
    have u6 := cells_at ub 6
    have u7 := cells_at ub 7
    simp at y0 y1 y2 y3 y4 y5 y6 y7 u0 u1 u2 u3 u4 u5 u6 u7
    have fu := frozen_at ub
    clear yb ub
    go_wp2_with fail
    (try simp only [Exit.inBlock, Exit.then])
    have F := ST9.out.fin hp (by have := lt_of_heap ST9.out.box; omega)
    refine bodyPost_ret (results_cell_row rfl _ _ w.heap.size 26 (recC _ _) (0, 0) _ rfl F.1 Try.underlying26 rfl (by kernel_rfl)) rfl ?_
    exact ⟨_, _, rfl, F.2.2.2, (by show x.near.length ≤ 7; have := HL.out; omega), F.2.1, F.2.2.1⟩
  · have FC := hide (ints_cells w2 [0, 6, 7])
    have hp2 : w2.heap.size ≠ p := by have := lt_of_cur ST2.out.cur; omega
    go_wp2_with fail
    refine (pickR_any (fun _ => True) p a len cap w2.heap.size 3 _ (cur_alloc ST2.out.cur _) (by omega) (by omega) hp2 FC.out).mono ?_
    rintro e w3 ⟨y5, rfl, _, hc3, hg3⟩
    have ST3 := hide ((ST2.out.alloc _).grown hc3 hg3 hp hsz1)
    have sb := ST3.out.box
    unfold recC at sb
    have s6 := cells_at sb 2
    have f6 := frozen_at sb
    simp at s6
    have ST9 := hide (ST3.out.set 2 (.int .i64 y5) { x with owner := y5 } rfl rfl hp hsz1)
    clear hc3 hg3 ST2 ST3 sb FC
    have yb := ST9.out.box
    have ub := ST9.out.res
    unfold recC at yb
    unfold zeroC at ub
    (try simp only [] at yb)
    have y0 := cells_at yb 0
    have y1 := cells_at yb 1
    have y2 := cells_at yb 2
    have y3 := cells_at yb 3
    have y4 := cells_at yb 4
    have y5 := cells_at yb 5
    have y6 := cells_at yb 6
    have y7 := cells_at yb 7
    have u0 := cells_at ub 0
    have u1 := cells_at ub 1
    have u2 := cells_at ub 2
    have u3 := cells_at ub 3
    have u4 := cells_at ub 4
    have u5 := cells_at ub 5
    have u6 := cells_at ub 6
    have u7 := cells_at ub 7
    simp at y0 y1 y2 y3 y4 y5 y6 y7 u0 u1 u2 u3 u4 u5 u6 u7
    have fu := frozen_at ub
    clear yb ub
    go_wp2_with fail
    (try simp only [Exit.inBlock, Exit.then])
    have F := ST9.out.fin hp (by have := lt_of_heap ST9.out.box; omega)
    refine bodyPost_ret (results_cell_row rfl _ _ w.heap.size 26 (recC _ _) (0, 0) _ rfl F.1 Try.underlying26 rfl (by kernel_rfl)) rfl ?_
    exact ⟨_, _, rfl, F.2.2.2, (by show x.near.length ≤ 7; have := HL.out; omega), F.2.1, F.2.2.1⟩
  · have FC := hide (ints_cells w2 [-1, 0, 6, 7, 9, 10])
    have hp2 : w2.heap.size ≠ p := by have := lt_of_cur ST2.out.cur; omega
    go_wp2_with fail
    refine (pickR_any (fun _ => True) p a len cap w2.heap.size 6 _ (cur_alloc ST2.out.cur _) (by omega) (by omega) hp2 FC.out).mono ?_
    rintro e w3 ⟨y5, rfl, _, hc3, hg3⟩
    have ST3 := hide ((ST2.out.alloc _).grown hc3 hg3 hp hsz1)
    have sb := ST3.out.box
    unfold recC at sb
    have s6 := cells_at sb 3
    have f6 := frozen_at sb
    simp at s6
    have ST9 := hide (ST3.out.set 3 (.int .i64 y5) { x with key := y5 } rfl rfl hp hsz1)
    clear hc3 hg3 ST2 ST3 sb FC
    have yb := ST9.out.box
    have ub := ST9.out.res
    unfold recC at yb
    unfold zeroC at ub
    (try simp only [] at yb)
    have y0 := cells_at yb 0
    have y1 := cells_at yb 1
    have y2 := cells_at yb 2
    have y3 := cells_at yb 3
    have y4 := cells_at yb 4
    have y5 := cells_at yb 5
    have y6 := cells_at yb 6
    have y7 := cells_at yb 7
    have u0 := cells_at ub 0
    have u1 := cells_at ub 1
    have u2 := cells_at ub 2
    have u3 := cells_at ub 3
    have u4 := cells_at ub 4
    have u5 := cells_at ub 5
    have u6 := cells_at ub 6
    have u7 := cells_at ub 7
    simp at y0 y1 y2 y3 y4 y5 y6 y7 u0 u1 u2 u3 u4 u5 u6 u7
    have fu := frozen_at ub
    clear yb ub
    go_wp2_with fail
    (try simp only [Exit.inBlock, Exit.then])
    have F := ST9.out.fin hp (by have := lt_of_heap ST9.out.box; omega)
    refine bodyPost_ret (results_cell_row rfl _ _ w.heap.size 26 (recC _ _) (0, 0) _ rfl F.1 Try.underlying26 rfl (by kernel_rfl)) rfl ?_
    exact ⟨_, _, rfl, F.2.2.2, (by show x.near.length ≤ 7; have := HL.out; omega), F.2.1, F.2.2.1⟩
  · have FC := hide (ints_cells w2 [0, -1, 100000, 100001])
    have hp2 : w2.heap.size ≠ p := by have := lt_of_cur ST2.out.cur; omega
    go_wp2_with fail
    refine (pickR_any (fun _ => True) p a len cap w2.heap.size 4 _ (cur_alloc ST2.out.cur _) (by omega) (by omega) hp2 FC.out).mono ?_
    rintro e w3 ⟨y5, rfl, _, hc3, hg3⟩
    have ST3 := hide ((ST2.out.alloc _).grown hc3 hg3 hp hsz1)
    have sb := ST3.out.box
    unfold recC at sb
    have s6 := cells_at sb 4
    have f6 := frozen_at sb
    simp at s6
    have ST9 := hide (ST3.out.set 4 (.int .i64 y5) { x with seq := y5 } rfl rfl hp hsz1)
    clear hc3 hg3 ST2 ST3 sb FC
    have yb := ST9.out.box
    have ub := ST9.out.res
    unfold recC at yb
    unfold zeroC at ub
    (try simp only [] at yb)
    have y0 := cells_at yb 0
    have y1 := cells_at yb 1
    have y2 := cells_at yb 2
    have y3 := cells_at yb 3
    have y4 := cells_at yb 4
    have y5 := cells_at yb 5
    have y6 := cells_at yb 6
    have y7 := cells_at yb 7
    have u0 := cells_at ub 0
    have u1 := cells_at ub 1
    have u2 := cells_at ub 2
    have u3 := cells_at ub 3
    have u4 := cells_at ub 4
    have u5 := cells_at ub 5
    have u6 := cells_at ub 6
    have u7 := cells_at ub 7
    simp at y0 y1 y2 y3 y4 y5 y6 y7 u0 u1 u2 u3 u4 u5 u6 u7
    have fu := frozen_at ub
    clear yb ub
    go_wp2_with fail
    (try simp only [Exit.inBlock, Exit.then])
    have F := ST9.out.fin hp (by have := lt_of_heap ST9.out.box; omega)
    refine bodyPost_ret (results_cell_row rfl _ _ w.heap.size 26 (recC _ _) (0, 0) _ rfl F.1 Try.underlying26 rfl (by kernel_rfl)) rfl ?_
    exact ⟨_, _, rfl, F.2.2.2, (by show x.near.length ≤ 7; have := HL.out; omega), F.2.1, F.2.2.1⟩
  · go_wp2
    refine wp_region_noPanic ?_
    refine wp_region_start (S := fun _ => True) (by kernel_rfl) 12 rfl trivial ?_
    intro ops hops _
    refine any_dag _ _ _ _ _ _ _ _ _ _ _ _ _ _ _ _ _ _ _ _ _ _ _ _ _ _ _ _ _ _ _ _ _ _ _ _ _ _ _ _ _ _ _ _ _ _ _ _ _ _ _ _ _ _ _ _ _ _ _ _ _ _ w _ p w.heap.size z a len cap va vc x _ ops hops (fun _ _ _ _ h => h) hp hsz1 (by have := HL.out; omega) ST2.out.drew ?_
    intro W yy uu na nc l' hl' st' g sb
    refine NoPanic.normal ?_
    have HL7 := hide (show l'.length ≤ 7 by rw [hl'.out]; simp; exact HL.out)
    have ST9 := hide st'
    clear st' hops ops hl' ST2
    have yb := ST9.out.box
    have ub := ST9.out.res
    unfold recC at yb
    unfold zeroC at ub
    (try simp only [] at yb)
    have y0 := cells_at yb 0
    have y1 := cells_at yb 1
    have y2 := cells_at yb 2
    have y3 := cells_at yb 3
    have y4 := cells_at yb 4
    have y5 := cells_at yb 5
    have y6 := cells_at yb 6
    have y7 := cells_at yb 7
    have u0 := cells_at ub 0
    have u1 := cells_at ub 1
    have u2 := cells_at ub 2
    have u3 := cells_at ub 3
    have u4 := cells_at ub 4
    have u5 := cells_at ub 5
    have u6 := cells_at ub 6
    have u7 := cells_at ub 7
    simp at y0 y1 y2 y3 y4 y5 y6 y7 u0 u1 u2 u3 u4 u5 u6 u7
    have fu := frozen_at ub
    clear yb ub
    go_wp2_with fail
    (try simp only [Exit.inBlock, Exit.then])
    have F := ST9.out.fin hp (by have := lt_of_heap ST9.out.box; omega)
    refine bodyPost_ret (results_cell_row rfl _ _ w.heap.size 26 (recC _ _) (0, 0) _ rfl F.1 Try.underlying26 rfl (by kernel_rfl)) rfl ?_
    exact ⟨_, _, rfl, F.2.2.2, HL7.out, F.2.1, F.2.2.1⟩
  · have FC := hide (ints_cells w2 [-1, 0, 1000, 1001, 60000, 60001])
    have hp2 : w2.heap.size ≠ p := by have := lt_of_cur ST2.out.cur; omega
    go_wp2_with fail
    refine (pickR_any (fun _ => True) p a len cap w2.heap.size 6 _ (cur_alloc ST2.out.cur _) (by omega) (by omega) hp2 FC.out).mono ?_
    rintro e w3 ⟨y5, rfl, _, hc3, hg3⟩
    have ST3 := hide ((ST2.out.alloc _).grown hc3 hg3 hp hsz1)
    have sb := ST3.out.box
    unfold recC at sb
    have s6 := cells_at sb 6
    have f6 := frozen_at sb
    simp at s6
    have ST9 := hide (ST3.out.set 6 (.int .i64 y5) { x with cost := y5 } rfl rfl hp hsz1)
    clear hc3 hg3 ST2 ST3 sb FC
    have yb := ST9.out.box
    have ub := ST9.out.res
    unfold recC at yb
    unfold zeroC at ub
    (try simp only [] at yb)
    have y0 := cells_at yb 0
    have y1 := cells_at yb 1
    have y2 := cells_at yb 2
    have y3 := cells_at yb 3
    have y4 := cells_at yb 4
    have y5 := cells_at yb 5
    have y6 := cells_at yb 6
    have y7 := cells_at yb 7
    have u0 := cells_at ub 0
    have u1 := cells_at ub 1
    have u2 := cells_at ub 2
    have u3 := cells_at ub 3
    have u4 := cells_at ub 4
    have u5 := cells_at ub 5
    have u6 := cells_at ub 6
    have u7 := cells_at ub 7
    simp at y0 y1 y2 y3 y4 y5 y6 y7 u0 u1 u2 u3 u4 u5 u6 u7
    have fu := frozen_at ub
    clear yb ub
    go_wp2_with fail
    (try simp only [Exit.inBlock, Exit.then])
    have F := ST9.out.fin hp (by have := lt_of_heap ST9.out.box; omega)
    refine bodyPost_ret (results_cell_row rfl _ _ w.heap.size 26 (recC _ _) (0, 0) _ rfl F.1 Try.underlying26 rfl (by kernel_rfl)) rfl ?_
    exact ⟨_, _, rfl, F.2.2.2, (by show x.near.length ≤ 7; have := HL.out; omega), F.2.1, F.2.2.1⟩
  · have sb := ST2.out.box
    unfold recC at sb
    have s7 := cells_at sb 7
    have f7 := frozen_at sb
    simp at s7
    have ST9 := hide (ST2.out.set 7 (.bool (!x.far)) { x with far := !x.far } rfl rfl hp hsz1)
    clear sb ST2
    have yb := ST9.out.box
    have ub := ST9.out.res
    unfold recC at yb
    unfold zeroC at ub
    (try simp only [] at yb)
    have y0 := cells_at yb 0
    have y1 := cells_at yb 1
    have y2 := cells_at yb 2
    have y3 := cells_at yb 3
    have y4 := cells_at yb 4
    have y5 := cells_at yb 5
    have y6 := cells_at yb 6
    have y7 := cells_at yb 7
    have u0 := cells_at ub 0
    have u1 := cells_at ub 1
    have u2 := cells_at ub 2
    have u3 := cells_at ub 3
    have u4 := cells_at ub 4
    have u5 := cells_at ub 5
    have u6 := cells_at ub 6
    have u7 := cells_at ub 7
    simp at y0 y1 y2 y3 y4 y5 y6 y7 u0 u1 u2 u3 u4 u5 u6 u7
    have fu := frozen_at ub
    clear yb ub
    go_wp2_with fail
    (try simp only [Exit.inBlock, Exit.then])
    have F := ST9.out.fin hp (by have := lt_of_heap ST9.out.box; omega)
    refine bodyPost_ret (results_cell_row rfl _ _ w.heap.size 26 (recC _ _) (0, 0) _ rfl F.1 Try.underlying26 rfl (by kernel_rfl)) rfl ?_
    exact ⟨_, _, rfl, F.2.2.2, (by show x.near.length ≤ 7; have := HL.out; omega), F.2.1, F.2.2.1⟩
  · have n0 : ¬ y = 0 := by omega
    have n1 : ¬ y = 1 := by omega
    have n2 : ¬ y = 2 := by omega
    have n3 : ¬ y = 3 := by omega
    have n4 : ¬ y = 4 := by omega
    have n5 : ¬ y = 5 := by omega
    have n6 : ¬ y = 6 := by omega
    have n7 : ¬ y = 7 := by omega
    have yb := ST2.out.box
    have ub := ST2.out.res
    unfold recC at yb
    unfold zeroC at ub
    (try simp only [] at yb)
    have y0 := cells_at yb 0
    have y1 := cells_at yb 1
    have y2 := cells_at yb 2
    have y3 := cells_at yb 3
    have y4 := cells_at yb 4
    have y5 := cells_at yb 5
    have y6 := cells_at yb 6
    have y7 := cells_at yb 7
    have u0 := cells_at ub 0
    have u1 := cells_at ub 1
    have u2 := cells_at ub 2
    have u3 := cells_at ub 3
    have u4 := cells_at ub 4
    have u5 := cells_at ub 5
    have u6 := cells_at ub 6
    have u7 := cells_at ub 7
    simp at y0 y1 y2 y3 y4 y5 y6 y7 u0 u1 u2 u3 u4 u5 u6 u7
    have fu := frozen_at ub
    clear yb ub
    go_wp2_with fail
    (try simp only [Exit.inBlock, Exit.then])
    have F := ST2.out.fin hp (by have := lt_of_heap ST2.out.box; omega)
    refine bodyPost_ret (results_cell_row rfl _ _ w.heap.size 26 (recC _ _) (0, 0) _ rfl F.1 Try.underlying26 rfl (by kernel_rfl)) rfl ?_
    exact ⟨_, _, rfl, F.2.2.2, (by have := HL.out; omega), F.2.1, F.2.2.1⟩

end Go.Proofs.Ytohjphhocdgpgaa
