/-
  spec.l04Any: some record, perhaps spoilt.
  The plain mathematics of reading a number out of bytes.
-/
import Derived.Test.YtchmmekhfcojgaaGreatDoorPq26
import Derived.Test.YtchmmekhfcojgaaGreatDoorPq27
import Derived.Test.YtchmmekhfcojgaaGreatDoorPq1
import Derived.Lib.Strings
namespace Go.Proofs.YtchmmekhfcojgaaGreatDoor
open Go.RowKit

set_option linter.unusedSimpArgs false

set_option maxRecDepth 100000 in
set_option maxHeartbeats 2000000 in
theorem anyD_any (p : Nat) (a : Option Addr) (len cap : Nat) (w : World) (hc : Cur w p a len cap) :
    Calls Tryz.prog 64 #[.pointer (some ⟨p, 0, none⟩)] w fun e w' => ∃ (x : RecD) (v : Value), e = .returned (.agg (recC x v)) ∧ w'.ownsRow (w.heap.size + 1) 100 2 v x.near.length (flat nrE x.near) ∧ x.near.length ≤ 7 ∧ Cur w' p a len cap ∧ w.grownBy w' (some p) := by
  have hp := lt_of_cur hc
  have HC := hide hc
  clear hc
  go_enter Tryz.func64, Tryz.ntmps64
  go_wp2_with fail
  refine (recD_any p a len cap _ (cur_alloc HC.out _)).mono ?_
  rintro e w1 ⟨x, v, rfl, ho1, hl1, hc1, hg1⟩
  obtain ⟨va, vc, rfl⟩ := owns_lenS ho1
  have r1 := hg1.block w.heap.size (by simp) (by simp; omega)
  rw [heap_alloc_new] at r1
  have hsz1 : w.heap.size < w1.heap.size := lt_of_heap r1
  have st0 : RcSt w (w1.alloc (.cells (recC x (.slice va x.near.length vc)) 51)) p w.heap.size w1.heap.size a len cap (.slice va x.near.length vc) x :=
    { cur := cur_alloc hc1 _
      low := Nat.le_refl _
      gro := gro_alloc (gro_same (gro_alloc (gro_refl w _) _) hg1) _
      box := heap_alloc_new w1 _
      res := (Below.heap_alloc _ _ _ hsz1).trans r1
      own := owns_below (owns_baseS ho1 (by simp)) ((Below.refl _ _).alloc (Nat.le_refl _) _) (Nat.le_refl _)
      djn := fun e => by have := (ho1.lt _ e.symm).2; omega }
  have ST0 := hide st0
  have HL := hide hl1
  clear st0 hl1 ho1 hc1 hg1 r1 HC
  unfold recC
  go_wp2_with fail
  obtain ⟨z, hz⟩ : ∃ z, z = w1.heap.size := ⟨_, rfl⟩
  refine (below_any p a len cap 30 _ ST0.out.cur (by omega) (by omega)).mono ?_
  rintro e w2 ⟨y, rfl, hy0, hy1, hc2, hg2⟩
  have ST2 := hide (ST0.out.grown hc2 hg2 hp hsz1)
  clear hc2 hg2 ST0
  rw [← hz] at ST2 hsz1 ⊢
  clear hz
  have sb := ST2.out.box
  unfold recC at sb
  clear sb
  rcases (show y = 0 ∨ y = 1 ∨ y = 2 ∨ y = 3 ∨ y = 4 ∨ y = 5 ∨ y = 6 ∨ y = 7 ∨ 8 ≤ y by omega) with rfl | rfl | rfl | rfl | rfl | rfl | rfl | rfl | h8
  · have FC := hide (ints_cells w2 [-1, 3, 9, 0])
    have hp2 : w2.heap.size ≠ p := by have := lt_of_cur ST2.out.cur; omega
    go_wp2_with fail
    refine (pickR_any (fun _ => True) p a len cap w2.heap.size 4 _ (cur_alloc ST2.out.cur _) (by omega) (by omega) hp2 FC.out).mono ?_
    rintro e w3 ⟨y5, rfl, _, hc3, hg3⟩
    have ST3 := hide ((ST2.out.alloc _).grown hc3 hg3 hp hsz1)
    have sb := ST3.out.box
    unfold recC at sb
    have s6 := cells_at sb 0
    have f6 := frozen_at sb
    simp at s6
    have ST9 := hide (ST3.out.set 0 (.int .i64 y5) { x with area := y5 } rfl rfl hp hsz1)
    clear hc3 hg3 ST2 ST3 sb FC
    have yb := ST9.out.box
    have ub := ST9.out.res
    unfold recC at yb
    unfold zeroC at ub
    (try simp only [] at yb)
    have y0 := cells_at yb 0
    have y1 := cells_at yb 1
    have y2 := cells_at yb 2
    have y3 := cells_at yb 3
    have y4 := cells_at yb 4
    have y5 := cells_at yb 5
    have y6 := cells_at yb 6
    have y7 := cells_at yb 7
    have u0 := cells_at ub 0
    have u1 := cells_at ub 1
    have u2 := cells_at ub 2
    have u3 := cells_at ub 3
    have u4 := cells_at ub 4
    have u5 := cells_at ub 5
    have u6 := cells_at ub 6
    have u7 := cells_at ub 7
    simp at y0 y1 y2 y3 y4 y5 y6 y7 u0 u1 u2 u3 u4 u5 u6 u7
    have fu := frozen_at ub
    clear yb ub
    go_wp2_with fail
    (try simp only [Exit.inBlock, Exit.then])
    have F := ST9.out.fin hp (by have := lt_of_heap ST9.out.box; omega)
    refine bodyPost_ret (results_cell_row rfl _ _ w.heap.size 51 (recC _ _) (0, 0) _ rfl F.1 Tryz.underlying51 rfl (by kernel_rfl)) rfl ?_
    exact ⟨_, _, rfl, F.2.2.2, (by show x.near.length ≤ 7; have := HL.out; omega), F.2.1, F.2.2.1⟩
  · have FC := hide (ints_cells w2 [0, 1, 2, 3, 4])
    have hp2 : w2.heap.size ≠ p := by have := lt_of_cur ST2.out.cur; omega
    go_wp2_with fail
    refine (pickR_any (fun _ => True) p a len cap w2.heap.size 5 _ (cur_alloc ST2.out.cur _) (by omega) (by omega) hp2 FC.out).mono ?_
    rintro e w3 ⟨y5, rfl, _, hc3, hg3⟩
    have ST3 := hide ((ST2.out.alloc _).grown hc3 hg3 hp hsz1)
    have sb := ST3.out.box
    unfold recC at sb
    have s6 := cells_at sb 1
    have f6 := frozen_at sb
    simp at s6
    have ST9 := hide (ST3.out.set 1 (.int .i64 y5) { x with kind := y5 } rfl rfl hp hsz1)
    clear hc3 hg3 ST2 ST3 sb FC
    have yb := ST9.out.box
    have ub := ST9.out.res
    unfold recC at yb
    unfold zeroC at ub
    (try simp only [] at yb)
    have y0 := cells_at yb 0
    have y1 := cells_at yb 1
    have y2 := cells_at yb 2
    have y3 := cells_at yb 3
    have y4 := cells_at yb 4
    have y5 := cells_at yb 5
    have y6 := cells_at yb 6
    have y7 := cells_at yb 7
    have u0 := cells_at ub 0
    have u1 := cells_at ub 1
    have u2 := cells_at ub 2
    have u3 := cells_at ub 3
    have u4 := cells_at ub 4
    have u5 := cells_at ub 5
    have u6 := cells_at ub 6
    have u7 := cells_at ub 7
    simp at y0 y1 y2 y3 y4 y5 y6 y7 u0 u1 u2 u3 u4 u5 u6 u7
    have fu := frozen_at ub
    clear yb ub
    go_wp2_with fail
    (try simp only [Exit.inBlock, Exit.then])
    have F := ST9.out.fin hp (by have := lt_of_heap ST9.out.box; omega)
    refine bodyPost_ret (results_cell_row rfl _ _ w.heap.size 51 (recC _ _) (0, 0) _ rfl F.1 Tryz.underlying51 rfl (by kernel_rfl)) rfl ?_
    exact ⟨_, _, rfl, F.2.2.2, (by show x.near.length ≤ 7; have := HL.out; omega), F.2.1, F.2.2.1⟩
  · have FC := hide (ints_cells w2 [0, 6, 7])
    have hp2 : w2.heap.size ≠ p := by have := lt_of_cur ST2.out.cur; omega
    go_wp2_with fail
    refine (pickR_any (fun _ => True) p a len cap w2.heap.size 3 _ (cur_alloc ST2.out.cur _) (by omega) (by omega) hp2 FC.out).mono ?_
    rintro e w3 ⟨y5, rfl, _, hc3, hg3⟩
    have ST3 := hide ((ST2.out.alloc _).grown hc3 hg3 hp hsz1)
    have sb := ST3.out.box
    unfold recC at sb
    have s6 := cells_at sb 2
    have f6 := frozen_at sb
    simp at s6
    have ST9 := hide (ST3.out.set 2 (.int .i64 y5) { x with owner := y5 } rfl rfl hp hsz1)
    clear hc3 hg3 ST2 ST3 sb FC
    have yb := ST9.out.box
    have ub := ST9.out.res
    unfold recC at yb
    unfold zeroC at ub
    (try simp only [] at yb)
    have y0 := cells_at yb 0
    have y1 := cells_at yb 1
    have y2 := cells_at yb 2
    have y3 := cells_at yb 3
    have y4 := cells_at yb 4
    have y5 := cells_at yb 5
    have y6 := cells_at yb 6
    have y7 := cells_at yb 7
    have u0 := cells_at ub 0
    have u1 := cells_at ub 1
    have u2 := cells_at ub 2
    have u3 := cells_at ub 3
    have u4 := cells_at ub 4
    have u5 := cells_at ub 5
    have u6 := cells_at ub 6
    have u7 := cells_at ub 7
    simp at y0 y1 y2 y3 y4 y5 y6 y7 u0 u1 u2 u3 u4 u5 u6 u7
    have fu := frozen_at ub
    clear yb ub
    go_wp2_with fail
    (try simp only [Exit.inBlock, Exit.then])
    have F := ST9.out.fin hp (by have := lt_of_heap ST9.out.box; omega)
    refine bodyPost_ret (results_cell_row rfl _ _ w.heap.size 51 (recC _ _) (0, 0) _ rfl F.1 Tryz.underlying51 rfl (by kernel_rfl)) rfl ?_
    exact ⟨_, _, rfl, F.2.2.2, (by show x.near.length ≤ 7; have := HL.out; omega), F.2.1, F.2.2.1⟩
  · have FC := hide (ints_cells w2 [-1, 0, 6, 7, 9, 10])
    have hp2 : w2.heap.size ≠ p := by have := lt_of_cur ST2.out.cur; omega
    go_wp2_with fail
    refine (pickR_any (fun _ => True) p a len cap w2.heap.size 6 _ (cur_alloc ST2.out.cur _) (by omega) (by omega) hp2 FC.out).mono ?_
    rintro e w3 ⟨y5, rfl, _, hc3, hg3⟩
    have ST3 := hide ((ST2.out.alloc _).grown hc3 hg3 hp hsz1)
    have sb := ST3.out.box
    unfold recC at sb
    have s6 := cells_at sb 3
    have f6 := frozen_at sb
    simp at s6
    have ST9 := hide (ST3.out.set 3 (.int .i64 y5) { x with key := y5 } rfl rfl hp hsz1)
    clear hc3 hg3 ST2 ST3 sb FC
    have yb := ST9.out.box
    have ub := ST9.out.res
    unfold recC at yb
    unfold zeroC at ub
    (try simp only [] at yb)
    have y0 := cells_at yb 0
    have y1 := cells_at yb 1
    have y2 := cells_at yb 2
    have y3 := cells_at yb 3
    have y4 := cells_at yb 4
    have y5 := cells_at yb 5
    have y6 := cells_at yb 6
    have y7 := cells_at yb 7
    have u0 := cells_at ub 0
    have u1 := cells_at ub 1
    have u2 := cells_at ub 2
    have u3 := cells_at ub 3
    have u4 := cells_at ub 4
    have u5 := cells_at ub 5
    have u6 := cells_at ub 6
    have u7 := cells_at ub 7
    simp at y0 y1 y2 y3 y4 y5 y6 y7 u0 u1 u2 u3 u4 u5 u6 u7
    have fu := frozen_at ub
    clear yb ub
    go_wp2_with fail
    (try simp only [Exit.inBlock, Exit.then])
    have F := ST9.out.fin hp (by have := lt_of_heap ST9.out.box; omega)
    refine bodyPost_ret (results_cell_row rfl _ _ w.heap.size 51 (recC _ _) (0, 0) _ rfl F.1 Tryz.underlying51 rfl (by kernel_rfl)) rfl ?_
    exact ⟨_, _, rfl, F.2.2.2, (by show x.near.length ≤ 7; have := HL.out; omega), F.2.1, F.2.2.1⟩
  · have FC := hide (ints_cells w2 [0, -1, 100000, 100001])
    have hp2 : w2.heap.size ≠ p := by have := lt_of_cur ST2.out.cur; omega
    go_wp2_with fail
    refine (pickR_any (fun _ => True) p a len cap w2.heap.size 4 _ (cur_alloc ST2.out.cur _) (by omega) (by omega) hp2 FC.out).mono ?_
    rintro e w3 ⟨y5, rfl, _, hc3, hg3⟩
    have ST3 := hide ((ST2.out.alloc _).grown hc3 hg3 hp hsz1)
    have sb := ST3.out.box
    unfold recC at sb
    have s6 := cells_at sb 4
    have f6 := frozen_at sb
    simp at s6
    have ST9 := hide (ST3.out.set 4 (.int .i64 y5) { x with seq := y5 } rfl rfl hp hsz1)
    clear hc3 hg3 ST2 ST3 sb FC
    have yb := ST9.out.box
    have ub := ST9.out.res
    unfold recC at yb
    unfold zeroC at ub
    (try simp only [] at yb)
    have y0 := cells_at yb 0
    have y1 := cells_at yb 1
    have y2 := cells_at yb 2
    have y3 := cells_at yb 3
    have y4 := cells_at yb 4
    have y5 := cells_at yb 5
    have y6 := cells_at yb 6
    have y7 := cells_at yb 7
    have u0 := cells_at ub 0
    have u1 := cells_at ub 1
    have u2 := cells_at ub 2
    have u3 := cells_at ub 3
    have u4 := cells_at ub 4
    have u5 := cells_at ub 5
    have u6 := cells_at ub 6
    have u7 := cells_at ub 7
    simp at y0 y1 y2 y3 y4 y5 y6 y7 u0 u1 u2 u3 u4 u5 u6 u7
    have fu := frozen_at ub
    clear yb ub
    go_wp2_with fail
    (try simp only [Exit.inBlock, Exit.then])
    have F := ST9.out.fin hp (by have := lt_of_heap ST9.out.box; omega)
    refine bodyPost_ret (results_cell_row rfl _ _ w.heap.size 51 (recC _ _) (0, 0) _ rfl F.1 Tryz.underlying51 rfl (by kernel_rfl)) rfl ?_
    exact ⟨_, _, rfl, F.2.2.2, (by show x.near.length ≤ 7; have := HL.out; omega), F.2.1, F.2.2.1⟩
  · go_wp2
    refine wp_region_noPanic ?_
    refine wp_region_start (S := fun _ => True) (by kernel_rfl) 12 rfl trivial ?_
    intro ops hops _
    refine any_dag _ _ _ _ _ _ _ _ _ _ _ _ _ _ _ _ _ _ _ _ _ _ _ _ _ _ _ _ _ _ _ _ _ _ _ _ _ _ _ _ _ _ _ _ _ _ _ _ _ _ _ _ _ _ _ _ _ _ _ _ _ _ w _ p w.heap.size z a len cap va vc x _ ops hops (fun _ _ _ _ h => h) hp hsz1 (by have := HL.out; omega) ST2.out.drew ?_
    intro W yy uu na nc l' hl' st' g sb
    refine NoPanic.normal ?_
    have HL7 := hide (show l'.length ≤ 7 by rw [hl'.out]; simp; exact HL.out)
    have ST9 := hide st'
    clear st' hops ops hl' ST2
    have yb := ST9.out.box
    have ub := ST9.out.res
    unfold recC at yb
    unfold zeroC at ub
    (try simp only [] at yb)
    have y0 := cells_at yb 0
    have y1 := cells_at yb 1
    have y2 := cells_at yb 2
    have y3 := cells_at yb 3
    have y4 := cells_at yb 4
    have y5 := cells_at yb 5
    have y6 := cells_at yb 6
    have y7 := cells_at yb 7
    have u0 := cells_at ub 0
    have u1 := cells_at ub 1
    have u2 := cells_at ub 2
    have u3 := cells_at ub 3
    have u4 := cells_at ub 4
    have u5 := cells_at ub 5
    have u6 := cells_at ub 6
    have u7 := cells_at ub 7
    simp at y0 y1 y2 y3 y4 y5 y6 y7 u0 u1 u2 u3 u4 u5 u6 u7
    have fu := frozen_at ub
    clear yb ub
    go_wp2_with fail
    (try simp only [Exit.inBlock, Exit.then])
    have F := ST9.out.fin hp (by have := lt_of_heap ST9.out.box; omega)
    refine bodyPost_ret (results_cell_row rfl _ _ w.heap.size 51 (recC _ _) (0, 0) _ rfl F.1 Tryz.underlying51 rfl (by kernel_rfl)) rfl ?_
    exact ⟨_, _, rfl, F.2.2.2, HL7.out, F.2.1, F.2.2.1⟩
  · have FC := hide (ints_cells w2 [-1, 0, 1000, 1001, 60000, 60001])
    have hp2 : w2.heap.size ≠ p := by have := lt_of_cur ST2.out.cur; omega
    go_wp2_with fail
    refine (pickR_any (fun _ => True) p a len cap w2.heap.size 6 _ (cur_alloc ST2.out.cur _) (by omega) (by omega) hp2 FC.out).mono ?_
    rintro e w3 ⟨y5, rfl, _, hc3, hg3⟩
    have ST3 := hide ((ST2.out.alloc _).grown hc3 hg3 hp hsz1)
    have sb := ST3.out.box
    unfold recC at sb
    have s6 := cells_at sb 6
    have f6 := frozen_at sb
    simp at s6
    have ST9 := hide (ST3.out.set 6 (.int .i64 y5) { x with cost := y5 } rfl rfl hp hsz1)
    clear hc3 hg3 ST2 ST3 sb FC
    have yb := ST9.out.box
    have ub := ST9.out.res
    unfold recC at yb
    unfold zeroC at ub
    (try simp only [] at yb)
    have y0 := cells_at yb 0
    have y1 := cells_at yb 1
    have y2 := cells_at yb 2
    have y3 := cells_at yb 3
    have y4 := cells_at yb 4
    have y5 := cells_at yb 5
    have y6 := cells_at yb 6
    have y7 := cells_at yb 7
    have u0 := cells_at ub 0
    have u1 := cells_at ub 1
    have u2 := cells_at ub 2
    have u3 := cells_at ub 3
    have u4 := cells_at ub 4
    have u5 := cells_at ub 5
    have u6 := cells_at ub 6
    have u7 := cells_at ub 7
    simp at y0 y1 y2 y3 y4 y5 y6 y7 u0 u1 u2 u3 u4 u5 u6 u7
    have fu := frozen_at ub
    clear yb ub
    go_wp2_with fail
    (try simp only [Exit.inBlock, Exit.then])
    have F := ST9.out.fin hp (by have := lt_of_heap ST9.out.box; omega)
    refine bodyPost_ret (results_cell_row rfl _ _ w.heap.size 51 (recC _ _) (0, 0) _ rfl F.1 Tryz.underlying51 rfl (by kernel_rfl)) rfl ?_
    exact ⟨_, _, rfl, F.2.2.2, (by show x.near.length ≤ 7; have := HL.out; omega), F.2.1, F.2.2.1⟩
  · have sb := ST2.out.box
    unfold recC at sb
    have s7 := cells_at sb 7
    have f7 := frozen_at sb
    simp at s7
    have ST9 := hide (ST2.out.set 7 (.bool (!x.far)) { x with far := !x.far } rfl rfl hp hsz1)
    clear sb ST2
    have yb := ST9.out.box
    have ub := ST9.out.res
    unfold recC at yb
    unfold zeroC at ub
    (try simp only [] at yb)
    have y0 := cells_at yb 0
    have y1 := cells_at yb 1
    have y2 := cells_at yb 2
    have y3 := cells_at yb 3
    have y4 := cells_at yb 4
    have y5 := cells_at yb 5
    have y6 := cells_at yb 6
    have y7 := cells_at yb 7
    have u0 := cells_at ub 0
    have u1 := cells_at ub 1
    have u2 := cells_at ub 2
    have u3 := cells_at ub 3
    have u4 := cells_at ub 4
    have u5 := cells_at ub 5
    have u6 := cells_at ub 6
    have u7 := cells_at ub 7
    simp at y0 y1 y2 y3 y4 y5 y6 y7 u0 u1 u2 u3 u4 u5 u6 u7
    have fu := frozen_at ub
    clear yb ub
    go_wp2_with fail
    (try simp only [Exit.inBlock, Exit.then])
    have F := ST9.out.fin hp (by have := lt_of_heap ST9.out.box; omega)
    refine bodyPost_ret (results_cell_row rfl _ _ w.heap.size 51 (recC _ _) (0, 0) _ rfl F.1 Tryz.underlying51 rfl (by kernel_rfl)) rfl ?_
    exact ⟨_, _, rfl, F.2.2.2, (by show x.near.length ≤ 7; have := HL.out; omega), F.2.1, F.2.2.1⟩
  · have n0 : ¬ y = 0 := by omega
    have n1 : ¬ y = 1 := by omega
    have n2 : ¬ y = 2 := by omega
    have n3 : ¬ y = 3 := by omega
    have n4 : ¬ y = 4 := by omega
    have n5 : ¬ y = 5 := by omega
    have n6 : ¬ y = 6 := by omega
    have n7 : ¬ y = 7 := by omega
    have yb := ST2.out.box
    have ub := ST2.out.res
    unfold recC at yb
    unfold zeroC at ub
    (try simp only [] at yb)
    have y0 := cells_at yb 0
    have y1 := cells_at yb 1
    have y2 := cells_at yb 2
    have y3 := cells_at yb 3
    have y4 := cells_at yb 4
    have y5 := cells_at yb 5
    have y6 := cells_at yb 6
    have y7 := cells_at yb 7
    have u0 := cells_at ub 0
    have u1 := cells_at ub 1
    have u2 := cells_at ub 2
    have u3 := cells_at ub 3
    have u4 := cells_at ub 4
    have u5 := cells_at ub 5
    have u6 := cells_at ub 6
    have u7 := cells_at ub 7
    simp at y0 y1 y2 y3 y4 y5 y6 y7 u0 u1 u2 u3 u4 u5 u6 u7
    have fu := frozen_at ub
    clear yb ub
    go_wp2_with fail
    (try simp only [Exit.inBlock, Exit.then])
    have F := ST2.out.fin hp (by have := lt_of_heap ST2.out.box; omega)
    refine bodyPost_ret (results_cell_row rfl _ _ w.heap.size 51 (recC _ _) (0, 0) _ rfl F.1 Tryz.underlying51 rfl (by kernel_rfl)) rfl ?_
    exact ⟨_, _, rfl, F.2.2.2, (by have := HL.out; omega), F.2.1, F.2.2.1⟩

end Go.Proofs.YtchmmekhfcojgaaGreatDoor
namespace Go.Proofs.YtchmmekhfcojgaaGreatDoor
open Go.RowKit

def valL : List UInt8 → Nat
  | [] => 0
  | b :: r => b.toNat % 128 + 128 * valL r

def pw (k : Nat) : Nat := 128 ^ k

theorem valL_snoc : ∀ (l : List UInt8) (c : UInt8), valL (l ++ [c]) = valL l + c.toNat % 128 * pw l.length
  | [], c => by simp [valL, pw]
  | b :: r, c => by
    have ih := valL_snoc r c
    simp only [List.cons_append, valL, ih, List.length_cons, pw, Nat.pow_succ, Nat.mul_add]
    rw [← Nat.mul_assoc, Nat.mul_comm 128 (c.toNat % 128), Nat.mul_assoc, Nat.mul_comm 128 (128 ^ r.length)]
    omega

theorem valL_lt : ∀ l : List UInt8, valL l < pw l.length
  | [] => by simp [valL, pw]
  | b :: r => by
    have ih := valL_lt r
    simp only [valL, List.length_cons, pw, Nat.pow_succ] at *
    omega

/-- the bytes are those of their number, unless the last of several is nought -/
theorem var_val : ∀ (pre : List UInt8) (c : UInt8), (∀ b ∈ pre, 127 < b.toNat) → c.toNat ≤ 127 → (varL (valL (pre ++ [c])) = pre ++ [c] ↔ ¬ (c.toNat = 0 ∧ pre ≠ []))
  | [], c, _, hc => by
    have e : valL ([] ++ [c]) = c.toNat := by simp [valL]; omega
    rw [e, varL_small hc]
    simp [loB]
  | b :: r, c, hp, hc => by
    have hb : 127 < b.toNat := hp b (by simp)
    have hb2 := b.toNat_lt
    have ih := var_val r c (fun x hx => hp x (by simp [hx])) hc
    have e : valL (b :: r ++ [c]) = b.toNat % 128 + 128 * valL (r ++ [c]) := by simp [valL]
    rw [e]
    by_cases hz : valL (r ++ [c]) = 0
    · rw [hz, varL_small (by omega)]
      have hc0 : c.toNat = 0 := by
        rw [valL_snoc] at hz
        have hpw : 0 < pw r.length := by simp [pw, Nat.pow_pos]
        have : c.toNat % 128 * pw r.length = 0 := by omega
        rcases Nat.mul_eq_zero.1 this with h | h <;> omega
      constructor
      · intro h
        have := congrArg List.length h
        simp at this
      · intro h
        exact absurd ⟨hc0, by simp⟩ h
    · rw [varL_big (by omega)]
      have e1 : hiB (b.toNat % 128 + 128 * valL (r ++ [c])) = b := by
        apply UInt8.toNat_inj.1
        simp [hiB]
        omega
      have e2 : (b.toNat % 128 + 128 * valL (r ++ [c])) / 128 = valL (r ++ [c]) := by omega
      rw [e1, e2, List.cons_append, List.cons_inj_right, ih]
      constructor
      · intro h ⟨h1, _⟩
        apply h
        refine ⟨h1, fun hr => ?_⟩
        subst hr
        simp [valL] at hz
        omega
      · intro h ⟨h1, _⟩
        exact h ⟨h1, by simp⟩

def rdA : Nat → List UInt8 → List UInt8 → Option (Nat × Nat)
  | 0, _, _ => none
  | _ + 1, _, [] => none
  | f + 1, pre, c :: r => if 127 < c.toNat then rdA f (pre ++ [c]) r else if (c.toNat = 0 ∧ pre ≠ []) ∨ 1000000000 < valL (pre ++ [c]) then none else some (valL (pre ++ [c]), pre.length + 1)

theorem rdA_end (f : Nat) (pre : List UInt8) : rdA f pre [] = none := by cases f <;> rfl
theorem rdA_more (f : Nat) (pre : List UInt8) (c : UInt8) (r : List UInt8) (h : 127 < c.toNat) : rdA (f + 1) pre (c :: r) = rdA f (pre ++ [c]) r := by simp [rdA, h]
theorem rdA_no (f : Nat) (pre : List UInt8) (c : UInt8) (r : List UInt8) (h : c.toNat ≤ 127) (h2 : (c.toNat = 0 ∧ pre ≠ []) ∨ 1000000000 < valL (pre ++ [c])) : rdA (f + 1) pre (c :: r) = none := by
  have : ¬ 127 < c.toNat := by omega
  simp only [rdA, if_neg this, if_pos h2]
theorem rdA_yes (f : Nat) (pre : List UInt8) (c : UInt8) (r : List UInt8) (h : c.toNat ≤ 127) (h2 : ¬ (c.toNat = 0 ∧ pre ≠ [])) (h3 : valL (pre ++ [c]) ≤ 1000000000) : rdA (f + 1) pre (c :: r) = some (valL (pre ++ [c]), pre.length + 1) := by
  have h4 : ¬ 127 < c.toNat := by omega
  have h5 : ¬ ((c.toNat = 0 ∧ pre ≠ []) ∨ 1000000000 < valL (pre ++ [c])) := by rintro (h | h); exact h2 h; omega
  simp only [rdA, if_neg h4, if_neg h5]

def rdO (s : ByteArray) (p : Nat) : Option (Nat × Nat) := rdA 5 [] (s.data.toList.drop p)
def rdT (p : Nat) : Option (Nat × Nat) → Value
  | some (v, k) => .tuple #[.int .i64 v, .int .i64 ((p + k : Nat) : Int), .bool true]
  | none => .tuple #[.int .i64 0, .int .i64 0, .bool false]
def rdV (s : ByteArray) (x : Int) : Value := if 0 ≤ x ∧ x ≤ (s.size : Int) then rdT x.toNat (rdO s x.toNat) else rdT 0 none

/-- what holds at the head of a round: q: the place; pre: the bytes since p -/
structure Rd (s : ByteArray) (p q : Nat) (pre : List UInt8) (m sc : Nat) : Prop where
  len : pre.length = q - p
  le : p ≤ q
  five : q ≤ p + 5
  size : q ≤ s.size
  val : m = valL pre
  scale : sc = pw (q - p)
  bytes : pre = (s.data.toList.drop p).take (q - p)
  high : ∀ b ∈ pre, 127 < b.toNat
  ans : rdO s p = rdA (p + 5 - q) pre (s.data.toList.drop q)

theorem Rd.first (s : ByteArray) (p : Nat) (h : p ≤ s.size) : Rd s p p [] 0 1 :=
  ⟨by simp, Nat.le_refl _, by omega, h, rfl, by simp [pw], by simp, by simp, by simp [rdO]⟩

theorem drop_byte (s : ByteArray) (q : Nat) (h : q < s.size) : s.data.toList.drop q = s[q] :: s.data.toList.drop (q + 1) := by
  rw [List.drop_eq_getElem_cons (by simpa using h)]
  rfl

theorem take_byte (s : ByteArray) (p q : Nat) (hpq : p ≤ q) (h : q < s.size) : (s.data.toList.drop p).take (q + 1 - p) = (s.data.toList.drop p).take (q - p) ++ [s[q]] := by
  have e : q + 1 - p = (q - p) + 1 := by omega
  rw [e, List.take_succ_eq_append_getElem (by simp; omega)]
  have e2 : (s.data.toList.drop p)[q - p]'(by simp; omega) = s[q] := by
    have e3 : p + (q - p) = q := by omega
    simp only [List.getElem_drop, e3]
    rfl
  rw [e2]

theorem Rd.lt {s : ByteArray} {p q : Nat} {pre : List UInt8} {m sc : Nat} (h : Rd s p q pre m sc) : m < sc := by
  rw [h.val, h.scale, ← h.len]; exact valL_lt pre

theorem Rd.cases {s : ByteArray} {p q : Nat} {pre : List UInt8} {m sc : Nat} (h : Rd s p q pre m sc) :
    (q = p ∧ sc = 1) ∨ (q = p + 1 ∧ sc = 128) ∨ (q = p + 2 ∧ sc = 16384) ∨ (q = p + 3 ∧ sc = 2097152) ∨ (q = p + 4 ∧ sc = 268435456) ∨ (q = p + 5 ∧ sc = 34359738368) := by
  have h1 := h.le
  have h2 := h.five
  have h3 := h.scale
  have : q = p ∨ q = p + 1 ∨ q = p + 2 ∨ q = p + 3 ∨ q = p + 4 ∨ q = p + 5 := by omega
  rcases this with e | e | e | e | e | e <;> subst e <;> simp [pw] at h3 <;> simp [h3]

theorem Rd.value {s : ByteArray} {p q : Nat} {pre : List UInt8} {m sc : Nat} (h : Rd s p q pre m sc) (hq : q < s.size) : m + s[q].toNat % 128 * sc = valL (pre ++ [s[q]]) := by
  rw [valL_snoc, h.val, h.scale, h.len]

theorem Rd.next {s : ByteArray} {p q : Nat} {pre : List UInt8} {m sc : Nat} (h : Rd s p q pre m sc) (hq : q < s.size) (h5 : q < p + 5) (hc : 127 < s[q].toNat) :
    Rd s p (q + 1) (pre ++ [s[q]]) (m + s[q].toNat % 128 * sc) (sc * 128) := by
  have hle := h.le
  refine ⟨by simp [h.len]; omega, by omega, by omega, by omega, h.value hq, ?_, ?_, ?_, ?_⟩
  · rw [h.scale, show q + 1 - p = (q - p) + 1 by omega]; simp [pw, Nat.pow_succ]
  · rw [take_byte s p q hle hq, ← h.bytes]
  · intro b hb
    rcases List.mem_append.1 hb with hb | hb
    · exact h.high b hb
    · simp at hb; rw [hb]; exact hc
  · rw [h.ans, drop_byte s q hq, show p + 5 - q = (p + 5 - (q + 1)) + 1 by omega, rdA_more _ _ _ _ hc]

theorem Rd.no_byte {s : ByteArray} {p q : Nat} {pre : List UInt8} {m sc : Nat} (h : Rd s p q pre m sc) (hq : s.size ≤ q ∨ p + 5 ≤ q) : rdO s p = none := by
  rw [h.ans]
  rcases hq with hq | hq
  · rw [List.drop_eq_nil_of_le (by simpa using hq), rdA_end]
  · rw [show p + 5 - q = 0 by omega]; rfl

theorem Rd.no {s : ByteArray} {p q : Nat} {pre : List UInt8} {m sc : Nat} (h : Rd s p q pre m sc) (hq : q < s.size) (h5 : q < p + 5) (hc : s[q].toNat ≤ 127)
    (hn : (s[q].toNat = 0 ∧ p < q) ∨ 1000000000 < m + s[q].toNat % 128 * sc) : rdO s p = none := by
  have hlen := h.len
  rw [h.ans, drop_byte s q hq, show p + 5 - q = (p + 5 - (q + 1)) + 1 by omega, rdA_no _ _ _ _ hc]
  rcases hn with ⟨h1, h2⟩ | h1
  · exact .inl ⟨h1, fun e => by subst e; simp at hlen; omega⟩
  · exact .inr (by rw [← h.value hq]; exact h1)

theorem Rd.yes {s : ByteArray} {p q : Nat} {pre : List UInt8} {m sc : Nat} (h : Rd s p q pre m sc) (hq : q < s.size) (h5 : q < p + 5) (hc : s[q].toNat ≤ 127)
    (hn : ¬ (s[q].toNat = 0 ∧ p < q)) (hm : m + s[q].toNat % 128 * sc ≤ 1000000000) : rdO s p = some (m + s[q].toNat % 128 * sc, q - p + 1) := by
  have hlen := h.len
  have hle := h.le
  rw [h.ans, drop_byte s q hq, show p + 5 - q = (p + 5 - (q + 1)) + 1 by omega, rdA_yes _ _ _ _ hc, ← h.value hq, hlen]
  · rintro ⟨h1, h2⟩
    apply hn
    refine ⟨h1, ?_⟩
    have := List.length_pos_iff.2 h2
    omega
  · rw [← h.value hq]; exact hm

theorem Rd.next' {s : ByteArray} {p q : Nat} {pre : List UInt8} {m sc c : Nat} (h : Rd s p q pre m sc) (hq : q < s.size) (hc : c = s[q].toNat) (h5 : q < p + 5) (hb : 127 < c) : Rd s p (q + 1) (pre ++ [s[q]]) (m + c % 128 * sc) (sc * 128) := by
  subst hc; exact h.next hq h5 hb
theorem Rd.no' {s : ByteArray} {p q : Nat} {pre : List UInt8} {m sc c : Nat} (h : Rd s p q pre m sc) (hq : q < s.size) (hc : c = s[q].toNat) (h5 : q < p + 5) (hb : c ≤ 127)
    (hn : (c = 0 ∧ p < q) ∨ 1000000000 < m + c % 128 * sc) : rdO s p = none := by
  subst hc; exact h.no hq h5 hb hn
theorem Rd.yes' {s : ByteArray} {p q : Nat} {pre : List UInt8} {m sc c : Nat} (h : Rd s p q pre m sc) (hq : q < s.size) (hc : c = s[q].toNat) (h5 : q < p + 5) (hb : c ≤ 127)
    (hn : ¬ (c = 0 ∧ p < q)) (hm : m + c % 128 * sc ≤ 1000000000) : rdO s p = some (m + c % 128 * sc, q - p + 1) := by
  subst hc; exact h.yes hq h5 hb hn hm

theorem bs_toList (l : List UInt8) : (bs l).toList = l := by simp [bs]

theorem Rd.cmp {s t : ByteArray} {p q : Nat} {pre : List UInt8} {m sc c N : Nat} (h : Rd s p q pre m sc) (hq : q < s.size) (hc : c = s[q].toNat) (hb : c ≤ 127) (ht : t = s.extract p (q + 1)) (hN : N = m + c % 128 * sc) :
    ((bs (varL N)).toList == t.toList) = !(decide (c = 0 ∧ p < q)) := by
  have e1 : t.toList = pre ++ [s[q]] := by
    rw [ht, ByteArray.toList_eq, Go.Lib.extract_data, take_byte s p q h.le hq, ← h.bytes]
  have e2 := var_val pre s[q] h.high (by omega)
  have e3 : N = valL (pre ++ [s[q]]) := by rw [hN, hc, h.value hq]
  have hlen := h.len
  have hle := h.le
  rw [bs_toList, e1, e3]
  have e4 : (pre ≠ []) ↔ p < q := by
    rw [← List.length_pos_iff, hlen]; omega
  rw [e4, ← hc] at e2
  by_cases hx : c = 0 ∧ p < q
  · have : ¬ varL (valL (pre ++ [s[q]])) = pre ++ [s[q]] := fun h => (e2.1 h) hx
    simp [this, hx]
  · have : varL (valL (pre ++ [s[q]])) = pre ++ [s[q]] := e2.2 hx
    rw [this]
    simp [hx]

theorem Rd.cmp_no {s t : ByteArray} {p q : Nat} {pre : List UInt8} {m sc c N : Nat} (h : Rd s p q pre m sc) (hq : q < s.size) (hc : c = s[q].toNat) (h5 : q < p + 5) (hb : c ≤ 127) (ht : t = s.extract p (q + 1)) (hN : N = m + c % 128 * sc)
    (hx : (!((bs (varL N)).toList == t.toList)) = true) : rdO s p = none := by
  rw [h.cmp hq hc hb ht hN] at hx
  exact h.no' hq hc h5 hb (.inl (by simpa using hx))
theorem Rd.cmp_yes {s t : ByteArray} {p q : Nat} {pre : List UInt8} {m sc c N : Nat} (h : Rd s p q pre m sc) (hq : q < s.size) (hc : c = s[q].toNat) (h5 : q < p + 5) (hb : c ≤ 127) (ht : t = s.extract p (q + 1)) (hN : N = m + c % 128 * sc)
    (hm : m + c % 128 * sc ≤ 1000000000) (hx : (!((bs (varL N)).toList == t.toList)) = false) : rdO s p = some (m + c % 128 * sc, q - p + 1) := by
  rw [h.cmp hq hc hb ht hN] at hx
  exact h.yes' hq hc h5 hb (by simpa using hx) hm

theorem rdV_out (s : ByteArray) (x : Int) (h : x < 0 ∨ (s.size : Int) < x) : rdV s x = .tuple #[.int .i64 0, .int .i64 0, .bool false] := by
  unfold rdV; rw [if_neg (by omega)]; rfl
theorem rdV_in (s : ByteArray) (p : Nat) (h : p ≤ s.size) : rdV s (p : Int) = rdT p (rdO s p) := by
  unfold rdV; rw [if_pos (by omega)]; rfl
theorem ret_no {s : ByteArray} {p : Nat} (h : rdO s p = none) : Ending.returned (.tuple #[.int .i64 0, .int .i64 0, .bool false]) = .returned (rdT p (rdO s p)) := by rw [h]; rfl
theorem ret_yes {s : ByteArray} {p v k : Nat} {a b : Int} (h : rdO s p = some (v, k)) (ha : a = (v : Int)) (hb : b = ((p + k : Nat) : Int)) : Ending.returned (.tuple #[.int .i64 a, .int .i64 b, .bool true]) = .returned (rdT p (rdO s p)) := by
  rw [h, ha, hb]; rfl
end Go.Proofs.YtchmmekhfcojgaaGreatDoor
