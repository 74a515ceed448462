/-
  spec.l04Record: some right record.
  What slices.Insert needs: copy of a row of structs, append at two types, the lists of cells.
  slices.Insert at lists of records, one record put in: its three roads.
-/
import Derived.Test.YtmijnjnihhemgaaGreatQm13
import Derived.Test.YtmijnjnihhemgaaGreatQm9
import Derived.Test.YtmijnjnihhemgaaGreatQm6
import Derived.Shelf.Spec.SlicesInsertGrow
namespace Go.Proofs.YtmijnjnihhemgaaGreat
open Go.RowKit
set_option linter.unusedSimpArgs false
set_option linter.unusedVariables false
set_option maxRecDepth 100000
set_option maxHeartbeats 8000000
def NearUp (l : List Nr) (k : Int) (o : Int) : Prop := (∀ n ∈ l, 1 ≤ n.to ∧ n.to < k ∧ n.to ≠ o ∧ 1 ≤ n.c ∧ n.c ≤ 4) ∧ l.Pairwise (fun a b => a.to < b.to)
theorem NearUp.more {l : List Nr} {k k' o : Int} (h : NearUp l k o) (hk : k ≤ k') : NearUp l k' o := ⟨fun n hn => by have := h.1 n hn; omega, h.2⟩
theorem NearUp.push {l : List Nr} {k o y : Int} (h : NearUp l k o) (h1 : 1 ≤ k) (ho : k ≠ o) (hy0 : 0 ≤ y) (hy1 : y < 4) : NearUp (l ++ [⟨k, 1 + y⟩]) (k + 1) o := by
 refine ⟨?_, ?_⟩
 ·intro n hn
  rcases List.mem_append.1 hn with h2 | h2
  ·have := h.1 n h2; omega
  ·have : n = ⟨k, 1 + y⟩ := by simpa using h2
   subst this
   simp only
   omega
 ·rw [List.pairwise_append]
  refine ⟨h.2, by simp, ?_⟩
  intro a ha b hb
  have : b = ⟨k, 1 + y⟩ := by simpa using hb
  subst this
  exact (h.1 a ha).2.1
theorem NearUp.ok {l : List Nr} {o : Int} (h : NearUp l 7 o) : nearsB o l = true := by
 unfold nearsB allOk ascB
 rw [Bool.and_eq_true]
 refine ⟨all_true fun j hj => ?_, all_true fun j hj => ?_⟩
 ·unfold okAt
  rw [List.getElem?_eq_getElem hj]
  have h1 := h.1 l[j] (List.getElem_mem hj)
  unfold nearOkB inB
  simp only [Bool.and_eq_true, decide_eq_true_eq, Bool.not_eq_true', beq_eq_false_iff_ne]
  omega
 ·cases j with
  | zero => rfl
  | succ k =>
   rw [ascAt_eq (List.getElem?_eq_getElem (by omega)) (List.getElem?_eq_getElem hj)]
   have h2 := List.pairwise_iff_getElem.1 h.2 k (k + 1) (by omega) hj (by omega)
   unfold ordN
   simp only [decide_eq_true_eq]
   omega
theorem right_node {y1 y2 y3 : Int} {l : List Nr} (a0 : 0 ≤ y1) (a1 : y1 < 4) (b0 : 0 ≤ y2) (b1 : y2 < 3) (c0 : 0 ≤ y3) (c1 : y3 < 5) (h : NearUp l 7 (1 + y1)) : recOkB ⟨y2, 1, 1 + y1, 0, 1 + y3, l, 0, false⟩ = true := by
 have h1 := h.ok
 unfold recOkB
 simp only [h1]
 unfold inB
 simp
 omega
theorem right_beyond {y1 y2 y3 y4 y5 : Int} (a0 : 0 ≤ y1) (a1 : y1 < 4) (b0 : 0 ≤ y2) (b1 : y2 < 3) (c0 : 0 ≤ y3) (c1 : y3 < 5) (d0 : 0 ≤ y4) (d1 : y4 < 5) (e0 : 0 ≤ y5) (e1 : y5 ≤ 60000) : recOkB ⟨y2, 2, 1 + y1, 1 + y4, 1 + y3, [], y5, false⟩ = true := by
 unfold recOkB inB
 simp
 omega
theorem right_thing {y1 y3 y4 y5 : Int} {b : Bool} (a0 : 0 ≤ y1) (a1 : y1 < 4) (c0 : 0 ≤ y3) (c1 : y3 < 5) (d0 : 0 ≤ y4) (d1 : y4 < 3) (e : (1 ≤ y5 ∧ y5 ≤ 1000) ∨ y5 = 60000) : recOkB ⟨9, 3, 1 + y1, 1 + y4, 1 + y3, [], y5, b⟩ = true := by
 unfold recOkB inB
 simp
 omega
theorem five_cellsR (w : World) : ∀ k, k < 5 → ∃ z : Int, (0 ≤ z ∧ z ≤ 60000) ∧ (w.alloc (.cells #[.int .i64 0, .int .i64 1, .int .i64 2, .int .i64 5, .int .i64 60000] 3)).cell? ⟨w.heap.size, k, none⟩ = some (.int .i64 z) := by
 intro k hk
 have h := cells_at (heap_alloc_new w (.cells #[.int .i64 0, .int .i64 1, .int .i64 2, .int .i64 5, .int .i64 60000] 3)) k
 match k, hk with
 | 0, _ => exact ⟨_, by omega, h⟩
 | 1, _ => exact ⟨_, by omega, h⟩
 | 2, _ => exact ⟨_, by omega, h⟩
 | 3, _ => exact ⟨_, by omega, h⟩
 | 4, _ => exact ⟨_, by omega, h⟩
theorem fourb_cellsR (w : World) : ∀ k, k < 4 → ∃ z : Int, ((1 ≤ z ∧ z ≤ 1000) ∨ z = 60000) ∧ (w.alloc (.cells #[.int .i64 1, .int .i64 2, .int .i64 5, .int .i64 60000] 3)).cell? ⟨w.heap.size, k, none⟩ = some (.int .i64 z) := by
 intro k hk
 have h := cells_at (heap_alloc_new w (.cells #[.int .i64 1, .int .i64 2, .int .i64 5, .int .i64 60000] 3)) k
 match k, hk with
 | 0, _ => exact ⟨_, by omega, h⟩
 | 1, _ => exact ⟨_, by omega, h⟩
 | 2, _ => exact ⟨_, by omega, h⟩
 | 3, _ => exact ⟨_, by omega, h⟩
theorem recR_any (p : Nat) (a : Option Addr) (len cap : Nat) (w : World) (hc : Cur w p a len cap) :
  Calls Tryz.prog 73 #[.pointer (some ⟨p, 0, none⟩)] w fun e w' => ∃ (x : RecD) (v : Value), e = .returned (.agg (recC x v)) ∧ w'.ownsRow (w.heap.size + 1) 107 2 v x.near.length (flat nrE x.near) ∧ x.near.length ≤ 6 ∧ recOkB x = true ∧ Cur w' p a len cap ∧ w.grownBy w' (some p) := by
 have hp := lt_of_cur hc
 have HC := hide hc
 clear hc
 go_enter Tryz.func73, Tryz.ntmps73
 go_wp2_with fail
 refine (below_any p a len cap 3 _ (cur_alloc HC.out _) (by omega) (by omega)).mono ?_
 rintro e w1 ⟨y0, rfl, hy0, hy0', hc1, hg1⟩
 have r1 := hg1.block w.heap.size (by simp) (by simp; omega)
 rw [heap_alloc_new] at r1
 have b1 : w.grownBy w1 (some p) := gro_same (gro_alloc (gro_refl w _) _) hg1
 have C1 := hide hc1
 have R1 := hide r1
 have D1 := hide b1
 clear hc1 r1 b1 hg1 HC
 go_wp2_with fail
 refine (below_any p a len cap 4 _ C1.out (by omega) (by omega)).mono ?_
 rintro e w2 ⟨y1, rfl, hy1, hy1', hc2, hg2⟩
 have R2 := hide ((hg2.block _ (lt_of_heap R1.out) (by simp; omega)).trans R1.out)
 have D2 := hide (gro_same D1.out hg2)
 have C2 := hide hc2
 clear hc2 hg2 C1 R1 D1
 go_wp2_with fail
 refine (below_any p a len cap 3 _ C2.out (by omega) (by omega)).mono ?_
 rintro e w3 ⟨y2, rfl, hy2, hy2', hc3, hg3⟩
 have R3 := hide ((hg3.block _ (lt_of_heap R2.out) (by simp; omega)).trans R2.out)
 have D3 := hide (gro_same D2.out hg3)
 have C3 := hide hc3
 clear hc3 hg3 C2 R2 D2
 go_wp2_with fail
 refine (below_any p a len cap 5 _ C3.out (by omega) (by omega)).mono ?_
 rintro e w4 ⟨y3, rfl, hy3, hy3', hc4, hg4⟩
 have R4 := hide ((hg4.block _ (lt_of_heap R3.out) (by simp; omega)).trans R3.out)
 have D4 := hide (gro_same D3.out hg4)
 have hsz4 : w.heap.size < w4.heap.size := lt_of_heap R4.out
 have wr0 : IntKind.i64.wrap (1 + y0) = 1 + y0 := wrap_fit _ (by omega) (by omega)
 have wr1 : IntKind.i64.wrap (1 + y1) = 1 + y1 := wrap_fit _ (by omega) (by omega)
 have wr3 : IntKind.i64.wrap (1 + y3) = 1 + y3 := wrap_fit _ (by omega) (by omega)
 obtain ⟨x0, hx0⟩ : ∃ x : RecD, x = ⟨y2, 1 + y0, 1 + y1, 0, 1 + y3, [], 0, false⟩ := ⟨_, rfl⟩
 have st0 : RcSt w (w4.alloc (.cells #[.int .i64 y2, .int .i64 (1 + y0), .int .i64 (1 + y1), .int .i64 0, .int .i64 (1 + y3), .slice none 0 0, .int .i64 0, .bool false] 39)) p w.heap.size w4.heap.size a len cap (.slice none 0 0) x0 :=
  {cur := cur_alloc hc4 _
   low := Nat.le_refl _
   gro := gro_alloc D4.out _
   box := by rw [hx0]; exact heap_alloc_new w4 _
   res := (Below.heap_alloc _ _ _ hsz4).trans R4.out
   own := by rw [hx0]; exact ⟨rfl, .inl ⟨rfl, rfl⟩⟩
   djn := by simp [Value.ownBlock] }
 have ST0 := hide st0
 have HX0 := hide hx0
 have g1 := heap_alloc_new w4 (.cells #[.int .i64 y2, .int .i64 (1 + y0), .int .i64 (1 + y1), .int .i64 0, .int .i64 (1 + y3), .slice none 0 0, .int .i64 0, .bool false] 39)
 clear st0 hx0 hc4 hg4 R4 D4 C3 R3 D3 g1
 rcases (show y0 = 0 ∨ y0 = 1 ∨ y0 = 2 by omega) with rfl | rfl | rfl
 ·rw [show (1 : Int) + 0 = 1 from rfl] at ST0 HX0
  go_wp2
  obtain ⟨z, hz⟩ : ∃ z, z = w4.heap.size := ⟨_, rfl⟩
  rw [← hz] at ST0 hsz4 ⊢
  generalize w4.alloc (.cells #[.int .i64 y2, .int .i64 1, .int .i64 (1 + y1), .int .i64 0, .int .i64 (1 + y3), .slice none 0 0, .int .i64 0, .bool false] 39) = w5 at *
  clear hz
  have hw5 : p < w.heap.size := hp
  go_loopw [4] (fun i wr => ∃ (k : Nat) (l : List Nr) (va : Option Addr) (vc : Nat), 1 ≤ k ∧ k ≤ 7 ∧ i = .int .i64 k ∧ l.length + 1 ≤ k ∧ Hid (NearUp l k x0.owner) ∧ RcSt w wr p w.heap.size z a len cap (.slice va l.length vc) { x0 with near := l }) (fun i _ => 8 - (intOf i).toNat)
  case atStart =>
   refine ⟨1, [], none, 0, by omega, by omega, rfl, by simp, hide ⟨by simp, by simp⟩, ?_⟩
   have e := ST0.out
   rw [show x0 = { x0 with near := [] } by rw [HX0.out]] at e
   exact e
  case round =>
   clear ST0
   obtain ⟨k, l, va, vc, hk1, hk7, rfl, hll, HUP, st⟩ := hrel
   have c2 := cells_at st.box 2
   simp only [recC] at c2
   have c2' : wr.cell? ⟨z, 2, none⟩ = some (.int .i64 x0.owner) := c2
   clear c2
   have ST := hide st
   clear st
   by_cases hk : k < 7
   ·have hk6 : (k : Int) ≤ 6 := by omega
    by_cases ho : (k : Int) = x0.owner
    ·have hd : ((k : Int) != x0.owner) = false := by simpa using ho
     clear ho
     go_wp2
     exact ⟨⟨k + 1, l, va, vc, by omega, by omega, by go_num, by omega, hide (HUP.out.more (by omega)), ST.out⟩, by simp [intOf]; omega⟩
    ·have hd : ((k : Int) != x0.owner) = true := by simpa using ho
     have HO := hide ho
     clear ho
     go_wp2_with fail
     refine (once_any p a len cap 3 _ ST.out.cur (by omega) (by omega)).mono ?_
     rintro e w6 ⟨b, rfl, hc6, hg6⟩
     have ST6 := hide (ST.out.grown hc6 hg6 hp hsz4)
     clear hc6 hg6 ST c2'
     cases b
     ·go_wp2
      exact ⟨⟨k + 1, l, va, vc, by omega, by omega, by go_num, by omega, hide (HUP.out.more (by omega)), ST6.out⟩, by simp [intOf]; omega⟩
     ·go_wp2
      refine wp_region_noPanic ?_
      refine wp_region_start (S := fun _ => True) (by kernel_rfl) 11 rfl trivial ?_
      intro ops hops _
      refine rec_dag _ _ _ _ _ _ _ _ _ _ _ _ _ _ _ _ _ _ _ _ _ _ _ _ _ _ _ _ _ _ _ _ _ _ _ _ _ _ _ _ _ _ _ _ _ _ _ _ _ _ _ _ _ _ _ _ _ _ _ _ _ _ _ _ _ w _ p w.heap.size z a len cap va vc { x0 with near := l } (k : Int) _ ops hops (fun _ _ _ _ h => h) hp hsz4 (by show l.length ≤ 1000; omega) ST6.out.drew ?_
      intro W y na nc l' hl' hy0 hy1 st' sb
      refine NoPanic.normal ?_
      have hl7 : l'.length = l.length + 1 := by rw [hl'.out]; simp
      have HU7 := hide (show NearUp l' ((k + 1 : Nat) : Int) x0.owner by rw [hl'.out]; exact (HUP.out.push (by omega) HO.out hy0 hy1).more (by omega))
      have ST7 := hide st'
      clear st' hops ops
      go_wp2
      exact ⟨⟨k + 1, l', na, nc, by omega, by omega, by go_num, by omega, HU7, ST7.out⟩, by simp [intOf]; omega⟩
   ·have hk6 : ¬ (k : Int) ≤ 6 := by omega
    have HLL := hide hll
    have HRI := hide (show recOkB { x0 with near := l } = true by
     have h7 : NearUp l 7 x0.owner := HUP.out.more (by omega)
     rw [HX0.out] at h7 ⊢
     exact right_node hy1 hy1' hy2 hy2' hy3 hy3' h7)
    clear c2'
    have yb := ST.out.box
    have ub := ST.out.res
    unfold recC at yb
    unfold zeroC at ub
    (try simp only [] at yb)
    have y0 := cells_at yb 0
    have y1 := cells_at yb 1
    have y2 := cells_at yb 2
    have y3 := cells_at yb 3
    have y4 := cells_at yb 4
    have y5 := cells_at yb 5
    have y6 := cells_at yb 6
    have y7 := cells_at yb 7
    have u0 := cells_at ub 0
    have u1 := cells_at ub 1
    have u2 := cells_at ub 2
    have u3 := cells_at ub 3
    have u4 := cells_at ub 4
    have u5 := cells_at ub 5
    have u6 := cells_at ub 6
    have u7 := cells_at ub 7
    simp at y0 y1 y2 y3 y4 y5 y6 y7 u0 u1 u2 u3 u4 u5 u6 u7
    have fu := frozen_at ub
    clear yb ub
    go_wp2_with fail
    (try simp only [Exit.inBlock, Exit.then])
    have F := ST.out.fin hp (by have := lt_of_heap ST.out.box; omega)
    refine bodyPost_ret (results_cell_row rfl _ _ w.heap.size 39 (recC _ _) (0, 0) _ rfl F.1 Tryz.underlying39 rfl (by kernel_rfl)) rfl ?_
    exact ⟨_, _, rfl, F.2.2.2, (by show l.length ≤ 6; have := HLL.out; omega), HRI.out, F.2.1, F.2.2.1⟩
 ·rw [show (1 : Int) + 1 = 2 from rfl] at ST0 HX0
  have hz0 : w4.heap.size = w4.heap.size := rfl
  go_wp2_with fail
  obtain ⟨z, hz⟩ : ∃ z, z = w4.heap.size := ⟨_, rfl⟩
  rw [← hz] at ST0 hsz4 ⊢
  generalize w4.alloc (.cells #[.int .i64 y2, .int .i64 2, .int .i64 (1 + y1), .int .i64 0, .int .i64 (1 + y3), .slice none 0 0, .int .i64 0, .bool false] 39) = w5 at *
  clear hz hz0
  refine (below_any p a len cap 5 _ ST0.out.cur (by omega) (by omega)).mono ?_
  rintro e w6 ⟨y4, rfl, hy4, hy4', hc6, hg6⟩
  have ST6 := hide (ST0.out.grown hc6 hg6 hp hsz4)
  have wr4 : IntKind.i64.wrap (1 + y4) = 1 + y4 := wrap_fit _ (by omega) (by omega)
  have sb := ST6.out.box
  unfold recC at sb
  have s3 := cells_at sb 3
  have f3 := frozen_at sb
  simp at s3
  have ST7 := hide (ST6.out.set 3 (.int .i64 (1 + y4)) { x0 with key := 1 + y4 } rfl rfl hp hsz4)
  clear hc6 hg6 ST0 ST6 sb
  have hs7 : (w6.setCell ⟨z, 3, none⟩ (.int .i64 (1 + y4))).heap.size = w6.heap.size := by simp
  have fc := five_cellsR (w6.setCell ⟨z, 3, none⟩ (.int .i64 (1 + y4)))
  rw [hs7] at fc
  have FC := hide fc
  have hp6 : p < w6.heap.size := by have := lt_of_cur ST7.out.cur; omega
  clear hs7 fc
  go_wp2_with fail
  refine (pickR_any (fun z => 0 ≤ z ∧ z ≤ 60000) p a len cap w6.heap.size 5 _ (cur_alloc ST7.out.cur _) (by omega) (by omega) (by omega) FC.out).mono ?_
  rintro e w8 ⟨y5, rfl, hp5, hc8, hg8⟩
  have ST8 := hide ((ST7.out.alloc _).grown hc8 hg8 hp hsz4)
  have sb := ST8.out.box
  unfold recC at sb
  have s6 := cells_at sb 6
  have f6 := frozen_at sb
  simp at s6
  have ST9 := hide (ST8.out.set 6 (.int .i64 y5) { x0 with key := 1 + y4, cost := y5 } rfl rfl hp hsz4)
  have HRI := hide (show recOkB { x0 with key := 1 + y4, cost := y5 } = true by rw [HX0.out]; exact right_beyond hy1 hy1' hy2 hy2' hy3 hy3' hy4 hy4' hp5.1 hp5.2)
  have HL0 := hide (show x0.near.length ≤ 6 by rw [HX0.out]; simp)
  clear hc8 hg8 ST7 ST8 sb s3 f3 FC
  have yb := ST9.out.box
  have ub := ST9.out.res
  unfold recC at yb
  unfold zeroC at ub
  (try simp only [] at yb)
  have y0 := cells_at yb 0
  have y1 := cells_at yb 1
  have y2 := cells_at yb 2
  have y3 := cells_at yb 3
  have y4 := cells_at yb 4
  have y5 := cells_at yb 5
  have y6 := cells_at yb 6
  have y7 := cells_at yb 7
  have u0 := cells_at ub 0
  have u1 := cells_at ub 1
  have u2 := cells_at ub 2
  have u3 := cells_at ub 3
  have u4 := cells_at ub 4
  have u5 := cells_at ub 5
  have u6 := cells_at ub 6
  have u7 := cells_at ub 7
  simp at y0 y1 y2 y3 y4 y5 y6 y7 u0 u1 u2 u3 u4 u5 u6 u7
  have fu := frozen_at ub
  clear yb ub
  go_wp2_with fail
  (try simp only [Exit.inBlock, Exit.then])
  have F := ST9.out.fin hp (by have := lt_of_heap ST9.out.box; omega)
  refine bodyPost_ret (results_cell_row rfl _ _ w.heap.size 39 (recC _ _) (0, 0) _ rfl F.1 Tryz.underlying39 rfl (by kernel_rfl)) rfl ?_
  exact ⟨_, _, rfl, F.2.2.2, HL0.out, HRI.out, F.2.1, F.2.2.1⟩
 ·rw [show (1 : Int) + 2 = 3 from rfl] at ST0 HX0
  have hz0 : w4.heap.size = w4.heap.size := rfl
  have ST5 := hide (ST0.out.set 0 (.int .i64 9) { x0 with area := 9 } rfl rfl hp hsz4)
  rw [World.setCell_alloc_new] at ST5
  go_wp2_with fail
  obtain ⟨z, hz⟩ : ∃ z, z = w4.heap.size := ⟨_, rfl⟩
  rw [← hz] at ST0 ST5 hsz4 ⊢
  have ST5' : Hid (RcSt w (w4.alloc (.cells #[.int .i64 9, .int .i64 3, .int .i64 (1 + y1), .int .i64 0, .int .i64 (1 + y3), .slice none 0 0, .int .i64 0, .bool false] 39)) p w.heap.size z a len cap (.slice none 0 0) { x0 with area := 9 }) := ST5
  clear ST5
  have ST5 := ST5'
  clear ST5' ST0
  generalize w4.alloc (.cells #[.int .i64 9, .int .i64 3, .int .i64 (1 + y1), .int .i64 0, .int .i64 (1 + y3), .slice none 0 0, .int .i64 0, .bool false] 39) = w5 at *
  clear hz hz0
  refine (below_any p a len cap 3 _ ST5.out.cur (by omega) (by omega)).mono ?_
  rintro e w6 ⟨y4, rfl, hy4, hy4', hc6, hg6⟩
  have ST6 := hide (ST5.out.grown hc6 hg6 hp hsz4)
  have wr4 : IntKind.i64.wrap (1 + y4) = 1 + y4 := wrap_fit _ (by omega) (by omega)
  have sb := ST6.out.box
  unfold recC at sb
  have s3 := cells_at sb 3
  have f3 := frozen_at sb
  simp at s3
  have ST7 := hide (ST6.out.set 3 (.int .i64 (1 + y4)) { x0 with area := 9, key := 1 + y4 } rfl rfl hp hsz4)
  clear hc6 hg6 ST5 ST6 sb
  have hs7 : (w6.setCell ⟨z, 3, none⟩ (.int .i64 (1 + y4))).heap.size = w6.heap.size := by simp
  have fc := fourb_cellsR (w6.setCell ⟨z, 3, none⟩ (.int .i64 (1 + y4)))
  rw [hs7] at fc
  have FC := hide fc
  have hp6 : p < w6.heap.size := by have := lt_of_cur ST7.out.cur; omega
  clear hs7 fc
  go_wp2_with fail
  refine (pickR_any (fun z => (1 ≤ z ∧ z ≤ 1000) ∨ z = 60000) p a len cap w6.heap.size 4 _ (cur_alloc ST7.out.cur _) (by omega) (by omega) (by omega) FC.out).mono ?_
  rintro e w8 ⟨y5, rfl, hp5, hc8, hg8⟩
  have ST8 := hide ((ST7.out.alloc _).grown hc8 hg8 hp hsz4)
  have sb := ST8.out.box
  unfold recC at sb
  have s6 := cells_at sb 6
  have f6 := frozen_at sb
  simp at s6
  have ST9 := hide (ST8.out.set 6 (.int .i64 y5) { x0 with area := 9, key := 1 + y4, cost := y5 } rfl rfl hp hsz4)
  have HL0 := hide (show x0.near.length ≤ 6 by rw [HX0.out]; simp)
  clear hc8 hg8 ST7 ST8 sb s3 f3 FC
  go_wp2_with fail
  refine (once_any p a len cap 2 _ ST9.out.cur (by omega) (by omega)).mono ?_
  rintro e wA ⟨b, rfl, hcA, hgA⟩
  have STA := hide (ST9.out.grown hcA hgA hp hsz4)
  have sb := STA.out.box
  unfold recC at sb
  have s7 := cells_at sb 7
  have f7 := frozen_at sb
  simp at s7
  have STB := hide (STA.out.set 7 (.bool b) { x0 with area := 9, key := 1 + y4, cost := y5, far := b } rfl rfl hp hsz4)
  have HRI := hide (show recOkB { x0 with area := 9, key := 1 + y4, cost := y5, far := b } = true by rw [HX0.out]; exact right_thing hy1 hy1' hy3 hy3' hy4 hy4' hp5)
  clear hcA hgA ST9 STA sb s6 f6
  have yb := STB.out.box
  have ub := STB.out.res
  unfold recC at yb
  unfold zeroC at ub
  (try simp only [] at yb)
  have y0 := cells_at yb 0
  have y1 := cells_at yb 1
  have y2 := cells_at yb 2
  have y3 := cells_at yb 3
  have y4 := cells_at yb 4
  have y5 := cells_at yb 5
  have y6 := cells_at yb 6
  have y7 := cells_at yb 7
  have u0 := cells_at ub 0
  have u1 := cells_at ub 1
  have u2 := cells_at ub 2
  have u3 := cells_at ub 3
  have u4 := cells_at ub 4
  have u5 := cells_at ub 5
  have u6 := cells_at ub 6
  have u7 := cells_at ub 7
  simp at y0 y1 y2 y3 y4 y5 y6 y7 u0 u1 u2 u3 u4 u5 u6 u7
  have fu := frozen_at ub
  clear yb ub
  go_wp2_with fail
  (try simp only [Exit.inBlock, Exit.then])
  have F := STB.out.fin hp (by have := lt_of_heap STB.out.box; omega)
  refine bodyPost_ret (results_cell_row rfl _ _ w.heap.size 39 (recC _ _) (0, 0) _ rfl F.1 Tryz.underlying39 rfl (by kernel_rfl)) rfl ?_
  exact ⟨_, _, rfl, F.2.2.2, HL0.out, HRI.out, F.2.1, F.2.2.1⟩
theorem run_copy_rowS {P : Program} (w : World) (dT sT ty elem : TypeId) (g o dLen dCap : Nat) (a : Addr) (sLen sCap sz : Nat) (cur : Array Value) (t : TypeId) (cs : List Value)
  (hu : P.underlying dT = some (.slice elem)) (hs : (P.info? elem).map (·.size) = some sz)
  (hg : w.heap[g]? = some (.cells cur t (0, 0))) (hn : cs.length = Nat.min sLen dLen * sz)
  (hsrc : ∀ j v, cs[j]? = some v → w.cell? (a.add j) = some v) (hfit : o + cs.length ≤ cur.size) (h1 : ∀ v ∈ cs, v.oneCell' = true) :
  (Builtin.copy_ #[dT, sT] ty #[.slice (some ⟨g, o, none⟩) dLen dCap, .slice (some a) sLen sCap]).run P w =
   .ok (goInt (Nat.min sLen dLen)) (w.setRow g (cur.toList.take o ++ cs ++ cur.toList.drop (o + cs.length)).toArray) := by
 have hl := run_loadCells_list (P := P) w a cs hsrc
 have hst := run_storeCells_at P g o t cs 0 cur w hg (by simpa using hfit) h1
 cases hq : P.info? elem with
 | none => simp [hq] at hs
 | some i =>
  have hi : i.size = sz := by simpa [hq] using hs
  simp [Builtin.copy_, run_underlying hu, Builtin.lenOf, Builtin.firstCells, sizeOf, typeInfo, hq, hi, ← hn, hl, hst]
theorem append_types {P : Program} (w : World) (t t2 ty e : TypeId) (i : TypeInfo) (ht : P.underlying t = some (.slice e)) (ht2 : P.underlying t2 = some (.slice e)) (hi : P.info? e = some i) (b : Option Addr) (n c : Nat) (x : Value) :
  (Builtin.append_ #[t, t2] ty #[.slice b n c, x]).run P w = (Builtin.append_ #[t, t] ty #[.slice b n c, x]).run P w := by
 simp [Builtin.append_, run_underlying ht, run_underlying ht2, sizeOf, typeInfo, hi]
theorem seg_len (cur D R : List Value) (a d : Nat) (hD : D.length = d) (hR : R.length = 8) (hc : a + 8 + d ≤ cur.length) :
  ((cur.take (a + 8) ++ D ++ cur.drop (a + 8 + D.length)).take a ++ R ++ (cur.take (a + 8) ++ D ++ cur.drop (a + 8 + D.length)).drop (a + R.length)) = cur.take a ++ R ++ D ++ cur.drop (a + 8 + d) := by
 have e1 : (cur.take (a + 8) ++ D ++ cur.drop (a + 8 + D.length)).take a = cur.take a := by
  rw [List.append_assoc, List.take_append_of_le_length (by simp; omega), List.take_take, Nat.min_eq_left (by omega)]
 have e2 : (cur.take (a + 8) ++ D ++ cur.drop (a + 8 + D.length)).drop (a + R.length) = D ++ cur.drop (a + 8 + d) := by
  rw [hR, List.append_assoc, List.drop_append_of_le_length (by simp; omega), List.drop_of_length_le (by simp; omega), List.nil_append, hD]
 rw [e1, e2, List.append_assoc, List.append_assoc, List.append_assoc]
theorem take_of_parts {A B C D : List Value} {n : Nat} (h : A.length + B.length + C.length = n) : (A ++ B ++ C ++ D).take n = A ++ B ++ C := by
 rw [List.take_append_of_le_length (by simp; omega), List.take_of_length_le (by simp; omega)]
theorem flat_take (ps : List RP) (i : Nat) (h : i ≤ ps.length) : (flat encP ps).take (i * 8) = flat encP (ps.take i) := by
 conv => lhs; rw [← List.take_append_drop i ps, flat_append]
 have e : (flat encP (ps.take i)).length = i * 8 := by rw [flat_len encP_len, List.length_take, Nat.min_eq_left h]
 rw [← e, List.take_left]
theorem flat_drop (ps : List RP) (i : Nat) (h : i ≤ ps.length) : (flat encP ps).drop (i * 8) = flat encP (ps.drop i) := by
 conv => lhs; rw [← List.take_append_drop i ps, flat_append]
 have e : (flat encP (ps.take i)).length = i * 8 := by rw [flat_len encP_len, List.length_take, Nat.min_eq_left h]
 rw [← e, List.drop_left]
theorem flat_one (r : RP) : flat encP [r] = encP r := by simp [flat]
theorem flat_ins (ps : List RP) (r : RP) (i : Nat) : flat encP (ps.take i ++ [r] ++ ps.drop i) = flat encP (ps.take i) ++ encP r ++ flat encP (ps.drop i) := by
 rw [flat_append, flat_append, flat_one]
theorem ins_len (ps : List RP) (r : RP) (i : Nat) (h : i ≤ ps.length) : (ps.take i ++ [r] ++ ps.drop i).length = ps.length + 1 := by
 simp
 omega
theorem flat_oneCell (ps : List RP) (h : ∀ p ∈ ps, ∃ a n c, p.2 = .slice a n c) : ∀ u ∈ flat encP ps, u.oneCell' = true := by
 intro u hu
 simp only [flat, List.mem_flatMap] at hu
 obtain ⟨p, hp, hu⟩ := hu
 obtain ⟨a, n, c, e⟩ := h p hp
 obtain ⟨x, v⟩ := p
 simp only at e
 subst e
 exact encP_one x a n c u hu
theorem add8 (g o j : Nat) : (⟨g, o, none⟩ : Addr).add j = ⟨g, o + j, none⟩ := by
 simp only [Addr.add]
 split <;> simp_all
def GrownV (w w' : World) (row : Option Nat) (v : Value) : Prop := w.grownBy w' row ∧ ∀ k, v.ownBlock = some k → row = some k ∨ w.heap.size ≤ k
theorem append_blk {P : Program} (w : World) (base : Nat) (t ty e : TypeId) (i : TypeInfo) (z : Value) (ht : P.underlying t = some (.slice e)) (hi : P.info? e = some i) (hz : i.zero = some z)
  (v : Value) (n : Nat) (xs : List Value) (hown : w.ownsRow base e i.size v n xs) (a : Addr) (m c : Nat) (news : List Value) (hl : news.length = m * i.size) (hnews : ∀ j u, news[j]? = some u → w.cell? (a.add j) = some u) (h1 : ∀ u ∈ news, u.oneCell' = true)
  (hm : 0 < m) (h63 : n + m ≤ maxLen) (hbytes : (n + m) * i.bytes ≤ 140737488355328) {v' : Value} {w' : World} (hr : (Builtin.append_ #[t, t] ty #[v, .slice (some a) m c]).run P w = .ok v' w') : ∀ k, v'.ownBlock = some k → v.ownBlock = some k ∨ w.heap.size ≤ k := by
 have hsmall : n + m ≤ 9223372036854775807 := by simp only [maxLen] at h63; omega
 intro k hk
 rcases hown.2 with ⟨rfl, rfl⟩ | ⟨g, cap, cur, rfl, hbg, hg, hnc, hcm, hcs, htake⟩
 ·have h2 := run_append_nil (P := P) w t ty e i z ht hi hz a m c news hl hnews (by omega) (by omega) (by have hb := hbytes; simp only [Nat.zero_add] at hb; omega)
  rw [h2] at hr
  cases hr
  simp [Value.ownBlock] at hk
  exact .inr (by omega)
 ·by_cases hroom : n + m ≤ cap
  ·have hfit : n * i.size + news.length ≤ cur.size := by rw [hl, hcs, ← Nat.add_mul]; exact Nat.mul_le_mul_right _ hroom
   have h2 := run_append_room (P := P) w t ty e i ht hi g n cap cur hg a m c news hl hnews h1 hroom hfit
   rw [h2] at hr
   cases hr
   exact .inl hk
  ·have h2 := run_append_grow (P := P) w t ty e i z ht hi hz ⟨g, 0, none⟩ n cap xs hown.1 (hown.cells (g := g) rfl) a m c news hl hnews (by omega) (by omega) (growslice_fits (by omega) hbytes)
   rw [h2] at hr
   cases hr
   simp [Value.ownBlock] at hk
   exact .inr (by omega)
theorem ins_shift (base g cap n m i vb : Nat) (ps : List RP) (r : RP) (w : World) (hnp : n = ps.length) (hm : m = 1) (hrow : w.ownsRow base 39 8 (.slice (some ⟨g, 0, none⟩) n cap) n (flat encP ps)) (hi : i < n) (hroom : n + m ≤ cap)
  (hvb : w.heap[vb]? = some (.cells (encP r).toArray 39 (0, 0))) (hne : vb ≠ g) (hone : ∀ p ∈ ps, ∃ a k c, p.2 = .slice a k c) (hr1 : ∀ u ∈ encP r, u.oneCell' = true) :
  Calls Tryz.prog 188 #[.slice (some ⟨g, 0, none⟩) n cap, .int .i64 (i : Int), .slice (some ⟨vb, 0, none⟩) m 1] w fun e w' => ∃ v, e = .returned v ∧ w'.ownsRow base 39 8 v (n + m) (flat encP (ps.take i ++ [r] ++ ps.drop i)) ∧ GrownV w w' (some g) v := by
 have hnl : (flat encP ps).length = n * 8 := hrow.1
 have hui := Tryz.underlying97
 have hus := Tryz.underlying29
 obtain ⟨i0, hi0, hz0, hzs, hzb⟩ := info_parts Tryz.infoRec
 have hsz : (Tryz.prog.info? 39).map (·.size) = some 8 := by rw [hi0]; simp [hzs]
 rcases hrow.2 with ⟨h0, _⟩ | ⟨g', cap', cur, hv, hbg, hg, hnc, hcm, hcs, htk⟩
 ·simp at h0
 simp at hv
 obtain ⟨rfl, rfl⟩ := hv
 have hmx : maxLen = 9223372036854775807 ∨ maxLen ≤ 9223372036854775807 := by unfold maxLen; omega
 have hc63 : cap ≤ 9223372036854775807 := by omega
 have hD : (flat encP (ps.drop i)).length = (n - i) * 8 := by rw [flat_len encP_len, List.length_drop, ← hnp]
 have hclen : cur.toList.length = cap * 8 := by simpa using hcs
 have hRl : (encP r).length = 8 := encP_len r
 have hov : ∀ lb cb, (callFunc 230 #[.slice (some ⟨vb, 0, none⟩) m 1, .slice (some ⟨g, (i + m) * 8, none⟩) lb cb]).run Tryz.prog w = .ok (.value (.bool false)) w := fun lb cb => by
  rw [run_callFunc_extern Tryz.func230 (by kernel_rfl) (by kernel_rfl) (by kernel_rfl) (e := Extern.SlicesOverlaps.overlaps #[29, 29] #[4]) (by kernel_rfl),
   Lib.run_overlaps_apart w 29 4 39 hus 8 (by intro w; simp [Go.sizeOf, typeInfo, hi0, hzs]) ⟨vb, 0, none⟩ ⟨g, (i + m) * 8, none⟩ m 1 lb cb hne 39 39 8 cur.size (by simp [World.shape?, hvb, hRl]) (by simp [World.shape?, hg]) (by omega) (frozen_at hvb 0) (frozen_at hvb 8)]
  rfl
 have hcell : ∀ (W : World), W.heap = w.heap → ∀ j u, (flat encP (ps.drop i))[j]? = some u → W.cell? ((⟨g, i * 8, none⟩ : Addr).add j) = some u := fun W hW j u hj => by
  rw [add8]
  simp only [World.cell?, hW, hg]
  rw [← flat_drop ps i (by omega), ← htk, List.getElem?_drop] at hj
  have h2 : i * 8 + j < n * 8 := by
   have h3 := (List.getElem?_eq_some_iff.1 hj).1
   rw [List.length_take] at h3
   omega
  rw [List.getElem?_take_of_lt h2] at hj
  simpa using hj
 have hcp1 : ∀ (W : World), W.heap = w.heap → ∀ ty dc sc, (Builtin.copy_ #[97, 97] ty #[.slice (some ⟨g, (i + m) * 8, none⟩) (n + m - (i + m)) dc, .slice (some ⟨g, i * 8, none⟩) (n + m - i) sc]).run Tryz.prog W = .ok (goInt (Nat.min (n + m - i) (n + m - (i + m)))) (W.setRow g (cur.toList.take ((i + m) * 8) ++ flat encP (ps.drop i) ++ cur.toList.drop ((i + m) * 8 + (flat encP (ps.drop i)).length)).toArray) := fun W hW ty dc sc =>
  run_copy_rowS W 97 97 ty 39 g ((i + m) * 8) (n + m - (i + m)) dc ⟨g, i * 8, none⟩ (n + m - i) sc 8 cur 39 (flat encP (ps.drop i)) hui hsz (by rw [hW]; exact hg)
   (by rw [hD]; congr 1; have : Nat.min (n + m - i) (n + m - (i + m)) = n + m - (i + m) := Nat.min_eq_right (by omega); omega) (hcell W hW) (by rw [hD]; omega) (flat_oneCell _ (fun p hp => hone p (List.mem_of_mem_drop hp)))
 obtain ⟨c1, hc1⟩ : ∃ c1, c1 = cur.toList.take ((i + m) * 8) ++ flat encP (ps.drop i) ++ cur.toList.drop ((i + m) * 8 + (flat encP (ps.drop i)).length) := ⟨_, rfl⟩
 rw [← hc1] at hcp1
 have hc1l : c1.length = cap * 8 := by rw [hc1]; simp only [List.length_append, List.length_take, List.length_drop, hclen, hD]; omega
 have hcp2 : ∀ (W : World), W.heap = (w.setRow g c1.toArray).heap → ∀ ty dc, (Builtin.copy_ #[97, 29] ty #[.slice (some ⟨g, i * 8, none⟩) (n + m - i) dc, .slice (some ⟨vb, 0, none⟩) m 1]).run Tryz.prog W = .ok (goInt (Nat.min m (n + m - i))) (W.setRow g (c1.take (i * 8) ++ encP r ++ c1.drop (i * 8 + (encP r).length)).toArray) := fun W hW ty dc => by
  have h := run_copy_rowS (P := Tryz.prog) W 97 29 ty 39 g (i * 8) (n + m - i) dc ⟨vb, 0, none⟩ m 1 8 c1.toArray 39 (encP r) hui hsz (by rw [hW]; exact setRow_heap w g cur _ 39 _ hg)
   (by rw [hRl]; have : Nat.min m (n + m - i) = m := Nat.min_eq_left (by omega); omega) (fun j u hj => by
    rw [add8]
    simp only [World.cell?, hW]
    rw [setRow_other w g vb _ hne, hvb]
    simpa using hj) (by rw [hRl]; simp only [List.size_toArray, hc1l]; omega) hr1
  simpa using h
 have hfin : c1.take (i * 8) ++ encP r ++ c1.drop (i * 8 + (encP r).length) = flat encP (ps.take i) ++ encP r ++ flat encP (ps.drop i) ++ cur.toList.drop (i * 8 + 8 + (n - i) * 8) := by
  have h := seg_len cur.toList (flat encP (ps.drop i)) (encP r) (i * 8) ((n - i) * 8) hD hRl (by omega)
  rw [show i * 8 + 8 = (i + m) * 8 by omega, ← hc1] at h
  rw [h]
  congr 3
  ·rw [← flat_take ps i (by omega), ← htk, List.take_take, Nat.min_eq_left (by omega)]
  ·omega
 have hdone : ∀ W : World, W.heap = ((w.setRow g c1.toArray).setRow g (c1.take (i * 8) ++ encP r ++ c1.drop (i * 8 + (encP r).length)).toArray).heap → W.os = w.os → W.tape = w.tape → W.output = w.output → W.ownsRow base 39 8 (.slice (some ⟨g, 0, none⟩) (n + m) cap) (n + m) (flat encP (ps.take i ++ [r] ++ ps.drop i)) ∧ GrownV w W (some g) (.slice (some ⟨g, 0, none⟩) (n + m) cap) := by
  intro W hW h1 h2 h3
  have hAl : (flat encP (ps.take i)).length = i * 8 := by rw [flat_len encP_len, List.length_take, Nat.min_eq_left (by omega)]
  refine ⟨⟨?_, .inr ⟨g, cap, (flat encP (ps.take i) ++ encP r ++ flat encP (ps.drop i) ++ cur.toList.drop (i * 8 + 8 + (n - i) * 8)).toArray, rfl, hbg, ?_, hroom, hcm, ?_, ?_⟩⟩, ⟨⟨h1, h2, h3, ?_, ?_⟩, fun k hk => .inl hk⟩⟩
  ·rw [flat_len encP_len, ins_len ps r i (by omega)]; omega
  ·rw [hW, hfin]
   exact setRow_heap _ g c1.toArray _ 39 _ (setRow_heap w g cur _ 39 _ hg)
  ·simp only [List.size_toArray, List.length_append, List.length_drop, hclen, hD, hRl, hAl]; omega
  ·rw [flat_ins]
   exact take_of_parts (by rw [hAl, hRl, hD]; omega)
  ·rw [hW]; simp
  ·intro k _ hk
   have hkg : k ≠ g := fun e => hk (by rw [e])
   rw [hW, setRow_other _ g k _ hkg, setRow_other _ g k _ hkg]
 have hz1 : ¬ ((m : Int) = 0) := by omega
 have hz2 : ¬ ((i : Int) = (n : Int)) := by omega
 have hw1 : IntKind.i64.wrap ((i : Int) + (m : Int)) = (i : Int) + (m : Int) := by rw [IntKind.wrap_i64]; omega
 have hw2 : IntKind.i64.wrap ((n : Int) + (m : Int)) = (n : Int) + (m : Int) := by rw [IntKind.wrap_i64]; omega
 have hb1 : (0 : Int) ≤ (i : Int) + (m : Int) := by omega
 have hin : i ≤ n := by omega
 have htn : ((i : Int) + (m : Int)).toNat = i + m := by omega
 have htn2 : ((n : Int) + (m : Int)).toNat = n + m := by omega
 have hb2 : ¬ (cap = i + m) := by omega
 have hb3 : (i : Int) ≤ (n : Int) + (m : Int) := by omega
 have hb4 : ¬ (cap = i) := by omega
 have hb5 : ¬ ((cap : Int) < (n : Int) + (m : Int)) := by omega
 have HD := hide hdone
 have HC1 := hide (hcp1 w.drew rfl)
 have mixed : Tryz.prog.follows .mixedOrders = true := by kernel_rfl
 have HC2 := hide (hcp2 (w.drew.setRow g c1.toArray) rfl)
 have HOV := hide hov
 clear hdone hcp1 hcp2 hfin hc1 hcell hD hclen hRl hnl hov hc1l htk hcs hg hrow hvb hone hr1 hmx hsz hi0 hz0 hzs hzb hm hnp
 go_enter Tryz.func188, Tryz.ntmps188
 go_wp2_with (simp only [HOV.out])
 go_region_law_o (refine step_copy_runI rfl _ _ 97 97 rfl (.slice (some ⟨g, (i + m) * 8, none⟩) (n + m - (i + m)) (cap - (i + m))) (.slice (some ⟨g, i * 8, none⟩) (n + m - i) (cap - i)) (by simp [Act.eval, Act.put]) (by simp [Act.eval, Act.put]) (HC1.out 3 (cap - (i + m)) (cap - i)) ?_)
 go_wp2_with (refine wpList_copy_runI _ rfl _ _ 97 29 rfl (.slice (some ⟨g, i * 8, none⟩) (n + m - i) (cap - i)) (.slice (some ⟨vb, 0, none⟩) m 1) rfl rfl (HC2.out 3 (cap - i)) ?_)
 go_ret
 exact ⟨_, rfl, HD.out _ (by rw [← List.append_assoc]; rfl) rfl rfl rfl⟩
theorem run_append_end (base n m vb : Nat) (v : Value) (ps : List RP) (r : RP) (w : World) (hnp : n = ps.length) (hm : m = 1) (hbase : base ≤ w.heap.size) (hn : n ≤ 1048576) (hrow : w.ownsRow base 39 8 v n (flat encP ps))
  (hvb : w.heap[vb]? = some (.cells (encP r).toArray 39 (0, 0))) (hr1 : ∀ u ∈ encP r, u.oneCell' = true) : ∃ v' w', (∀ ty, (Builtin.append_ #[97, 29] ty #[v, .slice (some ⟨vb, 0, none⟩) m 1]).run Tryz.prog w = .ok v' w') ∧ w'.ownsRow base 39 8 v' (n + m) (flat encP (ps.take n ++ [r] ++ ps.drop n)) ∧ GrownV w w' v.ownBlock v' := by
 obtain ⟨i0, hi0, hz0, hzs, hzb⟩ := info_parts Tryz.infoRec
 obtain ⟨a, c, hv⟩ := owns_lenS hrow
 obtain ⟨v', w', h1, h2, h3, _⟩ := run_append_own (P := Tryz.prog) w base 97 97 39 i0 _ 8 i0.bytes Tryz.underlying97 hi0 hz0 hzs rfl rfl (by omega) v n (flat encP ps) hrow ⟨vb, 0, none⟩ m 1 (encP r) (by rw [encP_len, hm]) (fun j u hj => by
  rw [add8, Nat.zero_add, cells_at hvb]
  simpa using hj) hr1 (by unfold maxLen; omega) (by rw [hzb]; omega) hbase
 refine ⟨v', w', fun ty => ?_, ?_, h3, ?_⟩
 ·rw [hv, append_types w 97 29 ty 39 i0 Tryz.underlying97 Tryz.underlying29 hi0, ← hv]
  exact h1
 ·rw [flat_ins, hnp, List.take_length, List.drop_length]
  rw [hnp] at h2
  simpa [flat] using h2
 ·refine append_blk (P := Tryz.prog) w base 97 97 39 i0 _ Tryz.underlying97 hi0 hz0 v n (flat encP ps) (by rw [hzs]; exact hrow) ⟨vb, 0, none⟩ m 1 (encP r) (by rw [encP_len, hm, hzs]) (fun j u hj => by
   rw [add8, Nat.zero_add, cells_at hvb]
   simpa using hj) hr1 (by omega) (by unfold maxLen; omega) (by rw [hzb]; omega) h1
theorem ins_end (base n m vb : Nat) (v : Value) (ps : List RP) (r : RP) (w : World) (hnp : n = ps.length) (hm : m = 1) (hbase : base ≤ w.heap.size) (hn : n ≤ 1048576) (hrow : w.ownsRow base 39 8 v n (flat encP ps))
  (hvb : w.heap[vb]? = some (.cells (encP r).toArray 39 (0, 0))) (hr1 : ∀ u ∈ encP r, u.oneCell' = true) :
  Calls Tryz.prog 188 #[v, .int .i64 (n : Int), .slice (some ⟨vb, 0, none⟩) m 1] w fun e w' => ∃ v', e = .returned v' ∧ w'.ownsRow base 39 8 v' (n + m) (flat encP (ps.take n ++ [r] ++ ps.drop n)) ∧ GrownV w w' v.ownBlock v' := by
 obtain ⟨v', w', h1, h2, h3⟩ := run_append_end base n m vb v ps r w hnp hm hbase hn hrow hvb hr1
 obtain ⟨va, vc, hve⟩ := owns_lenS h2
 subst hve
 have HR := hide h1
 generalize ps.take n ++ [r] ++ ps.drop n = l at *
 have H2 := hide h2
 have H3 := hide h3
 have hz1 : ¬ ((m : Int) = 0) := by omega
 clear h1 h2 h3 hvb hr1 hm hnp
 rcases hrow.2 with ⟨h0, hn0⟩ | ⟨g, cap, cur, hv, hbg, hg, hnc, hcm, hcs, htk⟩
 ·subst h0
  clear hrow
  subst hn0
  go_enter Tryz.func188, Tryz.ntmps188
  go_wp2_with (at_builtin; refine Lib.wpList_append_run _ rfl _ _ _ _ rfl _ _ rfl rfl _ _ (HR.out _) ?_)
  go_ret
  exact ⟨_, rfl, (by simpa using H2.out), by simpa using H3.out⟩
 ·subst hv
  have hc63 : cap ≤ 9223372036854775807 := by unfold maxLen at hcm; omega
  clear hrow hg hcs htk
  go_enter Tryz.func188, Tryz.ntmps188
  go_wp2_with (at_builtin; refine Lib.wpList_append_run _ rfl _ _ _ _ rfl _ _ rfl rfl _ _ (HR.out _) ?_)
  all_goals (go_ret; exact ⟨_, rfl, H2.out, H3.out⟩)
theorem ins_grow (base g cap n m i vb : Nat) (ps : List RP) (r : RP) (w : World) (hnp : n = ps.length) (hm : m = 1) (hbase : base ≤ w.heap.size) (hn : n ≤ 1048576) (hrow : w.ownsRow base 39 8 (.slice (some ⟨g, 0, none⟩) n cap) n (flat encP ps)) (hi : i < n) (hroom : cap < n + m)
  (hvb : w.heap[vb]? = some (.cells (encP r).toArray 39 (0, 0))) (hone : ∀ p ∈ ps, ∃ a k c, p.2 = .slice a k c) (hr1 : ∀ u ∈ encP r, u.oneCell' = true) :
  Calls Tryz.prog 188 #[.slice (some ⟨g, 0, none⟩) n cap, .int .i64 (i : Int), .slice (some ⟨vb, 0, none⟩) m 1] w fun e w' => ∃ v, e = .returned v ∧ w'.ownsRow base 39 8 v (n + m) (flat encP (ps.take i ++ [r] ++ ps.drop i)) ∧ GrownV w w' (some g) v := by
 have hnl : (flat encP ps).length = n * 8 := hrow.1
 have hui := Tryz.underlying97
 have hus := Tryz.underlying29
 obtain ⟨i0, hi0, hz0, hzs, hzb⟩ := info_parts Tryz.infoRec
 have hsz : (Tryz.prog.info? 39).map (·.size) = some 8 := by rw [hi0]; simp [hzs]
 rcases hrow.2 with ⟨h0, _⟩ | ⟨g', cap', cur, hv, hbg, hg, hnc, hcm, hcs, htk⟩
 ·simp at h0
 simp at hv
 obtain ⟨rfl, rfl⟩ := hv
 have hc63 : cap ≤ 9223372036854775807 := by unfold maxLen at hcm; omega
 have hgw := lt_of_heap hg
 have hvw := lt_of_heap hvb
 have hD : (flat encP (ps.drop i)).length = (n - i) * 8 := by rw [flat_len encP_len, List.length_drop, ← hnp]
 have hAl : (flat encP (ps.take i)).length = i * 8 := by rw [flat_len encP_len, List.length_take, Nat.min_eq_left (by omega)]
 have hRl : (encP r).length = 8 := encP_len r
 have hkk : (n : Int) + (m : Int) - (i : Int) = ((n + m - i : Nat) : Int) := by omega
 have hik : i + (n + m - i) = n + m := by omega
 have hcellw : ∀ (j : Nat) (u : Value), (flat encP ps)[j]? = some u → w.cell? ⟨g, j, none⟩ = some u := fun j u hj => by
  have h2 : j < n * 8 := by rw [← hnl]; exact (List.getElem?_eq_some_iff.1 hj).1
  rw [← htk, List.getElem?_take_of_lt h2] at hj
  rw [cells_at hg]
  simpa using hj
 have hold : (Builtin.firstCells i0.size i (.slice (some ⟨g, 0, none⟩) i cap)).run Tryz.prog w.drew = .ok (flat encP (ps.take i)).toArray w.drew := by
  rw [hzs]
  exact run_firstCells_some w.drew 8 i ⟨g, 0, none⟩ i cap (flat encP (ps.take i)) hAl (fun j v hj => by
   rw [add8, Nat.zero_add]
   refine hcellw j v ?_
   rw [← flat_take ps i (by omega), List.getElem?_take] at hj
   split at hj
   ·exact hj
   ·cases hj)
 have hrz0 := Lib.run_append_grow_zeros (P := Tryz.prog) w 97 3 97 39 i0 _ .i64 .i64 hui Tryz.underlying3 hi0 hz0 (some ⟨g, 0, none⟩) i cap (flat encP (ps.take i)) hold (n + m - i) (by omega) (by rw [hzs]; omega) (by omega) (by omega) (by rw [hzb]; omega) (by rw [hzb, hik]; exact growslice_fits hroom (by omega))
 rw [hik] at hrz0
 have hGn := grownCap_ge w (n + m) cap 39
 have hGm := grownCap_le_maxLen w (n + m) cap 39 (by unfold maxLen; omega)
 obtain ⟨G, hG⟩ : ∃ G, G = grownCap w (n + m) cap 39 := ⟨_, rfl⟩
 rw [← hG] at hrz0 hGn hGm
 obtain ⟨ROW, hROW⟩ : ∃ ROW : Array Value, ROW = (flat encP (ps.take i)).toArray ++ Builtin.zeroCells (Value.agg (recC zeroRD (.slice none 0 0))).cells (n + m - i) ++ Builtin.zeroCells (Value.agg (recC zeroRD (.slice none 0 0))).cells (G - (n + m)) := ⟨_, rfl⟩
 rw [← hROW] at hrz0
 have hRs : ROW.size = G * 8 := by
  rw [hROW]
  simp only [Array.size_append, List.size_toArray, size_zeroCells, hAl, show (Value.agg (recC zeroRD (.slice none 0 0))).cells.size = 8 from rfl]
  omega
 have hRt : ROW.toList.take (i * 8) = flat encP (ps.take i) := by
  rw [hROW]
  simp only [Array.toList_append, List.append_assoc]
  rw [← hAl]
  exact List.take_left
 obtain ⟨N, hN⟩ : ∃ N, N = w.heap.size := ⟨_, rfl⟩
 obtain ⟨W1, hW1⟩ : ∃ W1, W1 = w.drew.alloc (.cells ROW 39) := ⟨_, rfl⟩
 rw [← hW1, ← hN] at hrz0
 have hrz : ∀ ty, (Builtin.append_ #[97, 3] ty #[.slice (some ⟨g, 0, none⟩) i cap, .int .i64 ((n : Int) + (m : Int) - (i : Int))]).run Tryz.prog w = .ok (.slice (some ⟨N, 0, none⟩) (n + m) G) W1 := fun ty => by
  rw [hkk]
  exact hrz0
 have g1 : W1.heap[N]? = some (.cells ROW 39 (0, 0)) := by rw [hW1, hN]; exact heap_alloc_new w.drew _
 have b1 : ∀ k, k < N → W1.heap[k]? = w.heap[k]? := fun k hk => by rw [hW1]; exact Below.heap_alloc _ _ _ (by rw [hN] at hk; exact hk)
 have s1 : W1.heap.size = N + 1 := by rw [hW1, hN]; simp
 have hcpA : ∀ ty dc, (Builtin.copy_ #[97, 29] ty #[.slice (some ⟨N, i * 8, none⟩) (n + m - i) dc, .slice (some ⟨vb, 0, none⟩) m 1]).run Tryz.prog W1 = .ok (goInt (Nat.min m (n + m - i))) (W1.setRow N (ROW.toList.take (i * 8) ++ encP r ++ ROW.toList.drop (i * 8 + (encP r).length)).toArray) := fun ty dc =>
  run_copy_rowS W1 97 29 ty 39 N (i * 8) (n + m - i) dc ⟨vb, 0, none⟩ m 1 8 ROW 39 (encP r) hui hsz g1
   (by rw [hRl]; have : Nat.min m (n + m - i) = m := Nat.min_eq_left (by omega); omega) (fun j u hj => by
    rw [add8, Nat.zero_add]
    simp only [World.cell?]
    rw [b1 vb (by omega), hvb]
    simpa using hj) (by rw [hRl, hRs]; omega) hr1
 obtain ⟨c1, hc1⟩ : ∃ c1, c1 = ROW.toList.take (i * 8) ++ encP r ++ ROW.toList.drop (i * 8 + (encP r).length) := ⟨_, rfl⟩
 rw [← hc1] at hcpA
 have hc1l : c1.length = G * 8 := by
  rw [hc1]
  simp only [List.length_append, List.length_take, List.length_drop, Array.length_toList, hRs, hRl]
  omega
 have hc1t : c1.take ((i + m) * 8) = flat encP (ps.take i) ++ encP r := by
  rw [hc1, hRt]
  rw [List.take_append_of_le_length (by simp only [List.length_append, hAl, hRl]; omega), List.take_of_length_le (by simp only [List.length_append, hAl, hRl]; omega)]
 obtain ⟨W2, hW2⟩ : ∃ W2, W2 = W1.setRow N c1.toArray := ⟨_, rfl⟩
 rw [← hW2] at hcpA
 have g2 : W2.heap[N]? = some (.cells c1.toArray 39 (0, 0)) := by rw [hW2]; exact setRow_heap W1 N ROW _ 39 _ g1
 have b2 : ∀ k, k < N → W2.heap[k]? = w.heap[k]? := fun k hk => by rw [hW2, setRow_other W1 N k _ (by omega)]; exact b1 k hk
 have s2 : W2.heap.size = N + 1 := by rw [hW2]; simpa using s1
 have hcpB0 := fun dc sc => run_copy_rowS (P := Tryz.prog) W2.drew 97 97 3 39 N ((i + m) * 8) (n + m - (i + m)) dc ⟨g, i * 8, none⟩ (n - i) sc 8 c1.toArray 39 (flat encP (ps.drop i)) hui hsz g2
   (by rw [hD]; congr 1; have : Nat.min (n - i) (n + m - (i + m)) = n - i := Nat.min_eq_left (by omega); omega) (fun j u hj => by
    rw [add8]
    have h2 := hcellw (i * 8 + j) u (by rw [← flat_drop ps i (by omega), List.getElem?_drop] at hj; exact hj)
    simp only [World.cell?] at h2 ⊢
    rw [show W2.drew.heap[g]? = w.heap[g]? from b2 g (by omega)]
    exact h2) (by rw [hD]; simp only [List.size_toArray, hc1l]; omega) (flat_oneCell _ (fun p hp => hone p (List.mem_of_mem_drop hp)))
 obtain ⟨c2, hc2⟩ : ∃ c2, c2 = c1.take ((i + m) * 8) ++ flat encP (ps.drop i) ++ c1.drop ((i + m) * 8 + (flat encP (ps.drop i)).length) := ⟨_, rfl⟩
 simp only [← hc2] at hcpB0
 obtain ⟨W3, hW3⟩ : ∃ W3, W3 = W2.drew.setRow N c2.toArray := ⟨_, rfl⟩
 rw [← hW3] at hcpB0
 have g3 : W3.heap[N]? = some (.cells c2.toArray 39 (0, 0)) := by rw [hW3]; exact setRow_heap W2.drew N c1.toArray _ 39 _ g2
 have b3 : ∀ k, k < N → W3.heap[k]? = w.heap[k]? := fun k hk => by rw [hW3, setRow_other W2.drew N k _ (by omega)]; exact b2 k hk
 have s3 : W3.heap.size = N + 1 := by rw [hW3]; simpa using s2
 have hfin : W3.ownsRow base 39 8 (.slice (some ⟨N, 0, none⟩) (n + m) G) (n + m) (flat encP (ps.take i ++ [r] ++ ps.drop i)) ∧ GrownV w W3 (some g) (.slice (some ⟨N, 0, none⟩) (n + m) G) := by
  refine ⟨⟨?_, .inr ⟨N, G, c2.toArray, rfl, by rw [hN]; exact hbase, g3, hGn, hGm, ?_, ?_⟩⟩, ⟨⟨?_, ?_, ?_, by omega, fun k hk _ => b3 k (by omega)⟩, fun k hk => .inr (Nat.le_of_eq (by rw [← hN]; simpa [Value.ownBlock] using hk))⟩⟩
  ·rw [flat_len encP_len, ins_len ps r i (by omega)]; omega
  ·rw [hc2, hc1t]
   simp only [List.size_toArray, List.length_append, List.length_drop, hc1l, hD, hRl, hAl]
   omega
  ·rw [flat_ins, hc2, hc1t]
   exact take_of_parts (by rw [hAl, hRl, hD]; omega)
  ·rw [hW3, hW2, hW1]; rfl
  ·rw [hW3, hW2, hW1]; rfl
  ·rw [hW3, hW2, hW1]; rfl
 have hz1 : ¬ ((m : Int) = 0) := by omega
 have hz2 : ¬ ((i : Int) = (n : Int)) := by omega
 have hz3 : (cap : Int) < (n : Int) + (m : Int) := by omega
 have hw1 : IntKind.i64.wrap ((i : Int) + (m : Int)) = (i : Int) + (m : Int) := by rw [IntKind.wrap_i64]; omega
 have hw2 : IntKind.i64.wrap ((n : Int) + (m : Int)) = (n : Int) + (m : Int) := by rw [IntKind.wrap_i64]; omega
 have hw3 : IntKind.i64.wrap ((n : Int) + (m : Int) - (i : Int)) = (n : Int) + (m : Int) - (i : Int) := by rw [IntKind.wrap_i64]; omega
 have hb1 : (0 : Int) ≤ (i : Int) + (m : Int) := by omega
 have hin : i ≤ n := by omega
 have htn : ((i : Int) + (m : Int)).toNat = i + m := by omega
 have hb3 : (i : Int) ≤ (n : Int) := by omega
 have hGi : ¬ (G = i) := by omega
 have hGim : ¬ (G = i + m) := by omega
 have hci : ¬ (cap = i) := by omega
 have hG63 : G ≤ 9223372036854775807 := by unfold maxLen at hGm; omega
 have HD := hide hfin
 have HA := hide hrz
 have HC1 := hide hcpA
 have HC2 := hide hcpB0
 have mixed : Tryz.prog.follows .mixedOrders = true := by kernel_rfl
 clear hfin hrz hcpA hcpB0 hrz0 g1 g2 g3 b1 b2 b3 s1 s2 s3 hW1 hW2 hW3 hc1 hc2 hc1l hc1t hROW hRs hRt hold hcellw hkk hik hN hG hGm hD hAl hRl hnl htk hcs hg hrow hvb hone hr1 hsz hi0 hz0 hzs hzb hm hnp
 go_enter Tryz.func188, Tryz.ntmps188
 go_wp2_with (first
  | (at_builtin; refine Lib.wpList_append_run _ rfl _ _ _ _ rfl _ _ rfl rfl _ _ (HA.out _) ?_)
  | (refine wpList_copy_runI _ rfl _ _ 97 29 rfl (.slice (some ⟨N, i * 8, none⟩) (n + m - i) (G - i)) (.slice (some ⟨vb, 0, none⟩) m 1) rfl rfl (HC1.out 3 (G - i)) ?_))
 go_region_law_o (refine step_copy_runI rfl _ _ 97 97 rfl (.slice (some ⟨N, (i + m) * 8, none⟩) (n + m - (i + m)) (G - (i + m))) (.slice (some ⟨g, i * 8, none⟩) (n - i) (cap - i)) (by simp [Act.eval, Act.put]) (by simp [Act.eval, Act.put]) (HC2.out (G - (i + m)) (cap - i)) ?_)
 go_wp2
 go_ret
 exact ⟨_, rfl, HD.out⟩
end Go.Proofs.YtmijnjnihhemgaaGreat
