/-
  spec.l04Record: some right record.
  What slices.Insert needs: copy of a row of structs, append at two types, the lists of cells.
  slices.Insert at lists of records, one record put in: its three roads.
  spec.l05At, impl's placeOf at lists that may share rows.
-/
import Derived.Test.YtchmmekhfcojgaaGreatDoorPq13
import Derived.Test.YtchmmekhfcojgaaGreatDoorPq7
import Derived.Test.YtchmmekhfcojgaaGreatDoorPq3
import Derived.Shelf.Spec.SlicesInsertGrow
import Derived.Test.YtchmmekhfcojgaaGreatDoorPq11
namespace Go.Proofs.YtchmmekhfcojgaaGreatDoor
open Go.RowKit

set_option linter.unusedSimpArgs false

/-- neighbours that were drawn, up to k -/
def NearUp (l : List Nr) (k : Int) (o : Int) : Prop := (∀ n ∈ l, 1 ≤ n.to ∧ n.to < k ∧ n.to ≠ o ∧ 1 ≤ n.c ∧ n.c ≤ 4) ∧ l.Pairwise (fun a b => a.to < b.to)

theorem NearUp.more {l : List Nr} {k k' o : Int} (h : NearUp l k o) (hk : k ≤ k') : NearUp l k' o := ⟨fun n hn => by have := h.1 n hn; omega, h.2⟩

theorem NearUp.push {l : List Nr} {k o y : Int} (h : NearUp l k o) (h1 : 1 ≤ k) (ho : k ≠ o) (hy0 : 0 ≤ y) (hy1 : y < 4) : NearUp (l ++ [⟨k, 1 + y⟩]) (k + 1) o := by
  refine ⟨?_, ?_⟩
  · intro n hn
    rcases List.mem_append.1 hn with h2 | h2
    · have := h.1 n h2; omega
    · have : n = ⟨k, 1 + y⟩ := by simpa using h2
      subst this
      simp only
      omega
  · rw [List.pairwise_append]
    refine ⟨h.2, by simp, ?_⟩
    intro a ha b hb
    have : b = ⟨k, 1 + y⟩ := by simpa using hb
    subst this
    exact (h.1 a ha).2.1

theorem NearUp.ok {l : List Nr} {o : Int} (h : NearUp l 7 o) : nearsB o l = true := by
  unfold nearsB allOk ascB
  rw [Bool.and_eq_true]
  refine ⟨all_true fun j hj => ?_, all_true fun j hj => ?_⟩
  · unfold okAt
    rw [List.getElem?_eq_getElem hj]
    have h1 := h.1 l[j] (List.getElem_mem hj)
    unfold nearOkB inB
    simp only [Bool.and_eq_true, decide_eq_true_eq, Bool.not_eq_true', beq_eq_false_iff_ne]
    omega
  · cases j with
    | zero => rfl
    | succ k =>
      rw [ascAt_eq (List.getElem?_eq_getElem (by omega)) (List.getElem?_eq_getElem hj)]
      have h2 := List.pairwise_iff_getElem.1 h.2 k (k + 1) (by omega) hj (by omega)
      unfold ordN
      simp only [decide_eq_true_eq]
      omega

theorem right_node {y1 y2 y3 : Int} {l : List Nr} (a0 : 0 ≤ y1) (a1 : y1 < 4) (b0 : 0 ≤ y2) (b1 : y2 < 3) (c0 : 0 ≤ y3) (c1 : y3 < 5) (h : NearUp l 7 (1 + y1)) : recOkB ⟨y2, 1, 1 + y1, 0, 1 + y3, l, 0, false⟩ = true := by
  have h1 := h.ok
  unfold recOkB
  simp only [h1]
  unfold inB
  simp
  omega

theorem right_beyond {y1 y2 y3 y4 y5 : Int} (a0 : 0 ≤ y1) (a1 : y1 < 4) (b0 : 0 ≤ y2) (b1 : y2 < 3) (c0 : 0 ≤ y3) (c1 : y3 < 5) (d0 : 0 ≤ y4) (d1 : y4 < 5) (e0 : 0 ≤ y5) (e1 : y5 ≤ 60000) : recOkB ⟨y2, 2, 1 + y1, 1 + y4, 1 + y3, [], y5, false⟩ = true := by
  unfold recOkB inB
  simp
  omega

theorem right_thing {y1 y3 y4 y5 : Int} {b : Bool} (a0 : 0 ≤ y1) (a1 : y1 < 4) (c0 : 0 ≤ y3) (c1 : y3 < 5) (d0 : 0 ≤ y4) (d1 : y4 < 3) (e : (1 ≤ y5 ∧ y5 ≤ 1000) ∨ y5 = 60000) : recOkB ⟨9, 3, 1 + y1, 1 + y4, 1 + y3, [], y5, b⟩ = true := by
  unfold recOkB inB
  simp
  omega

theorem five_cellsR (w : World) : ∀ k, k < 5 → ∃ z : Int, (0 ≤ z ∧ z ≤ 60000) ∧ (w.alloc (.cells #[.int .i64 0, .int .i64 1, .int .i64 2, .int .i64 5, .int .i64 60000] 3)).cell? ⟨w.heap.size, k, none⟩ = some (.int .i64 z) := by
  intro k hk
  have h := cells_at (heap_alloc_new w (.cells #[.int .i64 0, .int .i64 1, .int .i64 2, .int .i64 5, .int .i64 60000] 3)) k
  match k, hk with
  | 0, _ => exact ⟨_, by omega, h⟩
  | 1, _ => exact ⟨_, by omega, h⟩
  | 2, _ => exact ⟨_, by omega, h⟩
  | 3, _ => exact ⟨_, by omega, h⟩
  | 4, _ => exact ⟨_, by omega, h⟩

theorem fourb_cellsR (w : World) : ∀ k, k < 4 → ∃ z : Int, ((1 ≤ z ∧ z ≤ 1000) ∨ z = 60000) ∧ (w.alloc (.cells #[.int .i64 1, .int .i64 2, .int .i64 5, .int .i64 60000] 3)).cell? ⟨w.heap.size, k, none⟩ = some (.int .i64 z) := by
  intro k hk
  have h := cells_at (heap_alloc_new w (.cells #[.int .i64 1, .int .i64 2, .int .i64 5, .int .i64 60000] 3)) k
  match k, hk with
  | 0, _ => exact ⟨_, by omega, h⟩
  | 1, _ => exact ⟨_, by omega, h⟩
  | 2, _ => exact ⟨_, by omega, h⟩
  | 3, _ => exact ⟨_, by omega, h⟩

set_option maxRecDepth 100000 in
set_option maxHeartbeats 2000000 in
theorem recR_any (p : Nat) (a : Option Addr) (len cap : Nat) (w : World) (hc : Cur w p a len cap) :
    Calls Tryz.prog 70 #[.pointer (some ⟨p, 0, none⟩)] w fun e w' => ∃ (x : RecD) (v : Value), e = .returned (.agg (recC x v)) ∧ w'.ownsRow (w.heap.size + 1) 100 2 v x.near.length (flat nrE x.near) ∧ x.near.length ≤ 6 ∧ recOkB x = true ∧ Cur w' p a len cap ∧ w.grownBy w' (some p) := by
  have hp := lt_of_cur hc
  have HC := hide hc
  clear hc
  go_enter Tryz.func70, Tryz.ntmps70
  go_wp2_with fail
  refine (below_any p a len cap 3 _ (cur_alloc HC.out _) (by omega) (by omega)).mono ?_
  rintro e w1 ⟨y0, rfl, hy0, hy0', hc1, hg1⟩
  have r1 := hg1.block w.heap.size (by simp) (by simp; omega)
  rw [heap_alloc_new] at r1
  have b1 : w.grownBy w1 (some p) := gro_same (gro_alloc (gro_refl w _) _) hg1
  have C1 := hide hc1
  have R1 := hide r1
  have D1 := hide b1
  clear hc1 r1 b1 hg1 HC
  go_wp2_with fail
  refine (below_any p a len cap 4 _ C1.out (by omega) (by omega)).mono ?_
  rintro e w2 ⟨y1, rfl, hy1, hy1', hc2, hg2⟩
  have R2 := hide ((hg2.block _ (lt_of_heap R1.out) (by simp; omega)).trans R1.out)
  have D2 := hide (gro_same D1.out hg2)
  have C2 := hide hc2
  clear hc2 hg2 C1 R1 D1
  go_wp2_with fail
  refine (below_any p a len cap 3 _ C2.out (by omega) (by omega)).mono ?_
  rintro e w3 ⟨y2, rfl, hy2, hy2', hc3, hg3⟩
  have R3 := hide ((hg3.block _ (lt_of_heap R2.out) (by simp; omega)).trans R2.out)
  have D3 := hide (gro_same D2.out hg3)
  have C3 := hide hc3
  clear hc3 hg3 C2 R2 D2
  go_wp2_with fail
  refine (below_any p a len cap 5 _ C3.out (by omega) (by omega)).mono ?_
  rintro e w4 ⟨y3, rfl, hy3, hy3', hc4, hg4⟩
  have R4 := hide ((hg4.block _ (lt_of_heap R3.out) (by simp; omega)).trans R3.out)
  have D4 := hide (gro_same D3.out hg4)
  have hsz4 : w.heap.size < w4.heap.size := lt_of_heap R4.out
  have wr0 : IntKind.i64.wrap (1 + y0) = 1 + y0 := wrap_fit _ (by omega) (by omega)
  have wr1 : IntKind.i64.wrap (1 + y1) = 1 + y1 := wrap_fit _ (by omega) (by omega)
  have wr3 : IntKind.i64.wrap (1 + y3) = 1 + y3 := wrap_fit _ (by omega) (by omega)
  obtain ⟨x0, hx0⟩ : ∃ x : RecD, x = ⟨y2, 1 + y0, 1 + y1, 0, 1 + y3, [], 0, false⟩ := ⟨_, rfl⟩
  have st0 : RcSt w (w4.alloc (.cells #[.int .i64 y2, .int .i64 (1 + y0), .int .i64 (1 + y1), .int .i64 0, .int .i64 (1 + y3), .slice none 0 0, .int .i64 0, .bool false] 51)) p w.heap.size w4.heap.size a len cap (.slice none 0 0) x0 :=
    { cur := cur_alloc hc4 _
      low := Nat.le_refl _
      gro := gro_alloc D4.out _
      box := by rw [hx0]; exact heap_alloc_new w4 _
      res := (Below.heap_alloc _ _ _ hsz4).trans R4.out
      own := by rw [hx0]; exact ⟨rfl, .inl ⟨rfl, rfl⟩⟩
      djn := by simp [Value.ownBlock] }
  have ST0 := hide st0
  have HX0 := hide hx0
  have g1 := heap_alloc_new w4 (.cells #[.int .i64 y2, .int .i64 (1 + y0), .int .i64 (1 + y1), .int .i64 0, .int .i64 (1 + y3), .slice none 0 0, .int .i64 0, .bool false] 51)
  clear st0 hx0 hc4 hg4 R4 D4 C3 R3 D3 g1
  rcases (show y0 = 0 ∨ y0 = 1 ∨ y0 = 2 by omega) with rfl | rfl | rfl
  · rw [show (1 : Int) + 0 = 1 from rfl] at ST0 HX0
    go_wp2
    obtain ⟨z, hz⟩ : ∃ z, z = w4.heap.size := ⟨_, rfl⟩
    rw [← hz] at ST0 hsz4 ⊢
    generalize w4.alloc (.cells #[.int .i64 y2, .int .i64 1, .int .i64 (1 + y1), .int .i64 0, .int .i64 (1 + y3), .slice none 0 0, .int .i64 0, .bool false] 51) = w5 at *
    clear hz
    have hw5 : p < w.heap.size := hp
    go_loopw [4] (fun i wr => ∃ (k : Nat) (l : List Nr) (va : Option Addr) (vc : Nat), 1 ≤ k ∧ k ≤ 7 ∧ i = .int .i64 k ∧ l.length + 1 ≤ k ∧ Hid (NearUp l k x0.owner) ∧ RcSt w wr p w.heap.size z a len cap (.slice va l.length vc) { x0 with near := l }) (fun i _ => 8 - (intOf i).toNat)
    case atStart =>
      refine ⟨1, [], none, 0, by omega, by omega, rfl, by simp, hide ⟨by simp, by simp⟩, ?_⟩
      have e := ST0.out
      rw [show x0 = { x0 with near := [] } by rw [HX0.out]] at e
      exact e
    case round =>
      clear ST0
      obtain ⟨k, l, va, vc, hk1, hk7, rfl, hll, HUP, st⟩ := hrel
      have c2 := cells_at st.box 2
      simp only [recC] at c2
      have c2' : wr.cell? ⟨z, 2, none⟩ = some (.int .i64 x0.owner) := c2
      clear c2
      have ST := hide st
      clear st
      by_cases hk : k < 7
      · have hk6 : (k : Int) ≤ 6 := by omega
        by_cases ho : (k : Int) = x0.owner
        · have hd : ((k : Int) != x0.owner) = false := by simpa using ho
          clear ho
          go_wp2
          exact ⟨⟨k + 1, l, va, vc, by omega, by omega, by go_num, by omega, hide (HUP.out.more (by omega)), ST.out⟩, by simp [intOf]; omega⟩
        · have hd : ((k : Int) != x0.owner) = true := by simpa using ho
          have HO := hide ho
          clear ho
          go_wp2_with fail
          refine (once_any p a len cap 3 _ ST.out.cur (by omega) (by omega)).mono ?_
          rintro e w6 ⟨b, rfl, hc6, hg6⟩
          have ST6 := hide (ST.out.grown hc6 hg6 hp hsz4)
          clear hc6 hg6 ST c2'
          cases b
          · go_wp2
            exact ⟨⟨k + 1, l, va, vc, by omega, by omega, by go_num, by omega, hide (HUP.out.more (by omega)), ST6.out⟩, by simp [intOf]; omega⟩
          · go_wp2
            refine wp_region_noPanic ?_
            refine wp_region_start (S := fun _ => True) (by kernel_rfl) 11 rfl trivial ?_
            intro ops hops _
            refine rec_dag _ _ _ _ _ _ _ _ _ _ _ _ _ _ _ _ _ _ _ _ _ _ _ _ _ _ _ _ _ _ _ _ _ _ _ _ _ _ _ _ _ _ _ _ _ _ _ _ _ _ _ _ _ _ _ _ _ _ _ _ _ _ _ _ _ w _ p w.heap.size z a len cap va vc { x0 with near := l } (k : Int) _ ops hops (fun _ _ _ _ h => h) hp hsz4 (by show l.length ≤ 1000; omega) ST6.out.drew ?_
            intro W y na nc l' hl' hy0 hy1 st' sb
            refine NoPanic.normal ?_
            have hl7 : l'.length = l.length + 1 := by rw [hl'.out]; simp
            have HU7 := hide (show NearUp l' ((k + 1 : Nat) : Int) x0.owner by rw [hl'.out]; exact (HUP.out.push (by omega) HO.out hy0 hy1).more (by omega))
            have ST7 := hide st'
            clear st' hops ops
            go_wp2
            exact ⟨⟨k + 1, l', na, nc, by omega, by omega, by go_num, by omega, HU7, ST7.out⟩, by simp [intOf]; omega⟩
      · have hk6 : ¬ (k : Int) ≤ 6 := by omega
        have HLL := hide hll
        have HRI := hide (show recOkB { x0 with near := l } = true by
          have h7 : NearUp l 7 x0.owner := HUP.out.more (by omega)
          rw [HX0.out] at h7 ⊢
          exact right_node hy1 hy1' hy2 hy2' hy3 hy3' h7)
        clear c2'
        have yb := ST.out.box
        have ub := ST.out.res
        unfold recC at yb
        unfold zeroC at ub
        (try simp only [] at yb)
        have y0 := cells_at yb 0
        have y1 := cells_at yb 1
        have y2 := cells_at yb 2
        have y3 := cells_at yb 3
        have y4 := cells_at yb 4
        have y5 := cells_at yb 5
        have y6 := cells_at yb 6
        have y7 := cells_at yb 7
        have u0 := cells_at ub 0
        have u1 := cells_at ub 1
        have u2 := cells_at ub 2
        have u3 := cells_at ub 3
        have u4 := cells_at ub 4
        have u5 := cells_at ub 5
        have u6 := cells_at ub 6
        have u7 := cells_at ub 7
        simp at y0 y1 y2 y3 y4 y5 y6 y7 u0 u1 u2 u3 u4 u5 u6 u7
        have fu := frozen_at ub
        clear yb ub
        go_wp2_with fail
        (try simp only [Exit.inBlock, Exit.then])
        have F := ST.out.fin hp (by have := lt_of_heap ST.out.box; omega)
        refine bodyPost_ret (results_cell_row rfl _ _ w.heap.size 51 (recC _ _) (0, 0) _ rfl F.1 Tryz.underlying51 rfl (by kernel_rfl)) rfl ?_
        exact ⟨_, _, rfl, F.2.2.2, (by show l.length ≤ 6; have := HLL.out; omega), HRI.out, F.2.1, F.2.2.1⟩
  · rw [show (1 : Int) + 1 = 2 from rfl] at ST0 HX0
    have hz0 : w4.heap.size = w4.heap.size := rfl
    go_wp2_with fail
    obtain ⟨z, hz⟩ : ∃ z, z = w4.heap.size := ⟨_, rfl⟩
    rw [← hz] at ST0 hsz4 ⊢
    generalize w4.alloc (.cells #[.int .i64 y2, .int .i64 2, .int .i64 (1 + y1), .int .i64 0, .int .i64 (1 + y3), .slice none 0 0, .int .i64 0, .bool false] 51) = w5 at *
    clear hz hz0
    refine (below_any p a len cap 5 _ ST0.out.cur (by omega) (by omega)).mono ?_
    rintro e w6 ⟨y4, rfl, hy4, hy4', hc6, hg6⟩
    have ST6 := hide (ST0.out.grown hc6 hg6 hp hsz4)
    have wr4 : IntKind.i64.wrap (1 + y4) = 1 + y4 := wrap_fit _ (by omega) (by omega)
    have sb := ST6.out.box
    unfold recC at sb
    have s3 := cells_at sb 3
    have f3 := frozen_at sb
    simp at s3
    have ST7 := hide (ST6.out.set 3 (.int .i64 (1 + y4)) { x0 with key := 1 + y4 } rfl rfl hp hsz4)
    clear hc6 hg6 ST0 ST6 sb
    have hs7 : (w6.setCell ⟨z, 3, none⟩ (.int .i64 (1 + y4))).heap.size = w6.heap.size := by simp
    have fc := five_cellsR (w6.setCell ⟨z, 3, none⟩ (.int .i64 (1 + y4)))
    rw [hs7] at fc
    have FC := hide fc
    have hp6 : p < w6.heap.size := by have := lt_of_cur ST7.out.cur; omega
    clear hs7 fc
    go_wp2_with fail
    refine (pickR_any (fun z => 0 ≤ z ∧ z ≤ 60000) p a len cap w6.heap.size 5 _ (cur_alloc ST7.out.cur _) (by omega) (by omega) (by omega) FC.out).mono ?_
    rintro e w8 ⟨y5, rfl, hp5, hc8, hg8⟩
    have ST8 := hide ((ST7.out.alloc _).grown hc8 hg8 hp hsz4)
    have sb := ST8.out.box
    unfold recC at sb
    have s6 := cells_at sb 6
    have f6 := frozen_at sb
    simp at s6
    have ST9 := hide (ST8.out.set 6 (.int .i64 y5) { x0 with key := 1 + y4, cost := y5 } rfl rfl hp hsz4)
    have HRI := hide (show recOkB { x0 with key := 1 + y4, cost := y5 } = true by rw [HX0.out]; exact right_beyond hy1 hy1' hy2 hy2' hy3 hy3' hy4 hy4' hp5.1 hp5.2)
    have HL0 := hide (show x0.near.length ≤ 6 by rw [HX0.out]; simp)
    clear hc8 hg8 ST7 ST8 sb s3 f3 FC
    have yb := ST9.out.box
    have ub := ST9.out.res
    unfold recC at yb
    unfold zeroC at ub
    (try simp only [] at yb)
    have y0 := cells_at yb 0
    have y1 := cells_at yb 1
    have y2 := cells_at yb 2
    have y3 := cells_at yb 3
    have y4 := cells_at yb 4
    have y5 := cells_at yb 5
    have y6 := cells_at yb 6
    have y7 := cells_at yb 7
    have u0 := cells_at ub 0
    have u1 := cells_at ub 1
    have u2 := cells_at ub 2
    have u3 := cells_at ub 3
    have u4 := cells_at ub 4
    have u5 := cells_at ub 5
    have u6 := cells_at ub 6
    have u7 := cells_at ub 7
    simp at y0 y1 y2 y3 y4 y5 y6 y7 u0 u1 u2 u3 u4 u5 u6 u7
    have fu := frozen_at ub
    clear yb ub
    go_wp2_with fail
    (try simp only [Exit.inBlock, Exit.then])
    have F := ST9.out.fin hp (by have := lt_of_heap ST9.out.box; omega)
    refine bodyPost_ret (results_cell_row rfl _ _ w.heap.size 51 (recC _ _) (0, 0) _ rfl F.1 Tryz.underlying51 rfl (by kernel_rfl)) rfl ?_
    exact ⟨_, _, rfl, F.2.2.2, HL0.out, HRI.out, F.2.1, F.2.2.1⟩
  · rw [show (1 : Int) + 2 = 3 from rfl] at ST0 HX0
    have hz0 : w4.heap.size = w4.heap.size := rfl
    have ST5 := hide (ST0.out.set 0 (.int .i64 9) { x0 with area := 9 } rfl rfl hp hsz4)
    rw [World.setCell_alloc_new] at ST5
    go_wp2_with fail
    obtain ⟨z, hz⟩ : ∃ z, z = w4.heap.size := ⟨_, rfl⟩
    rw [← hz] at ST0 ST5 hsz4 ⊢
    have ST5' : Hid (RcSt w (w4.alloc (.cells #[.int .i64 9, .int .i64 3, .int .i64 (1 + y1), .int .i64 0, .int .i64 (1 + y3), .slice none 0 0, .int .i64 0, .bool false] 51)) p w.heap.size z a len cap (.slice none 0 0) { x0 with area := 9 }) := ST5
    clear ST5
    have ST5 := ST5'
    clear ST5' ST0
    generalize w4.alloc (.cells #[.int .i64 9, .int .i64 3, .int .i64 (1 + y1), .int .i64 0, .int .i64 (1 + y3), .slice none 0 0, .int .i64 0, .bool false] 51) = w5 at *
    clear hz hz0
    refine (below_any p a len cap 3 _ ST5.out.cur (by omega) (by omega)).mono ?_
    rintro e w6 ⟨y4, rfl, hy4, hy4', hc6, hg6⟩
    have ST6 := hide (ST5.out.grown hc6 hg6 hp hsz4)
    have wr4 : IntKind.i64.wrap (1 + y4) = 1 + y4 := wrap_fit _ (by omega) (by omega)
    have sb := ST6.out.box
    unfold recC at sb
    have s3 := cells_at sb 3
    have f3 := frozen_at sb
    simp at s3
    have ST7 := hide (ST6.out.set 3 (.int .i64 (1 + y4)) { x0 with area := 9, key := 1 + y4 } rfl rfl hp hsz4)
    clear hc6 hg6 ST5 ST6 sb
    have hs7 : (w6.setCell ⟨z, 3, none⟩ (.int .i64 (1 + y4))).heap.size = w6.heap.size := by simp
    have fc := fourb_cellsR (w6.setCell ⟨z, 3, none⟩ (.int .i64 (1 + y4)))
    rw [hs7] at fc
    have FC := hide fc
    have hp6 : p < w6.heap.size := by have := lt_of_cur ST7.out.cur; omega
    clear hs7 fc
    go_wp2_with fail
    refine (pickR_any (fun z => (1 ≤ z ∧ z ≤ 1000) ∨ z = 60000) p a len cap w6.heap.size 4 _ (cur_alloc ST7.out.cur _) (by omega) (by omega) (by omega) FC.out).mono ?_
    rintro e w8 ⟨y5, rfl, hp5, hc8, hg8⟩
    have ST8 := hide ((ST7.out.alloc _).grown hc8 hg8 hp hsz4)
    have sb := ST8.out.box
    unfold recC at sb
    have s6 := cells_at sb 6
    have f6 := frozen_at sb
    simp at s6
    have ST9 := hide (ST8.out.set 6 (.int .i64 y5) { x0 with area := 9, key := 1 + y4, cost := y5 } rfl rfl hp hsz4)
    have HL0 := hide (show x0.near.length ≤ 6 by rw [HX0.out]; simp)
    clear hc8 hg8 ST7 ST8 sb s3 f3 FC
    go_wp2_with fail
    refine (once_any p a len cap 2 _ ST9.out.cur (by omega) (by omega)).mono ?_
    rintro e wA ⟨b, rfl, hcA, hgA⟩
    have STA := hide (ST9.out.grown hcA hgA hp hsz4)
    have sb := STA.out.box
    unfold recC at sb
    have s7 := cells_at sb 7
    have f7 := frozen_at sb
    simp at s7
    have STB := hide (STA.out.set 7 (.bool b) { x0 with area := 9, key := 1 + y4, cost := y5, far := b } rfl rfl hp hsz4)
    have HRI := hide (show recOkB { x0 with area := 9, key := 1 + y4, cost := y5, far := b } = true by rw [HX0.out]; exact right_thing hy1 hy1' hy3 hy3' hy4 hy4' hp5)
    clear hcA hgA ST9 STA sb s6 f6
    have yb := STB.out.box
    have ub := STB.out.res
    unfold recC at yb
    unfold zeroC at ub
    (try simp only [] at yb)
    have y0 := cells_at yb 0
    have y1 := cells_at yb 1
    have y2 := cells_at yb 2
    have y3 := cells_at yb 3
    have y4 := cells_at yb 4
    have y5 := cells_at yb 5
    have y6 := cells_at yb 6
    have y7 := cells_at yb 7
    have u0 := cells_at ub 0
    have u1 := cells_at ub 1
    have u2 := cells_at ub 2
    have u3 := cells_at ub 3
    have u4 := cells_at ub 4
    have u5 := cells_at ub 5
    have u6 := cells_at ub 6
    have u7 := cells_at ub 7
    simp at y0 y1 y2 y3 y4 y5 y6 y7 u0 u1 u2 u3 u4 u5 u6 u7
    have fu := frozen_at ub
    clear yb ub
    go_wp2_with fail
    (try simp only [Exit.inBlock, Exit.then])
    have F := STB.out.fin hp (by have := lt_of_heap STB.out.box; omega)
    refine bodyPost_ret (results_cell_row rfl _ _ w.heap.size 51 (recC _ _) (0, 0) _ rfl F.1 Tryz.underlying51 rfl (by kernel_rfl)) rfl ?_
    exact ⟨_, _, rfl, F.2.2.2, HL0.out, HRI.out, F.2.1, F.2.2.1⟩

end Go.Proofs.YtchmmekhfcojgaaGreatDoor
namespace Go.Proofs.YtchmmekhfcojgaaGreatDoor
open Go.RowKit

end Go.Proofs.YtchmmekhfcojgaaGreatDoor
namespace Go.Proofs.YtchmmekhfcojgaaGreatDoor
open Go.RowKit

set_option linter.unusedSimpArgs false
set_option linter.unusedVariables false

end Go.Proofs.YtchmmekhfcojgaaGreatDoor
namespace Go.Proofs.YtchmmekhfcojgaaGreatDoor
open Go.RowKit

set_option maxRecDepth 100000 in
set_option maxHeartbeats 2000000 in
theorem satI_any (v : Value) (ps : List RP) (hi : Nat) (r : RP) (w : World) (hv : RecsIn w hi v ps) (hhi : hi ≤ w.heap.size) (hn : tot ps ≤ 1048576) :
    Calls Tryz.prog 94 #[v, .agg (recC r.1 r.2)] w fun e w' => e = .returned (.int .i64 (atZ (fsts ps) r.1)) ∧ Below w.heap.size w w' := by
  have hnl := tot_len ps
  obtain ⟨a1, c1, rfl⟩ := owns_lenS hv.row
  have HV := hide hv
  clear hv
  have BX := (Below.refl w.heap.size w).alloc (Nat.le_refl _) (.cells (recC r.1 r.2) 51)
  have hx := heap_alloc_new w (.cells (recC r.1 r.2) 51)
  obtain ⟨wx, hwx⟩ : ∃ wx, wx = w.alloc (.cells (recC r.1 r.2) 51) := ⟨_, rfl⟩
  rw [← hwx] at BX hx
  unfold recC at *
  go_enter Tryz.func94, Tryz.ntmps94
  go_wp2
  rw [← hwx]
  have HX := hide hx
  clear hwx hx
  go_loopw [5] (fun i wr => ∃ (k : Nat), k ≤ ps.length ∧ i = .int .i64 k ∧ (∀ j, j < k → ∀ y, (fsts ps)[j]? = some y → sameKeyB y r.1 = false) ∧ Below wx.heap.size wx wr) (fun i _ => ps.length - (intOf i).toNat)
  case atStart => exact ⟨0, by omega, rfl, by omega, Below.refl _ _⟩
  case round =>
    obtain ⟨k, hk, rfl, hall, hnx⟩ := hrel
    have HALL := hide hall
    clear hall
    have hsz := hnx.size
    have hsx := lt_of_heap HX.out
    have BWR : Below w.heap.size w wr := BX.trans (hnx.mono (by omega))
    by_cases hlt : k < ps.length
    · obtain ⟨p, hp⟩ : ∃ p, ps[k]? = some p := ⟨ps[k], List.getElem?_eq_getElem hlt⟩
      have hat := HV.out.at
      obtain ⟨b, off, cap', hve, hbb, c0, c1, c2, c3, c4, c5, c6, c7, _⟩ := hat.cells k p hp
      cases hve
      rw [← BWR.cell (p := ⟨b, off + k * 8, none⟩) (Nat.lt_of_lt_of_le hbb hhi)] at c0
      rw [← BWR.cell (p := ⟨b, off + k * 8 + 1, none⟩) (Nat.lt_of_lt_of_le hbb hhi)] at c1
      rw [← BWR.cell (p := ⟨b, off + k * 8 + 2, none⟩) (Nat.lt_of_lt_of_le hbb hhi)] at c2
      rw [← BWR.cell (p := ⟨b, off + k * 8 + 3, none⟩) (Nat.lt_of_lt_of_le hbb hhi)] at c3
      rw [← BWR.cell (p := ⟨b, off + k * 8 + 4, none⟩) (Nat.lt_of_lt_of_le hbb hhi)] at c4
      rw [← BWR.cell (p := ⟨b, off + k * 8 + 5, none⟩) (Nat.lt_of_lt_of_le hbb hhi)] at c5
      rw [← BWR.cell (p := ⟨b, off + k * 8 + 6, none⟩) (Nat.lt_of_lt_of_le hbb hhi)] at c6
      rw [← BWR.cell (p := ⟨b, off + k * 8 + 7, none⟩) (Nat.lt_of_lt_of_le hbb hhi)] at c7
      have hxx := (hnx.block _ hsx).trans HX.out
      have d0 := cells_at hxx 0
      have d1 := cells_at hxx 1
      have d2 := cells_at hxx 2
      have d3 := cells_at hxx 3
      have d4 := cells_at hxx 4
      have d5 := cells_at hxx 5
      have d6 := cells_at hxx 6
      have d7 := cells_at hxx 7
      simp at d0 d1 d2 d3 d4 d5 d6 d7
      have hb1 : b < wr.heap.size := by omega
      have hb2 : w.heap.size < wr.heap.size := by omega
      have hki : (0 : Int) ≤ (k : Int) := by omega
      have hkj : (k : Int) < (ps.length : Int) := by omega
      have hq := fun W => ssameKey_any p.2 r.2 p.1 r.1 W
      unfold recC at hq
      obtain ⟨q, hqq⟩ : ∃ q, q = sameKeyB p.1 r.1 := ⟨_, rfl⟩
      rw [← hqq] at hq
      have HK := hide hq
      have HQQ := hide hqq
      have HPP := hide (fsts_at hp)
      clear hq hqq hp hat hxx
      cases q
      · go_wp2
        go_region_held3 (fun W => W.cell? ⟨b, off + k * 8, none⟩ = some (.int .i64 p.1.area) ∧ W.cell? ⟨b, off + k * 8 + 1, none⟩ = some (.int .i64 p.1.kind) ∧ W.cell? ⟨b, off + k * 8 + 2, none⟩ = some (.int .i64 p.1.owner) ∧ W.cell? ⟨b, off + k * 8 + 3, none⟩ = some (.int .i64 p.1.key) ∧ W.cell? ⟨b, off + k * 8 + 4, none⟩ = some (.int .i64 p.1.seq) ∧ W.cell? ⟨b, off + k * 8 + 5, none⟩ = some (p.2) ∧ W.cell? ⟨b, off + k * 8 + 6, none⟩ = some (.int .i64 p.1.cost) ∧ W.cell? ⟨b, off + k * 8 + 7, none⟩ = some (.bool p.1.far) ∧ W.cell? ⟨w.heap.size, 0, none⟩ = some (.int .i64 r.1.area) ∧ W.cell? ⟨w.heap.size, 1, none⟩ = some (.int .i64 r.1.kind) ∧ W.cell? ⟨w.heap.size, 2, none⟩ = some (.int .i64 r.1.owner) ∧ W.cell? ⟨w.heap.size, 3, none⟩ = some (.int .i64 r.1.key) ∧ W.cell? ⟨w.heap.size, 4, none⟩ = some (.int .i64 r.1.seq) ∧ W.cell? ⟨w.heap.size, 5, none⟩ = some (r.2) ∧ W.cell? ⟨w.heap.size, 6, none⟩ = some (.int .i64 r.1.cost) ∧ W.cell? ⟨w.heap.size, 7, none⟩ = some (.bool r.1.far)) (first | go_keep | (refine ⟨?_, ?_, ?_, ?_, ?_, ?_, ?_, ?_, ?_, ?_, ?_, ?_, ?_, ?_, ?_, ?_⟩ <;> (rw [hbc.cell (by assumption)]; assumption))) (first | (go_at_call 110; refine (HK.out _).mono ?_; rintro e w1 ⟨rfl, hbc⟩))
        go_wp2
        go_roundw
        case rel => exact ⟨k + 1, by omega, by go_num, (fun j hj y hy => by
          by_cases e : j = k
          · subst e; rw [HPP.out] at hy; cases hy; exact HQQ.out.symm
          · exact HALL.out j (by omega) y hy), hnx.trans ((Below.refl _ _).drew.trans (hbc.mono hsz))⟩
        case measure => simp [intOf]; omega
      · go_wp2
        go_region_held3 (fun W => W.cell? ⟨b, off + k * 8, none⟩ = some (.int .i64 p.1.area) ∧ W.cell? ⟨b, off + k * 8 + 1, none⟩ = some (.int .i64 p.1.kind) ∧ W.cell? ⟨b, off + k * 8 + 2, none⟩ = some (.int .i64 p.1.owner) ∧ W.cell? ⟨b, off + k * 8 + 3, none⟩ = some (.int .i64 p.1.key) ∧ W.cell? ⟨b, off + k * 8 + 4, none⟩ = some (.int .i64 p.1.seq) ∧ W.cell? ⟨b, off + k * 8 + 5, none⟩ = some (p.2) ∧ W.cell? ⟨b, off + k * 8 + 6, none⟩ = some (.int .i64 p.1.cost) ∧ W.cell? ⟨b, off + k * 8 + 7, none⟩ = some (.bool p.1.far) ∧ W.cell? ⟨w.heap.size, 0, none⟩ = some (.int .i64 r.1.area) ∧ W.cell? ⟨w.heap.size, 1, none⟩ = some (.int .i64 r.1.kind) ∧ W.cell? ⟨w.heap.size, 2, none⟩ = some (.int .i64 r.1.owner) ∧ W.cell? ⟨w.heap.size, 3, none⟩ = some (.int .i64 r.1.key) ∧ W.cell? ⟨w.heap.size, 4, none⟩ = some (.int .i64 r.1.seq) ∧ W.cell? ⟨w.heap.size, 5, none⟩ = some (r.2) ∧ W.cell? ⟨w.heap.size, 6, none⟩ = some (.int .i64 r.1.cost) ∧ W.cell? ⟨w.heap.size, 7, none⟩ = some (.bool r.1.far)) (first | go_keep | (refine ⟨?_, ?_, ?_, ?_, ?_, ?_, ?_, ?_, ?_, ?_, ?_, ?_, ?_, ?_, ?_, ?_⟩ <;> (rw [hbc.cell (by assumption)]; assumption))) (first | (go_at_call 110; refine (HK.out _).mono ?_; rintro e w1 ⟨rfl, hbc⟩))
        go_wp2
        go_ret
        exact ⟨ret_int1 (by rw [atZ_found HPP.out HQQ.out.symm HALL.out]), BWR.trans ((Below.refl _ _).drew.trans (hbc.mono (show w.heap.size ≤ wr.heap.size by omega)))⟩
    · have hkn : k = ps.length := by omega
      have KN := hide hkn
      clear hkn
      go_wp2
      go_ret
      exact ⟨ret_int1 (by rw [atZ_none (by have h := HALL.out; rw [KN.out] at h; simpa [fsts] using h)]), BWR⟩

end Go.Proofs.YtchmmekhfcojgaaGreatDoor
