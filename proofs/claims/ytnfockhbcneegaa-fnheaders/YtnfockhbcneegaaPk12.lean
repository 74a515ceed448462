/-
  spec.l04Record: some right record.
  What slices.Insert needs: copy of a row of structs, append at two types, the lists of cells.
  slices.Insert at lists of records, one record put in: its three roads.
  Where a key stands in a list: spec.l05At, impl's placeOf.
  spec.l05At, impl's placeOf at lists that may share rows.
  spec.l05Put: its contract.
-/
import Derived.Test.YtnfockhbcneegaaPk11
import Derived.Test.YtnfockhbcneegaaPk5
import Derived.Test.YtnfockhbcneegaaPk2
import Derived.Shelf.Spec.SlicesInsertGrow
import Derived.Test.YtnfockhbcneegaaPk3
import Derived.Test.YtnfockhbcneegaaPk6
namespace Go.Proofs.Ytnfockhbcneegaa
open Go.RowKit

set_option linter.unusedSimpArgs false

/-- neighbours that were drawn, up to k -/
def NearUp (l : List Nr) (k : Int) (o : Int) : Prop := (∀ n ∈ l, 1 ≤ n.to ∧ n.to < k ∧ n.to ≠ o ∧ 1 ≤ n.c ∧ n.c ≤ 4) ∧ l.Pairwise (fun a b => a.to < b.to)

theorem NearUp.more {l : List Nr} {k k' o : Int} (h : NearUp l k o) (hk : k ≤ k') : NearUp l k' o := ⟨fun n hn => by have := h.1 n hn; omega, h.2⟩

theorem NearUp.push {l : List Nr} {k o y : Int} (h : NearUp l k o) (h1 : 1 ≤ k) (ho : k ≠ o) (hy0 : 0 ≤ y) (hy1 : y < 4) : NearUp (l ++ [⟨k, 1 + y⟩]) (k + 1) o := by
  refine ⟨?_, ?_⟩
  · intro n hn
    rcases List.mem_append.1 hn with h2 | h2
    · have := h.1 n h2; omega
    · have : n = ⟨k, 1 + y⟩ := by simpa using h2
      subst this
      simp only
      omega
  · rw [List.pairwise_append]
    refine ⟨h.2, by simp, ?_⟩
    intro a ha b hb
    have : b = ⟨k, 1 + y⟩ := by simpa using hb
    subst this
    exact (h.1 a ha).2.1

theorem NearUp.ok {l : List Nr} {o : Int} (h : NearUp l 7 o) : nearsB o l = true := by
  unfold nearsB allOk ascB
  rw [Bool.and_eq_true]
  refine ⟨all_true fun j hj => ?_, all_true fun j hj => ?_⟩
  · unfold okAt
    rw [List.getElem?_eq_getElem hj]
    have h1 := h.1 l[j] (List.getElem_mem hj)
    unfold nearOkB inB
    simp only [Bool.and_eq_true, decide_eq_true_eq, Bool.not_eq_true', beq_eq_false_iff_ne]
    omega
  · cases j with
    | zero => rfl
    | succ k =>
      rw [ascAt_eq (List.getElem?_eq_getElem (by omega)) (List.getElem?_eq_getElem hj)]
      have h2 := List.pairwise_iff_getElem.1 h.2 k (k + 1) (by omega) hj (by omega)
      unfold ordN
      simp only [decide_eq_true_eq]
      omega

theorem right_node {y1 y2 y3 : Int} {l : List Nr} (a0 : 0 ≤ y1) (a1 : y1 < 4) (b0 : 0 ≤ y2) (b1 : y2 < 3) (c0 : 0 ≤ y3) (c1 : y3 < 5) (h : NearUp l 7 (1 + y1)) : recOkB ⟨y2, 1, 1 + y1, 0, 1 + y3, l, 0, false⟩ = true := by
  have h1 := h.ok
  unfold recOkB
  simp only [h1]
  unfold inB
  simp
  omega

theorem right_beyond {y1 y2 y3 y4 y5 : Int} (a0 : 0 ≤ y1) (a1 : y1 < 4) (b0 : 0 ≤ y2) (b1 : y2 < 3) (c0 : 0 ≤ y3) (c1 : y3 < 5) (d0 : 0 ≤ y4) (d1 : y4 < 5) (e0 : 0 ≤ y5) (e1 : y5 ≤ 60000) : recOkB ⟨y2, 2, 1 + y1, 1 + y4, 1 + y3, [], y5, false⟩ = true := by
  unfold recOkB inB
  simp
  omega

theorem right_thing {y1 y3 y4 y5 : Int} {b : Bool} (a0 : 0 ≤ y1) (a1 : y1 < 4) (c0 : 0 ≤ y3) (c1 : y3 < 5) (d0 : 0 ≤ y4) (d1 : y4 < 3) (e : (1 ≤ y5 ∧ y5 ≤ 1000) ∨ y5 = 60000) : recOkB ⟨9, 3, 1 + y1, 1 + y4, 1 + y3, [], y5, b⟩ = true := by
  unfold recOkB inB
  simp
  omega

theorem five_cellsR (w : World) : ∀ k, k < 5 → ∃ z : Int, (0 ≤ z ∧ z ≤ 60000) ∧ (w.alloc (.cells #[.int .i64 0, .int .i64 1, .int .i64 2, .int .i64 5, .int .i64 60000] 3)).cell? ⟨w.heap.size, k, none⟩ = some (.int .i64 z) := by
  intro k hk
  have h := cells_at (heap_alloc_new w (.cells #[.int .i64 0, .int .i64 1, .int .i64 2, .int .i64 5, .int .i64 60000] 3)) k
  match k, hk with
  | 0, _ => exact ⟨_, by omega, h⟩
  | 1, _ => exact ⟨_, by omega, h⟩
  | 2, _ => exact ⟨_, by omega, h⟩
  | 3, _ => exact ⟨_, by omega, h⟩
  | 4, _ => exact ⟨_, by omega, h⟩

theorem fourb_cellsR (w : World) : ∀ k, k < 4 → ∃ z : Int, ((1 ≤ z ∧ z ≤ 1000) ∨ z = 60000) ∧ (w.alloc (.cells #[.int .i64 1, .int .i64 2, .int .i64 5, .int .i64 60000] 3)).cell? ⟨w.heap.size, k, none⟩ = some (.int .i64 z) := by
  intro k hk
  have h := cells_at (heap_alloc_new w (.cells #[.int .i64 1, .int .i64 2, .int .i64 5, .int .i64 60000] 3)) k
  match k, hk with
  | 0, _ => exact ⟨_, by omega, h⟩
  | 1, _ => exact ⟨_, by omega, h⟩
  | 2, _ => exact ⟨_, by omega, h⟩
  | 3, _ => exact ⟨_, by omega, h⟩

set_option maxRecDepth 100000 in
set_option maxHeartbeats 2000000 in
theorem recR_any (p : Nat) (a : Option Addr) (len cap : Nat) (w : World) (hc : Cur w p a len cap) :
    Calls Try.prog 44 #[.pointer (some ⟨p, 0, none⟩)] w fun e w' => ∃ (x : RecD) (v : Value), e = .returned (.agg (recC x v)) ∧ w'.ownsRow (w.heap.size + 1) 75 2 v x.near.length (flat nrE x.near) ∧ x.near.length ≤ 6 ∧ recOkB x = true ∧ Cur w' p a len cap ∧ w.grownBy w' (some p) := by
  have hp := lt_of_cur hc
  have HC := hide hc
  clear hc
  go_enter Try.func44, Try.ntmps44
  go_wp2_with fail
  refine (below_any p a len cap 3 _ (cur_alloc HC.out _) (by omega) (by omega)).mono ?_
  rintro e w1 ⟨y0, rfl, hy0, hy0', hc1, hg1⟩
  have r1 := hg1.block w.heap.size (by simp) (by simp; omega)
  rw [heap_alloc_new] at r1
  have b1 : w.grownBy w1 (some p) := gro_same (gro_alloc (gro_refl w _) _) hg1
  have C1 := hide hc1
  have R1 := hide r1
  have D1 := hide b1
  clear hc1 r1 b1 hg1 HC
  go_wp2_with fail
  refine (below_any p a len cap 4 _ C1.out (by omega) (by omega)).mono ?_
  rintro e w2 ⟨y1, rfl, hy1, hy1', hc2, hg2⟩
  have R2 := hide ((hg2.block _ (lt_of_heap R1.out) (by simp; omega)).trans R1.out)
  have D2 := hide (gro_same D1.out hg2)
  have C2 := hide hc2
  clear hc2 hg2 C1 R1 D1
  go_wp2_with fail
  refine (below_any p a len cap 3 _ C2.out (by omega) (by omega)).mono ?_
  rintro e w3 ⟨y2, rfl, hy2, hy2', hc3, hg3⟩
  have R3 := hide ((hg3.block _ (lt_of_heap R2.out) (by simp; omega)).trans R2.out)
  have D3 := hide (gro_same D2.out hg3)
  have C3 := hide hc3
  clear hc3 hg3 C2 R2 D2
  go_wp2_with fail
  refine (below_any p a len cap 5 _ C3.out (by omega) (by omega)).mono ?_
  rintro e w4 ⟨y3, rfl, hy3, hy3', hc4, hg4⟩
  have R4 := hide ((hg4.block _ (lt_of_heap R3.out) (by simp; omega)).trans R3.out)
  have D4 := hide (gro_same D3.out hg4)
  have hsz4 : w.heap.size < w4.heap.size := lt_of_heap R4.out
  have wr0 : IntKind.i64.wrap (1 + y0) = 1 + y0 := wrap_fit _ (by omega) (by omega)
  have wr1 : IntKind.i64.wrap (1 + y1) = 1 + y1 := wrap_fit _ (by omega) (by omega)
  have wr3 : IntKind.i64.wrap (1 + y3) = 1 + y3 := wrap_fit _ (by omega) (by omega)
  obtain ⟨x0, hx0⟩ : ∃ x : RecD, x = ⟨y2, 1 + y0, 1 + y1, 0, 1 + y3, [], 0, false⟩ := ⟨_, rfl⟩
  have st0 : RcSt w (w4.alloc (.cells #[.int .i64 y2, .int .i64 (1 + y0), .int .i64 (1 + y1), .int .i64 0, .int .i64 (1 + y3), .slice none 0 0, .int .i64 0, .bool false] 50)) p w.heap.size w4.heap.size a len cap (.slice none 0 0) x0 :=
    { cur := cur_alloc hc4 _
      low := Nat.le_refl _
      gro := gro_alloc D4.out _
      box := by rw [hx0]; exact heap_alloc_new w4 _
      res := (Below.heap_alloc _ _ _ hsz4).trans R4.out
      own := by rw [hx0]; exact ⟨rfl, .inl ⟨rfl, rfl⟩⟩
      djn := by simp [Value.ownBlock] }
  have ST0 := hide st0
  have HX0 := hide hx0
  have g1 := heap_alloc_new w4 (.cells #[.int .i64 y2, .int .i64 (1 + y0), .int .i64 (1 + y1), .int .i64 0, .int .i64 (1 + y3), .slice none 0 0, .int .i64 0, .bool false] 50)
  clear st0 hx0 hc4 hg4 R4 D4 C3 R3 D3 g1
  rcases (show y0 = 0 ∨ y0 = 1 ∨ y0 = 2 by omega) with rfl | rfl | rfl
  · rw [show (1 : Int) + 0 = 1 from rfl] at ST0 HX0
    go_wp2
    obtain ⟨z, hz⟩ : ∃ z, z = w4.heap.size := ⟨_, rfl⟩
    rw [← hz] at ST0 hsz4 ⊢
    generalize w4.alloc (.cells #[.int .i64 y2, .int .i64 1, .int .i64 (1 + y1), .int .i64 0, .int .i64 (1 + y3), .slice none 0 0, .int .i64 0, .bool false] 50) = w5 at *
    clear hz
    have hw5 : p < w.heap.size := hp
    go_loopw [4] (fun i wr => ∃ (k : Nat) (l : List Nr) (va : Option Addr) (vc : Nat), 1 ≤ k ∧ k ≤ 7 ∧ i = .int .i64 k ∧ l.length + 1 ≤ k ∧ Hid (NearUp l k x0.owner) ∧ RcSt w wr p w.heap.size z a len cap (.slice va l.length vc) { x0 with near := l }) (fun i _ => 8 - (intOf i).toNat)
    case atStart =>
      refine ⟨1, [], none, 0, by omega, by omega, rfl, by simp, hide ⟨by simp, by simp⟩, ?_⟩
      have e := ST0.out
      rw [show x0 = { x0 with near := [] } by rw [HX0.out]] at e
      exact e
    case round =>
      clear ST0
      obtain ⟨k, l, va, vc, hk1, hk7, rfl, hll, HUP, st⟩ := hrel
      have c2 := cells_at st.box 2
      simp only [recC] at c2
      have c2' : wr.cell? ⟨z, 2, none⟩ = some (.int .i64 x0.owner) := c2
      clear c2
      have ST := hide st
      clear st
      by_cases hk : k < 7
      · have hk6 : (k : Int) ≤ 6 := by omega
        by_cases ho : (k : Int) = x0.owner
        · have hd : ((k : Int) != x0.owner) = false := by simpa using ho
          clear ho
          go_wp2
          exact ⟨⟨k + 1, l, va, vc, by omega, by omega, by go_num, by omega, hide (HUP.out.more (by omega)), ST.out⟩, by simp [intOf]; omega⟩
        · have hd : ((k : Int) != x0.owner) = true := by simpa using ho
          have HO := hide ho
          clear ho
          go_wp2_with fail
          refine (once_any p a len cap 3 _ ST.out.cur (by omega) (by omega)).mono ?_
          rintro e w6 ⟨b, rfl, hc6, hg6⟩
          have ST6 := hide (ST.out.grown hc6 hg6 hp hsz4)
          clear hc6 hg6 ST c2'
          cases b
          · go_wp2
            exact ⟨⟨k + 1, l, va, vc, by omega, by omega, by go_num, by omega, hide (HUP.out.more (by omega)), ST6.out⟩, by simp [intOf]; omega⟩
          · go_wp2
            refine wp_region_noPanic ?_
            refine wp_region_start (S := fun _ => True) (by kernel_rfl) 11 rfl trivial ?_
            intro ops hops _
            refine rec_dag _ _ _ _ _ _ _ _ _ _ _ _ _ _ _ _ _ _ _ _ _ _ _ _ _ _ _ _ _ _ _ _ _ _ _ _ _ _ _ _ _ _ _ _ _ _ _ _ _ _ _ _ _ _ _ _ _ _ _ _ _ _ _ _ _ w _ p w.heap.size z a len cap va vc { x0 with near := l } (k : Int) _ ops hops (fun _ _ _ _ h => h) hp hsz4 (by show l.length ≤ 1000; omega) ST6.out.drew ?_
            intro W y na nc l' hl' hy0 hy1 st' sb
            refine NoPanic.normal ?_
            have hl7 : l'.length = l.length + 1 := by rw [hl'.out]; simp
            have HU7 := hide (show NearUp l' ((k + 1 : Nat) : Int) x0.owner by rw [hl'.out]; exact (HUP.out.push (by omega) HO.out hy0 hy1).more (by omega))
            have ST7 := hide st'
            clear st' hops ops
            go_wp2
            exact ⟨⟨k + 1, l', na, nc, by omega, by omega, by go_num, by omega, HU7, ST7.out⟩, by simp [intOf]; omega⟩
      · have hk6 : ¬ (k : Int) ≤ 6 := by omega
        have HLL := hide hll
        have HRI := hide (show recOkB { x0 with near := l } = true by
          have h7 : NearUp l 7 x0.owner := HUP.out.more (by omega)
          rw [HX0.out] at h7 ⊢
          exact right_node hy1 hy1' hy2 hy2' hy3 hy3' h7)
        clear c2'
        have yb := ST.out.box
        have ub := ST.out.res
        unfold recC at yb
        unfold zeroC at ub
        (try simp only [] at yb)
        have y0 := cells_at yb 0
        have y1 := cells_at yb 1
        have y2 := cells_at yb 2
        have y3 := cells_at yb 3
        have y4 := cells_at yb 4
        have y5 := cells_at yb 5
        have y6 := cells_at yb 6
        have y7 := cells_at yb 7
        have u0 := cells_at ub 0
        have u1 := cells_at ub 1
        have u2 := cells_at ub 2
        have u3 := cells_at ub 3
        have u4 := cells_at ub 4
        have u5 := cells_at ub 5
        have u6 := cells_at ub 6
        have u7 := cells_at ub 7
        simp at y0 y1 y2 y3 y4 y5 y6 y7 u0 u1 u2 u3 u4 u5 u6 u7
        have fu := frozen_at ub
        clear yb ub
        go_wp2_with fail
        (try simp only [Exit.inBlock, Exit.then])
        have F := ST.out.fin hp (by have := lt_of_heap ST.out.box; omega)
        refine bodyPost_ret (results_cell_row rfl _ _ w.heap.size 50 (recC _ _) (0, 0) _ rfl F.1 Try.underlying50 rfl (by kernel_rfl)) rfl ?_
        exact ⟨_, _, rfl, F.2.2.2, (by show l.length ≤ 6; have := HLL.out; omega), HRI.out, F.2.1, F.2.2.1⟩
  · rw [show (1 : Int) + 1 = 2 from rfl] at ST0 HX0
    have hz0 : w4.heap.size = w4.heap.size := rfl
    go_wp2_with fail
    obtain ⟨z, hz⟩ : ∃ z, z = w4.heap.size := ⟨_, rfl⟩
    rw [← hz] at ST0 hsz4 ⊢
    generalize w4.alloc (.cells #[.int .i64 y2, .int .i64 2, .int .i64 (1 + y1), .int .i64 0, .int .i64 (1 + y3), .slice none 0 0, .int .i64 0, .bool false] 50) = w5 at *
    clear hz hz0
    refine (below_any p a len cap 5 _ ST0.out.cur (by omega) (by omega)).mono ?_
    rintro e w6 ⟨y4, rfl, hy4, hy4', hc6, hg6⟩
    have ST6 := hide (ST0.out.grown hc6 hg6 hp hsz4)
    have wr4 : IntKind.i64.wrap (1 + y4) = 1 + y4 := wrap_fit _ (by omega) (by omega)
    have sb := ST6.out.box
    unfold recC at sb
    have s3 := cells_at sb 3
    have f3 := frozen_at sb
    simp at s3
    have ST7 := hide (ST6.out.set 3 (.int .i64 (1 + y4)) { x0 with key := 1 + y4 } rfl rfl hp hsz4)
    clear hc6 hg6 ST0 ST6 sb
    have hs7 : (w6.setCell ⟨z, 3, none⟩ (.int .i64 (1 + y4))).heap.size = w6.heap.size := by simp
    have fc := five_cellsR (w6.setCell ⟨z, 3, none⟩ (.int .i64 (1 + y4)))
    rw [hs7] at fc
    have FC := hide fc
    have hp6 : p < w6.heap.size := by have := lt_of_cur ST7.out.cur; omega
    clear hs7 fc
    go_wp2_with fail
    refine (pickR_any (fun z => 0 ≤ z ∧ z ≤ 60000) p a len cap w6.heap.size 5 _ (cur_alloc ST7.out.cur _) (by omega) (by omega) (by omega) FC.out).mono ?_
    rintro e w8 ⟨y5, rfl, hp5, hc8, hg8⟩
    have ST8 := hide ((ST7.out.alloc _).grown hc8 hg8 hp hsz4)
    have sb := ST8.out.box
    unfold recC at sb
    have s6 := cells_at sb 6
    have f6 := frozen_at sb
    simp at s6
    have ST9 := hide (ST8.out.set 6 (.int .i64 y5) { x0 with key := 1 + y4, cost := y5 } rfl rfl hp hsz4)
    have HRI := hide (show recOkB { x0 with key := 1 + y4, cost := y5 } = true by rw [HX0.out]; exact right_beyond hy1 hy1' hy2 hy2' hy3 hy3' hy4 hy4' hp5.1 hp5.2)
    have HL0 := hide (show x0.near.length ≤ 6 by rw [HX0.out]; simp)
    clear hc8 hg8 ST7 ST8 sb s3 f3 FC
    have yb := ST9.out.box
    have ub := ST9.out.res
    unfold recC at yb
    unfold zeroC at ub
    (try simp only [] at yb)
    have y0 := cells_at yb 0
    have y1 := cells_at yb 1
    have y2 := cells_at yb 2
    have y3 := cells_at yb 3
    have y4 := cells_at yb 4
    have y5 := cells_at yb 5
    have y6 := cells_at yb 6
    have y7 := cells_at yb 7
    have u0 := cells_at ub 0
    have u1 := cells_at ub 1
    have u2 := cells_at ub 2
    have u3 := cells_at ub 3
    have u4 := cells_at ub 4
    have u5 := cells_at ub 5
    have u6 := cells_at ub 6
    have u7 := cells_at ub 7
    simp at y0 y1 y2 y3 y4 y5 y6 y7 u0 u1 u2 u3 u4 u5 u6 u7
    have fu := frozen_at ub
    clear yb ub
    go_wp2_with fail
    (try simp only [Exit.inBlock, Exit.then])
    have F := ST9.out.fin hp (by have := lt_of_heap ST9.out.box; omega)
    refine bodyPost_ret (results_cell_row rfl _ _ w.heap.size 50 (recC _ _) (0, 0) _ rfl F.1 Try.underlying50 rfl (by kernel_rfl)) rfl ?_
    exact ⟨_, _, rfl, F.2.2.2, HL0.out, HRI.out, F.2.1, F.2.2.1⟩
  · rw [show (1 : Int) + 2 = 3 from rfl] at ST0 HX0
    have hz0 : w4.heap.size = w4.heap.size := rfl
    have ST5 := hide (ST0.out.set 0 (.int .i64 9) { x0 with area := 9 } rfl rfl hp hsz4)
    rw [World.setCell_alloc_new] at ST5
    go_wp2_with fail
    obtain ⟨z, hz⟩ : ∃ z, z = w4.heap.size := ⟨_, rfl⟩
    rw [← hz] at ST0 ST5 hsz4 ⊢
    have ST5' : Hid (RcSt w (w4.alloc (.cells #[.int .i64 9, .int .i64 3, .int .i64 (1 + y1), .int .i64 0, .int .i64 (1 + y3), .slice none 0 0, .int .i64 0, .bool false] 50)) p w.heap.size z a len cap (.slice none 0 0) { x0 with area := 9 }) := ST5
    clear ST5
    have ST5 := ST5'
    clear ST5' ST0
    generalize w4.alloc (.cells #[.int .i64 9, .int .i64 3, .int .i64 (1 + y1), .int .i64 0, .int .i64 (1 + y3), .slice none 0 0, .int .i64 0, .bool false] 50) = w5 at *
    clear hz hz0
    refine (below_any p a len cap 3 _ ST5.out.cur (by omega) (by omega)).mono ?_
    rintro e w6 ⟨y4, rfl, hy4, hy4', hc6, hg6⟩
    have ST6 := hide (ST5.out.grown hc6 hg6 hp hsz4)
    have wr4 : IntKind.i64.wrap (1 + y4) = 1 + y4 := wrap_fit _ (by omega) (by omega)
    have sb := ST6.out.box
    unfold recC at sb
    have s3 := cells_at sb 3
    have f3 := frozen_at sb
    simp at s3
    have ST7 := hide (ST6.out.set 3 (.int .i64 (1 + y4)) { x0 with area := 9, key := 1 + y4 } rfl rfl hp hsz4)
    clear hc6 hg6 ST5 ST6 sb
    have hs7 : (w6.setCell ⟨z, 3, none⟩ (.int .i64 (1 + y4))).heap.size = w6.heap.size := by simp
    have fc := fourb_cellsR (w6.setCell ⟨z, 3, none⟩ (.int .i64 (1 + y4)))
    rw [hs7] at fc
    have FC := hide fc
    have hp6 : p < w6.heap.size := by have := lt_of_cur ST7.out.cur; omega
    clear hs7 fc
    go_wp2_with fail
    refine (pickR_any (fun z => (1 ≤ z ∧ z ≤ 1000) ∨ z = 60000) p a len cap w6.heap.size 4 _ (cur_alloc ST7.out.cur _) (by omega) (by omega) (by omega) FC.out).mono ?_
    rintro e w8 ⟨y5, rfl, hp5, hc8, hg8⟩
    have ST8 := hide ((ST7.out.alloc _).grown hc8 hg8 hp hsz4)
    have sb := ST8.out.box
    unfold recC at sb
    have s6 := cells_at sb 6
    have f6 := frozen_at sb
    simp at s6
    have ST9 := hide (ST8.out.set 6 (.int .i64 y5) { x0 with area := 9, key := 1 + y4, cost := y5 } rfl rfl hp hsz4)
    have HL0 := hide (show x0.near.length ≤ 6 by rw [HX0.out]; simp)
    clear hc8 hg8 ST7 ST8 sb s3 f3 FC
    go_wp2_with fail
    refine (once_any p a len cap 2 _ ST9.out.cur (by omega) (by omega)).mono ?_
    rintro e wA ⟨b, rfl, hcA, hgA⟩
    have STA := hide (ST9.out.grown hcA hgA hp hsz4)
    have sb := STA.out.box
    unfold recC at sb
    have s7 := cells_at sb 7
    have f7 := frozen_at sb
    simp at s7
    have STB := hide (STA.out.set 7 (.bool b) { x0 with area := 9, key := 1 + y4, cost := y5, far := b } rfl rfl hp hsz4)
    have HRI := hide (show recOkB { x0 with area := 9, key := 1 + y4, cost := y5, far := b } = true by rw [HX0.out]; exact right_thing hy1 hy1' hy3 hy3' hy4 hy4' hp5)
    clear hcA hgA ST9 STA sb s6 f6
    have yb := STB.out.box
    have ub := STB.out.res
    unfold recC at yb
    unfold zeroC at ub
    (try simp only [] at yb)
    have y0 := cells_at yb 0
    have y1 := cells_at yb 1
    have y2 := cells_at yb 2
    have y3 := cells_at yb 3
    have y4 := cells_at yb 4
    have y5 := cells_at yb 5
    have y6 := cells_at yb 6
    have y7 := cells_at yb 7
    have u0 := cells_at ub 0
    have u1 := cells_at ub 1
    have u2 := cells_at ub 2
    have u3 := cells_at ub 3
    have u4 := cells_at ub 4
    have u5 := cells_at ub 5
    have u6 := cells_at ub 6
    have u7 := cells_at ub 7
    simp at y0 y1 y2 y3 y4 y5 y6 y7 u0 u1 u2 u3 u4 u5 u6 u7
    have fu := frozen_at ub
    clear yb ub
    go_wp2_with fail
    (try simp only [Exit.inBlock, Exit.then])
    have F := STB.out.fin hp (by have := lt_of_heap STB.out.box; omega)
    refine bodyPost_ret (results_cell_row rfl _ _ w.heap.size 50 (recC _ _) (0, 0) _ rfl F.1 Try.underlying50 rfl (by kernel_rfl)) rfl ?_
    exact ⟨_, _, rfl, F.2.2.2, HL0.out, HRI.out, F.2.1, F.2.2.1⟩

end Go.Proofs.Ytnfockhbcneegaa
namespace Go.Proofs.Ytnfockhbcneegaa
open Go.RowKit

end Go.Proofs.Ytnfockhbcneegaa
namespace Go.Proofs.Ytnfockhbcneegaa
open Go.RowKit

set_option linter.unusedSimpArgs false
set_option linter.unusedVariables false

end Go.Proofs.Ytnfockhbcneegaa
namespace Go.Proofs.Ytnfockhbcneegaa
open Go.RowKit

/-- the first place of a key, -1 without one -/
def atZ (xs : List RecD) (r : RecD) : Int := match xs.findIdx? (fun x => sameKeyB x r) with
  | some i => (i : Int)
  | none => -1

theorem atZ_found {xs : List RecD} {r x : RecD} {k : Nat} (hk : xs[k]? = some x) (hs : sameKeyB x r = true) (hall : ∀ j, j < k → ∀ y, xs[j]? = some y → sameKeyB y r = false) : atZ xs r = (k : Int) := by
  obtain ⟨h1, e1⟩ := List.getElem?_eq_some_iff.1 hk
  have : xs.findIdx? (fun x => sameKeyB x r) = some k := by
    rw [List.findIdx?_eq_some_iff_getElem]
    refine ⟨h1, by rw [e1]; exact hs, fun j hj => ?_⟩
    have := hall j hj xs[j] (List.getElem?_eq_getElem (by omega))
    simp [this]
  unfold atZ
  rw [this]

theorem atZ_none {xs : List RecD} {r : RecD} (hall : ∀ j, j < xs.length → ∀ y, xs[j]? = some y → sameKeyB y r = false) : atZ xs r = -1 := by
  have : xs.findIdx? (fun x => sameKeyB x r) = none := by
    rw [List.findIdx?_eq_none_iff]
    intro x hx
    obtain ⟨i, hi, e⟩ := List.getElem_of_mem hx
    exact hall i hi x (by rw [← e]; exact List.getElem?_eq_getElem hi)
  unfold atZ
  rw [this]

theorem atZ_cases (xs : List RecD) (r : RecD) : atZ xs r = -1 ∨ ∃ (k : Nat) (x : RecD), atZ xs r = (k : Int) ∧ xs[k]? = some x ∧ sameKeyB x r = true := by
  unfold atZ
  cases h : xs.findIdx? (fun x => sameKeyB x r) with
  | none => exact .inl rfl
  | some i =>
    obtain ⟨h1, h2, _⟩ := List.findIdx?_eq_some_iff_getElem.1 h
    exact .inr ⟨i, xs[i], rfl, List.getElem?_eq_getElem h1, h2⟩

set_option maxRecDepth 100000 in
set_option maxHeartbeats 2000000 in
theorem sat_any (v : Value) (ps : List RP) (lo hi : Nat) (r : RP) (w : World) (hv : RecsOwn w lo hi v ps) (hhi : hi ≤ w.heap.size) (hn : tot ps ≤ 1048576) :
    Calls Try.prog 27 #[v, .agg (recC r.1 r.2)] w fun e w' => e = .returned (.int .i64 (atZ (fsts ps) r.1)) ∧ Below w.heap.size w w' := by
  have hnl := tot_len ps
  obtain ⟨a1, c1, rfl⟩ := owns_lenS hv.row
  have HV := hide hv
  clear hv
  have BX := (Below.refl w.heap.size w).alloc (Nat.le_refl _) (.cells (recC r.1 r.2) 50)
  have hx := heap_alloc_new w (.cells (recC r.1 r.2) 50)
  obtain ⟨wx, hwx⟩ : ∃ wx, wx = w.alloc (.cells (recC r.1 r.2) 50) := ⟨_, rfl⟩
  rw [← hwx] at BX hx
  unfold recC at *
  go_enter Try.func27, Try.ntmps27
  go_wp2
  rw [← hwx]
  have HX := hide hx
  clear hwx hx
  go_loopw [5] (fun i wr => ∃ (k : Nat), k ≤ ps.length ∧ i = .int .i64 k ∧ (∀ j, j < k → ∀ y, (fsts ps)[j]? = some y → sameKeyB y r.1 = false) ∧ Below wx.heap.size wx wr) (fun i _ => ps.length - (intOf i).toNat)
  case atStart => exact ⟨0, by omega, rfl, by omega, Below.refl _ _⟩
  case round =>
    obtain ⟨k, hk, rfl, hall, hnx⟩ := hrel
    have HALL := hide hall
    clear hall
    have hsz := hnx.size
    have hsx := lt_of_heap HX.out
    have BWR : Below w.heap.size w wr := BX.trans (hnx.mono (by omega))
    by_cases hlt : k < ps.length
    · obtain ⟨p, hp⟩ : ∃ p, ps[k]? = some p := ⟨ps[k], List.getElem?_eq_getElem hlt⟩
      have hat := HV.out.at
      obtain ⟨b, off, cap', hve, hbb, c0, c1, c2, c3, c4, c5, c6, c7, _⟩ := hat.cells k p hp
      cases hve
      rw [← BWR.cell (p := ⟨b, off + k * 8, none⟩) (Nat.lt_of_lt_of_le hbb hhi)] at c0
      rw [← BWR.cell (p := ⟨b, off + k * 8 + 1, none⟩) (Nat.lt_of_lt_of_le hbb hhi)] at c1
      rw [← BWR.cell (p := ⟨b, off + k * 8 + 2, none⟩) (Nat.lt_of_lt_of_le hbb hhi)] at c2
      rw [← BWR.cell (p := ⟨b, off + k * 8 + 3, none⟩) (Nat.lt_of_lt_of_le hbb hhi)] at c3
      rw [← BWR.cell (p := ⟨b, off + k * 8 + 4, none⟩) (Nat.lt_of_lt_of_le hbb hhi)] at c4
      rw [← BWR.cell (p := ⟨b, off + k * 8 + 5, none⟩) (Nat.lt_of_lt_of_le hbb hhi)] at c5
      rw [← BWR.cell (p := ⟨b, off + k * 8 + 6, none⟩) (Nat.lt_of_lt_of_le hbb hhi)] at c6
      rw [← BWR.cell (p := ⟨b, off + k * 8 + 7, none⟩) (Nat.lt_of_lt_of_le hbb hhi)] at c7
      have hxx := (hnx.block _ hsx).trans HX.out
      have d0 := cells_at hxx 0
      have d1 := cells_at hxx 1
      have d2 := cells_at hxx 2
      have d3 := cells_at hxx 3
      have d4 := cells_at hxx 4
      have d5 := cells_at hxx 5
      have d6 := cells_at hxx 6
      have d7 := cells_at hxx 7
      simp at d0 d1 d2 d3 d4 d5 d6 d7
      have hb1 : b < wr.heap.size := by omega
      have hb2 : w.heap.size < wr.heap.size := by omega
      have hki : (0 : Int) ≤ (k : Int) := by omega
      have hkj : (k : Int) < (ps.length : Int) := by omega
      have hq := fun W => ssameKey_any p.2 r.2 p.1 r.1 W
      unfold recC at hq
      obtain ⟨q, hqq⟩ : ∃ q, q = sameKeyB p.1 r.1 := ⟨_, rfl⟩
      rw [← hqq] at hq
      have HK := hide hq
      have HQQ := hide hqq
      have HPP := hide (fsts_at hp)
      clear hq hqq hp hat hxx
      cases q
      · go_wp2
        go_region_held3 (fun W => W.cell? ⟨b, off + k * 8, none⟩ = some (.int .i64 p.1.area) ∧ W.cell? ⟨b, off + k * 8 + 1, none⟩ = some (.int .i64 p.1.kind) ∧ W.cell? ⟨b, off + k * 8 + 2, none⟩ = some (.int .i64 p.1.owner) ∧ W.cell? ⟨b, off + k * 8 + 3, none⟩ = some (.int .i64 p.1.key) ∧ W.cell? ⟨b, off + k * 8 + 4, none⟩ = some (.int .i64 p.1.seq) ∧ W.cell? ⟨b, off + k * 8 + 5, none⟩ = some (p.2) ∧ W.cell? ⟨b, off + k * 8 + 6, none⟩ = some (.int .i64 p.1.cost) ∧ W.cell? ⟨b, off + k * 8 + 7, none⟩ = some (.bool p.1.far) ∧ W.cell? ⟨w.heap.size, 0, none⟩ = some (.int .i64 r.1.area) ∧ W.cell? ⟨w.heap.size, 1, none⟩ = some (.int .i64 r.1.kind) ∧ W.cell? ⟨w.heap.size, 2, none⟩ = some (.int .i64 r.1.owner) ∧ W.cell? ⟨w.heap.size, 3, none⟩ = some (.int .i64 r.1.key) ∧ W.cell? ⟨w.heap.size, 4, none⟩ = some (.int .i64 r.1.seq) ∧ W.cell? ⟨w.heap.size, 5, none⟩ = some (r.2) ∧ W.cell? ⟨w.heap.size, 6, none⟩ = some (.int .i64 r.1.cost) ∧ W.cell? ⟨w.heap.size, 7, none⟩ = some (.bool r.1.far)) (first | go_keep | (refine ⟨?_, ?_, ?_, ?_, ?_, ?_, ?_, ?_, ?_, ?_, ?_, ?_, ?_, ?_, ?_, ?_⟩ <;> (rw [hbc.cell (by assumption)]; assumption))) (first | (go_at_call 46; refine (HK.out _).mono ?_; rintro e w1 ⟨rfl, hbc⟩))
        go_wp2
        go_roundw
        case rel => exact ⟨k + 1, by omega, by go_num, (fun j hj y hy => by
          by_cases e : j = k
          · subst e; rw [HPP.out] at hy; cases hy; exact HQQ.out.symm
          · exact HALL.out j (by omega) y hy), hnx.trans ((Below.refl _ _).drew.trans (hbc.mono hsz))⟩
        case measure => simp [intOf]; omega
      · go_wp2
        go_region_held3 (fun W => W.cell? ⟨b, off + k * 8, none⟩ = some (.int .i64 p.1.area) ∧ W.cell? ⟨b, off + k * 8 + 1, none⟩ = some (.int .i64 p.1.kind) ∧ W.cell? ⟨b, off + k * 8 + 2, none⟩ = some (.int .i64 p.1.owner) ∧ W.cell? ⟨b, off + k * 8 + 3, none⟩ = some (.int .i64 p.1.key) ∧ W.cell? ⟨b, off + k * 8 + 4, none⟩ = some (.int .i64 p.1.seq) ∧ W.cell? ⟨b, off + k * 8 + 5, none⟩ = some (p.2) ∧ W.cell? ⟨b, off + k * 8 + 6, none⟩ = some (.int .i64 p.1.cost) ∧ W.cell? ⟨b, off + k * 8 + 7, none⟩ = some (.bool p.1.far) ∧ W.cell? ⟨w.heap.size, 0, none⟩ = some (.int .i64 r.1.area) ∧ W.cell? ⟨w.heap.size, 1, none⟩ = some (.int .i64 r.1.kind) ∧ W.cell? ⟨w.heap.size, 2, none⟩ = some (.int .i64 r.1.owner) ∧ W.cell? ⟨w.heap.size, 3, none⟩ = some (.int .i64 r.1.key) ∧ W.cell? ⟨w.heap.size, 4, none⟩ = some (.int .i64 r.1.seq) ∧ W.cell? ⟨w.heap.size, 5, none⟩ = some (r.2) ∧ W.cell? ⟨w.heap.size, 6, none⟩ = some (.int .i64 r.1.cost) ∧ W.cell? ⟨w.heap.size, 7, none⟩ = some (.bool r.1.far)) (first | go_keep | (refine ⟨?_, ?_, ?_, ?_, ?_, ?_, ?_, ?_, ?_, ?_, ?_, ?_, ?_, ?_, ?_, ?_⟩ <;> (rw [hbc.cell (by assumption)]; assumption))) (first | (go_at_call 46; refine (HK.out _).mono ?_; rintro e w1 ⟨rfl, hbc⟩))
        go_wp2
        go_ret
        exact ⟨ret_int1 (by rw [atZ_found HPP.out HQQ.out.symm HALL.out]), BWR.trans ((Below.refl _ _).drew.trans (hbc.mono (show w.heap.size ≤ wr.heap.size by omega)))⟩
    · have hkn : k = ps.length := by omega
      have KN := hide hkn
      clear hkn
      go_wp2
      go_ret
      exact ⟨ret_int1 (by rw [atZ_none (by have h := HALL.out; rw [KN.out] at h; simpa [fsts] using h)]), BWR⟩

end Go.Proofs.Ytnfockhbcneegaa
namespace Go.Proofs.Ytnfockhbcneegaa
open Go.RowKit

set_option maxRecDepth 100000 in
set_option maxHeartbeats 2000000 in
theorem satI_any (v : Value) (ps : List RP) (hi : Nat) (r : RP) (w : World) (hv : RecsIn w hi v ps) (hhi : hi ≤ w.heap.size) (hn : tot ps ≤ 1048576) :
    Calls Try.prog 27 #[v, .agg (recC r.1 r.2)] w fun e w' => e = .returned (.int .i64 (atZ (fsts ps) r.1)) ∧ Below w.heap.size w w' := by
  have hnl := tot_len ps
  obtain ⟨a1, c1, rfl⟩ := owns_lenS hv.row
  have HV := hide hv
  clear hv
  have BX := (Below.refl w.heap.size w).alloc (Nat.le_refl _) (.cells (recC r.1 r.2) 50)
  have hx := heap_alloc_new w (.cells (recC r.1 r.2) 50)
  obtain ⟨wx, hwx⟩ : ∃ wx, wx = w.alloc (.cells (recC r.1 r.2) 50) := ⟨_, rfl⟩
  rw [← hwx] at BX hx
  unfold recC at *
  go_enter Try.func27, Try.ntmps27
  go_wp2
  rw [← hwx]
  have HX := hide hx
  clear hwx hx
  go_loopw [5] (fun i wr => ∃ (k : Nat), k ≤ ps.length ∧ i = .int .i64 k ∧ (∀ j, j < k → ∀ y, (fsts ps)[j]? = some y → sameKeyB y r.1 = false) ∧ Below wx.heap.size wx wr) (fun i _ => ps.length - (intOf i).toNat)
  case atStart => exact ⟨0, by omega, rfl, by omega, Below.refl _ _⟩
  case round =>
    obtain ⟨k, hk, rfl, hall, hnx⟩ := hrel
    have HALL := hide hall
    clear hall
    have hsz := hnx.size
    have hsx := lt_of_heap HX.out
    have BWR : Below w.heap.size w wr := BX.trans (hnx.mono (by omega))
    by_cases hlt : k < ps.length
    · obtain ⟨p, hp⟩ : ∃ p, ps[k]? = some p := ⟨ps[k], List.getElem?_eq_getElem hlt⟩
      have hat := HV.out.at
      obtain ⟨b, off, cap', hve, hbb, c0, c1, c2, c3, c4, c5, c6, c7, _⟩ := hat.cells k p hp
      cases hve
      rw [← BWR.cell (p := ⟨b, off + k * 8, none⟩) (Nat.lt_of_lt_of_le hbb hhi)] at c0
      rw [← BWR.cell (p := ⟨b, off + k * 8 + 1, none⟩) (Nat.lt_of_lt_of_le hbb hhi)] at c1
      rw [← BWR.cell (p := ⟨b, off + k * 8 + 2, none⟩) (Nat.lt_of_lt_of_le hbb hhi)] at c2
      rw [← BWR.cell (p := ⟨b, off + k * 8 + 3, none⟩) (Nat.lt_of_lt_of_le hbb hhi)] at c3
      rw [← BWR.cell (p := ⟨b, off + k * 8 + 4, none⟩) (Nat.lt_of_lt_of_le hbb hhi)] at c4
      rw [← BWR.cell (p := ⟨b, off + k * 8 + 5, none⟩) (Nat.lt_of_lt_of_le hbb hhi)] at c5
      rw [← BWR.cell (p := ⟨b, off + k * 8 + 6, none⟩) (Nat.lt_of_lt_of_le hbb hhi)] at c6
      rw [← BWR.cell (p := ⟨b, off + k * 8 + 7, none⟩) (Nat.lt_of_lt_of_le hbb hhi)] at c7
      have hxx := (hnx.block _ hsx).trans HX.out
      have d0 := cells_at hxx 0
      have d1 := cells_at hxx 1
      have d2 := cells_at hxx 2
      have d3 := cells_at hxx 3
      have d4 := cells_at hxx 4
      have d5 := cells_at hxx 5
      have d6 := cells_at hxx 6
      have d7 := cells_at hxx 7
      simp at d0 d1 d2 d3 d4 d5 d6 d7
      have hb1 : b < wr.heap.size := by omega
      have hb2 : w.heap.size < wr.heap.size := by omega
      have hki : (0 : Int) ≤ (k : Int) := by omega
      have hkj : (k : Int) < (ps.length : Int) := by omega
      have hq := fun W => ssameKey_any p.2 r.2 p.1 r.1 W
      unfold recC at hq
      obtain ⟨q, hqq⟩ : ∃ q, q = sameKeyB p.1 r.1 := ⟨_, rfl⟩
      rw [← hqq] at hq
      have HK := hide hq
      have HQQ := hide hqq
      have HPP := hide (fsts_at hp)
      clear hq hqq hp hat hxx
      cases q
      · go_wp2
        go_region_held3 (fun W => W.cell? ⟨b, off + k * 8, none⟩ = some (.int .i64 p.1.area) ∧ W.cell? ⟨b, off + k * 8 + 1, none⟩ = some (.int .i64 p.1.kind) ∧ W.cell? ⟨b, off + k * 8 + 2, none⟩ = some (.int .i64 p.1.owner) ∧ W.cell? ⟨b, off + k * 8 + 3, none⟩ = some (.int .i64 p.1.key) ∧ W.cell? ⟨b, off + k * 8 + 4, none⟩ = some (.int .i64 p.1.seq) ∧ W.cell? ⟨b, off + k * 8 + 5, none⟩ = some (p.2) ∧ W.cell? ⟨b, off + k * 8 + 6, none⟩ = some (.int .i64 p.1.cost) ∧ W.cell? ⟨b, off + k * 8 + 7, none⟩ = some (.bool p.1.far) ∧ W.cell? ⟨w.heap.size, 0, none⟩ = some (.int .i64 r.1.area) ∧ W.cell? ⟨w.heap.size, 1, none⟩ = some (.int .i64 r.1.kind) ∧ W.cell? ⟨w.heap.size, 2, none⟩ = some (.int .i64 r.1.owner) ∧ W.cell? ⟨w.heap.size, 3, none⟩ = some (.int .i64 r.1.key) ∧ W.cell? ⟨w.heap.size, 4, none⟩ = some (.int .i64 r.1.seq) ∧ W.cell? ⟨w.heap.size, 5, none⟩ = some (r.2) ∧ W.cell? ⟨w.heap.size, 6, none⟩ = some (.int .i64 r.1.cost) ∧ W.cell? ⟨w.heap.size, 7, none⟩ = some (.bool r.1.far)) (first | go_keep | (refine ⟨?_, ?_, ?_, ?_, ?_, ?_, ?_, ?_, ?_, ?_, ?_, ?_, ?_, ?_, ?_, ?_⟩ <;> (rw [hbc.cell (by assumption)]; assumption))) (first | (go_at_call 46; refine (HK.out _).mono ?_; rintro e w1 ⟨rfl, hbc⟩))
        go_wp2
        go_roundw
        case rel => exact ⟨k + 1, by omega, by go_num, (fun j hj y hy => by
          by_cases e : j = k
          · subst e; rw [HPP.out] at hy; cases hy; exact HQQ.out.symm
          · exact HALL.out j (by omega) y hy), hnx.trans ((Below.refl _ _).drew.trans (hbc.mono hsz))⟩
        case measure => simp [intOf]; omega
      · go_wp2
        go_region_held3 (fun W => W.cell? ⟨b, off + k * 8, none⟩ = some (.int .i64 p.1.area) ∧ W.cell? ⟨b, off + k * 8 + 1, none⟩ = some (.int .i64 p.1.kind) ∧ W.cell? ⟨b, off + k * 8 + 2, none⟩ = some (.int .i64 p.1.owner) ∧ W.cell? ⟨b, off + k * 8 + 3, none⟩ = some (.int .i64 p.1.key) ∧ W.cell? ⟨b, off + k * 8 + 4, none⟩ = some (.int .i64 p.1.seq) ∧ W.cell? ⟨b, off + k * 8 + 5, none⟩ = some (p.2) ∧ W.cell? ⟨b, off + k * 8 + 6, none⟩ = some (.int .i64 p.1.cost) ∧ W.cell? ⟨b, off + k * 8 + 7, none⟩ = some (.bool p.1.far) ∧ W.cell? ⟨w.heap.size, 0, none⟩ = some (.int .i64 r.1.area) ∧ W.cell? ⟨w.heap.size, 1, none⟩ = some (.int .i64 r.1.kind) ∧ W.cell? ⟨w.heap.size, 2, none⟩ = some (.int .i64 r.1.owner) ∧ W.cell? ⟨w.heap.size, 3, none⟩ = some (.int .i64 r.1.key) ∧ W.cell? ⟨w.heap.size, 4, none⟩ = some (.int .i64 r.1.seq) ∧ W.cell? ⟨w.heap.size, 5, none⟩ = some (r.2) ∧ W.cell? ⟨w.heap.size, 6, none⟩ = some (.int .i64 r.1.cost) ∧ W.cell? ⟨w.heap.size, 7, none⟩ = some (.bool r.1.far)) (first | go_keep | (refine ⟨?_, ?_, ?_, ?_, ?_, ?_, ?_, ?_, ?_, ?_, ?_, ?_, ?_, ?_, ?_, ?_⟩ <;> (rw [hbc.cell (by assumption)]; assumption))) (first | (go_at_call 46; refine (HK.out _).mono ?_; rintro e w1 ⟨rfl, hbc⟩))
        go_wp2
        go_ret
        exact ⟨ret_int1 (by rw [atZ_found HPP.out HQQ.out.symm HALL.out]), BWR.trans ((Below.refl _ _).drew.trans (hbc.mono (show w.heap.size ≤ wr.heap.size by omega)))⟩
    · have hkn : k = ps.length := by omega
      have KN := hide hkn
      clear hkn
      go_wp2
      go_ret
      exact ⟨ret_int1 (by rw [atZ_none (by have h := HALL.out; rw [KN.out] at h; simpa [fsts] using h)]), BWR⟩

end Go.Proofs.Ytnfockhbcneegaa
namespace Go.Proofs.Ytnfockhbcneegaa
open Go.RowKit

set_option linter.unusedSimpArgs false

/-- r put into its place -/
def putL (ps : List RP) (r : RP) : List RP := ps.filter (fun p => beforeB p.1 r.1) ++ [r] ++ ps.filter (fun p => beforeB r.1 p.1)

theorem filt_take {ps : List RP} {k : Nat} {p : RP} (f : RP → Bool) (h : ps[k]? = some p) : (ps.take (k + 1)).filter f = (ps.take k).filter f ++ (if f p then [p] else []) := by
  obtain ⟨hk, e⟩ := List.getElem?_eq_some_iff.1 h
  rw [List.take_succ_eq_append_getElem hk, List.filter_append, e]
  congr 1
  by_cases hf : f p <;> simp [hf]

set_option maxRecDepth 100000 in
set_option maxHeartbeats 4000000 in
theorem put_fine (v : Value) (ps : List RP) (hi : Nat) (r : RP) (w : World) (hv : RecsIn w hi v ps) (hhi : hi ≤ w.heap.size) (hn : tot ps ≤ 1048576) (hr : NearOwn w 0 hi r) :
    Calls Try.prog 56 #[v, .agg (recC r.1 r.2)] w fun e w' => ∃ x, e = .returned x ∧ RecsIn w' w'.heap.size x (putL ps r) ∧ Below w.heap.size w w' ∧ ∀ k, x.ownBlock = some k → w.heap.size ≤ k := by
  unfold putL
  have hnl := tot_len ps
  obtain ⟨a1, c1, rfl⟩ := owns_lenS hv.row
  obtain ⟨ra, rc, hrn⟩ := owns_lenS hr.1
  have HRN := hide hrn
  have HR := hide hr
  have HV := hide hv
  unfold recC
  rw [hrn]
  clear hv hr hrn
  have BX : Below w.heap.size w (w.alloc (.cells #[.int .i64 r.1.area, .int .i64 r.1.kind, .int .i64 r.1.owner, .int .i64 r.1.key, .int .i64 r.1.seq, .slice ra r.1.near.length rc, .int .i64 r.1.cost, .bool r.1.far] 50)) := (Below.refl _ _).alloc (Nat.le_refl _) _
  have hx := heap_alloc_new w (.cells #[.int .i64 r.1.area, .int .i64 r.1.kind, .int .i64 r.1.owner, .int .i64 r.1.key, .int .i64 r.1.seq, .slice ra r.1.near.length rc, .int .i64 r.1.cost, .bool r.1.far] 50)
  obtain ⟨w0, hw0⟩ : ∃ w0, w0 = w.alloc (.cells #[.int .i64 r.1.area, .int .i64 r.1.kind, .int .i64 r.1.owner, .int .i64 r.1.key, .int .i64 r.1.seq, .slice ra r.1.near.length rc, .int .i64 r.1.cost, .bool r.1.far] 50) := ⟨_, rfl⟩
  have hs0 : w0.heap.size = w.heap.size + 1 := by rw [hw0]; simp
  rw [← hw0] at BX hx
  have R0 := hide (World.ownsRow_lit (e := 50) (size := 8) w0 #[] 0 (show w.heap.size + 1 ≤ w0.heap.size by omega) (by unfold maxLen; omega) (by simp))
  have B0 := hide (show Below w0.heap.size w0 (w0.alloc (.cells #[] 50)) from (Below.refl _ _).alloc (Nat.le_refl _) _)
  have HX := hide hx
  clear hx
  go_enter Try.func56, Try.ntmps56
  go_wp2
  rw [← hw0]
  rw [hs0] at R0
  have hs0l : w.heap.size + 1 ≤ w0.heap.size := by omega
  have hs0r : w0.heap.size ≤ w.heap.size + 1 := by omega
  clear hs0 hw0
  generalize w0.alloc (.cells #[] 50) = wL at *
  go_loopw [6, 5] (fun i o wr => ∃ (k : Nat) (u : Value) (l : List RP), k ≤ ps.length ∧ i = .int .i64 k ∧ o = u ∧ Hid (l = (ps.take k).filter (fun p => beforeB p.1 r.1)) ∧ wr.ownsRow (w.heap.size + 1) 50 8 u l.length (flat encP l) ∧ Below w0.heap.size w0 wr) (fun i _ _ => ps.length - (intOf i).toNat)
  case atStart => exact ⟨0, _, [], by omega, rfl, rfl, rfl, by simpa [flat] using R0.out, B0.out⟩
  case round =>
    obtain ⟨k, u, l, hk, rfl, rfl, HL, hown, hnx⟩ := hrel
    obtain ⟨ua, uc, rfl⟩ := owns_lenS hown
    have hsz := hnx.size
    have BWR : Below w.heap.size w wr := BX.trans (hnx.mono (by omega))
    have HQL := hide (show l.length ≤ 2097153 by rw [(HL).out]; have h2 := List.length_filter_le (fun p : RP => beforeB p.1 r.1) (ps.take k); simp at h2 ⊢; omega)
    by_cases hlt : k < ps.length
    · obtain ⟨p, hp⟩ : ∃ p, ps[k]? = some p := ⟨ps[k], List.getElem?_eq_getElem hlt⟩
      have hat := HV.out.at
      obtain ⟨b, off, cap', hve, hbb, c0, c1, c2, c3, c4, c5, c6, c7, hnr⟩ := hat.cells k p hp
      cases hve
      obtain ⟨pa, pc, hpn⟩ := NearsAt.shape hnr
      rw [hpn] at c5
      rw [← BWR.cell (p := ⟨b, off + k * 8, none⟩) (Nat.lt_of_lt_of_le hbb hhi)] at c0
      rw [← BWR.cell (p := ⟨b, off + k * 8 + 1, none⟩) (Nat.lt_of_lt_of_le hbb hhi)] at c1
      rw [← BWR.cell (p := ⟨b, off + k * 8 + 2, none⟩) (Nat.lt_of_lt_of_le hbb hhi)] at c2
      rw [← BWR.cell (p := ⟨b, off + k * 8 + 3, none⟩) (Nat.lt_of_lt_of_le hbb hhi)] at c3
      rw [← BWR.cell (p := ⟨b, off + k * 8 + 4, none⟩) (Nat.lt_of_lt_of_le hbb hhi)] at c4
      rw [← BWR.cell (p := ⟨b, off + k * 8 + 5, none⟩) (Nat.lt_of_lt_of_le hbb hhi)] at c5
      rw [← BWR.cell (p := ⟨b, off + k * 8 + 6, none⟩) (Nat.lt_of_lt_of_le hbb hhi)] at c6
      rw [← BWR.cell (p := ⟨b, off + k * 8 + 7, none⟩) (Nat.lt_of_lt_of_le hbb hhi)] at c7
      have hxx := (hnx.block _ (lt_of_heap HX.out)).trans HX.out
      have d0 := cells_at hxx 0
      have d1 := cells_at hxx 1
      have d2 := cells_at hxx 2
      have d3 := cells_at hxx 3
      have d4 := cells_at hxx 4
      have d5 := cells_at hxx 5
      have d6 := cells_at hxx 6
      have d7 := cells_at hxx 7
      simp at d0 d1 d2 d3 d4 d5 d6 d7
      have hb1 : b < wr.heap.size := by omega
      have hb2 : w.heap.size < wr.heap.size := by omega
      have hki : (0 : Int) ≤ (k : Int) := by omega
      have hkj : (k : Int) < (ps.length : Int) := by omega
      have hq := fun W => sbefore_any p.2 r.2 p.1 r.1 W
      unfold recC at hq
      rw [hpn, HRN.out] at hq
      have hpe : p = (p.1, .slice pa p.1.near.length pc) := Prod.ext rfl hpn
      obtain ⟨q, hqq⟩ : ∃ q, q = beforeB p.1 r.1 := ⟨_, rfl⟩
      rw [← hqq] at hq
      have HK := hide hq
      have hft := filt_take (fun p => beforeB p.1 r.1) hp
      rw [← hqq] at hft
      have HFT := hide hft
      have HPE := hide hpe
      have OW := hide hown
      clear hq hqq hp hat hxx hnr hpn hft hpe hown
      cases q
      · go_wp2
        go_region_held3 (fun W => W.cell? ⟨b, off + k * 8, none⟩ = some (.int .i64 p.1.area) ∧ W.cell? ⟨b, off + k * 8 + 1, none⟩ = some (.int .i64 p.1.kind) ∧ W.cell? ⟨b, off + k * 8 + 2, none⟩ = some (.int .i64 p.1.owner) ∧ W.cell? ⟨b, off + k * 8 + 3, none⟩ = some (.int .i64 p.1.key) ∧ W.cell? ⟨b, off + k * 8 + 4, none⟩ = some (.int .i64 p.1.seq) ∧ W.cell? ⟨b, off + k * 8 + 5, none⟩ = some (.slice pa p.1.near.length pc) ∧ W.cell? ⟨b, off + k * 8 + 6, none⟩ = some (.int .i64 p.1.cost) ∧ W.cell? ⟨b, off + k * 8 + 7, none⟩ = some (.bool p.1.far) ∧ W.cell? ⟨w.heap.size, 0, none⟩ = some (.int .i64 r.1.area) ∧ W.cell? ⟨w.heap.size, 1, none⟩ = some (.int .i64 r.1.kind) ∧ W.cell? ⟨w.heap.size, 2, none⟩ = some (.int .i64 r.1.owner) ∧ W.cell? ⟨w.heap.size, 3, none⟩ = some (.int .i64 r.1.key) ∧ W.cell? ⟨w.heap.size, 4, none⟩ = some (.int .i64 r.1.seq) ∧ W.cell? ⟨w.heap.size, 5, none⟩ = some (.slice ra r.1.near.length rc) ∧ W.cell? ⟨w.heap.size, 6, none⟩ = some (.int .i64 r.1.cost) ∧ W.cell? ⟨w.heap.size, 7, none⟩ = some (.bool r.1.far)) (first | go_keep | (refine ⟨?_, ?_, ?_, ?_, ?_, ?_, ?_, ?_, ?_, ?_, ?_, ?_, ?_, ?_, ?_, ?_⟩ <;> (rw [hbc.cell (by assumption)]; assumption))) (first | (go_at_call 51; refine (HK.out _).mono ?_; rintro e w1 ⟨rfl, hbc⟩))
        have B1 : Below w0.heap.size w0 w1 := hnx.trans ((Below.refl _ _).drew.trans (hbc.mono hsz))
        have OW1 := hide (owns_below OW.out ((Below.refl wr.heap.size wr).drew.trans hbc) (Nat.le_refl _))
        have HFT2 := hide (show l = (ps.take (k + 1)).filter (fun p => beforeB p.1 r.1) by rw [(HL).out, HFT.out]; simp)
        go_wp2
        go_roundw
        case rel => exact ⟨k + 1, _, _, by omega, by go_num, rfl, HFT2, OW1.out, B1⟩
        case measure => simp [intOf]; omega
      · go_wp2
        go_region_held3 (fun W => W.cell? ⟨b, off + k * 8, none⟩ = some (.int .i64 p.1.area) ∧ W.cell? ⟨b, off + k * 8 + 1, none⟩ = some (.int .i64 p.1.kind) ∧ W.cell? ⟨b, off + k * 8 + 2, none⟩ = some (.int .i64 p.1.owner) ∧ W.cell? ⟨b, off + k * 8 + 3, none⟩ = some (.int .i64 p.1.key) ∧ W.cell? ⟨b, off + k * 8 + 4, none⟩ = some (.int .i64 p.1.seq) ∧ W.cell? ⟨b, off + k * 8 + 5, none⟩ = some (.slice pa p.1.near.length pc) ∧ W.cell? ⟨b, off + k * 8 + 6, none⟩ = some (.int .i64 p.1.cost) ∧ W.cell? ⟨b, off + k * 8 + 7, none⟩ = some (.bool p.1.far) ∧ W.cell? ⟨w.heap.size, 0, none⟩ = some (.int .i64 r.1.area) ∧ W.cell? ⟨w.heap.size, 1, none⟩ = some (.int .i64 r.1.kind) ∧ W.cell? ⟨w.heap.size, 2, none⟩ = some (.int .i64 r.1.owner) ∧ W.cell? ⟨w.heap.size, 3, none⟩ = some (.int .i64 r.1.key) ∧ W.cell? ⟨w.heap.size, 4, none⟩ = some (.int .i64 r.1.seq) ∧ W.cell? ⟨w.heap.size, 5, none⟩ = some (.slice ra r.1.near.length rc) ∧ W.cell? ⟨w.heap.size, 6, none⟩ = some (.int .i64 r.1.cost) ∧ W.cell? ⟨w.heap.size, 7, none⟩ = some (.bool r.1.far)) (first | go_keep | (refine ⟨?_, ?_, ?_, ?_, ?_, ?_, ?_, ?_, ?_, ?_, ?_, ?_, ?_, ?_, ?_, ?_⟩ <;> (rw [hbc.cell (by assumption)]; assumption))) (first | (go_at_call 51; refine (HK.out _).mono ?_; rintro e w1 ⟨rfl, hbc⟩))
        have B1 : Below w0.heap.size w0 w1 := hnx.trans ((Below.refl _ _).drew.trans (hbc.mono hsz))
        have OW1 := hide (owns_below OW.out ((Below.refl wr.heap.size wr).drew.trans hbc) (Nat.le_refl _))
        have b1s := B1.size
        have m0 := (hbc.cell (p := ⟨b, off + k * 8, none⟩) hb1).trans c0
        have m1 := (hbc.cell (p := ⟨b, off + k * 8 + 1, none⟩) hb1).trans c1
        have m2 := (hbc.cell (p := ⟨b, off + k * 8 + 2, none⟩) hb1).trans c2
        have m3 := (hbc.cell (p := ⟨b, off + k * 8 + 3, none⟩) hb1).trans c3
        have m4 := (hbc.cell (p := ⟨b, off + k * 8 + 4, none⟩) hb1).trans c4
        have m5 := (hbc.cell (p := ⟨b, off + k * 8 + 5, none⟩) hb1).trans c5
        have m6 := (hbc.cell (p := ⟨b, off + k * 8 + 6, none⟩) hb1).trans c6
        have m7 := (hbc.cell (p := ⟨b, off + k * 8 + 7, none⟩) hb1).trans c7
        have HFT2 := hide (show l ++ [(p.1, .slice pa p.1.near.length pc)] = (ps.take (k + 1)).filter (fun p => beforeB p.1 r.1) by rw [(HL).out, HFT.out, ← HPE.out]; simp)
        go_wp2_with (first
          | (at_builtin; refine append_struct5 encP_len (by omega) (by omega) _ rfl _ _ 24 rfl (w.heap.size + 1) 50 Try.underlying24 (.agg (recC zeroRD (.slice none 0 0))) rfl Try.infoRec _ (l) (p.1, .slice pa p.1.near.length pc) (encP_one _ _ _ _) rfl (OW1.out.alloc _) ⟨w1.heap.size, 0, none⟩ 1 rfl (news_struct (cs := encP (p.1, .slice pa p.1.near.length pc))) (by have := HQL.out; omega) (by simp; omega) ?_))
        intro v' w4 hown' hgrow
        obtain ⟨va, vc, rfl⟩ := owns_lenS hown'
        have B4 : Below w0.heap.size w0 w4 := (B1.alloc b1s _).grown hgrow (by simp; omega) (fun j hj => by have := (OW1.out.lt j hj).1; omega)
        have OW4 := hide hown'
        clear hown' hgrow
        go_wp2
        go_roundw
        case rel => exact ⟨k + 1, _, _, by omega, by go_num, rfl, HFT2, by simpa using OW4.out, B4⟩
        case measure => simp [intOf]; omega
    · have hkn : k = ps.length := by omega
      have htk : ps.take k = ps := by rw [hkn, List.take_length]
      rw [htk] at HL
      have OW := hide hown
      clear hown hkn htk
      have hxx := (hnx.block _ (lt_of_heap HX.out)).trans HX.out
      have d0 := cells_at hxx 0
      have d1 := cells_at hxx 1
      have d2 := cells_at hxx 2
      have d3 := cells_at hxx 3
      have d4 := cells_at hxx 4
      have d5 := cells_at hxx 5
      have d6 := cells_at hxx 6
      have d7 := cells_at hxx 7
      simp at d0 d1 d2 d3 d4 d5 d6 d7
      clear hxx
      go_wp2_with (first
        | (at_builtin; refine append_struct5 encP_len (by omega) (by omega) _ rfl _ _ 24 rfl (w.heap.size + 1) 50 Try.underlying24 (.agg (recC zeroRD (.slice none 0 0))) rfl Try.infoRec _ (l) (r.1, .slice ra r.1.near.length rc) (encP_one _ _ _ _) rfl (OW.out.alloc _) ⟨wr.heap.size, 0, none⟩ 1 rfl (news_struct (cs := encP (r.1, .slice ra r.1.near.length rc))) (by have := HQL.out; omega) (by simp; omega) ?_))
      intro v' w4 hown' hgrow
      obtain ⟨va, vc, rfl⟩ := owns_lenS hown'
      have B2 := hide ((hnx.alloc hsz _).grown hgrow (by simp; omega) (fun j hj => by have := (OW.out.lt j hj).1; omega))
      have HRE := hide (show r = (r.1, .slice ra r.1.near.length rc) from Prod.ext rfl HRN.out)
      have R2 := hide hown'
      clear hown' hgrow HQL d0 d1 d2 d3 d4 d5 d6 d7 OW hnx hsz BWR
      go_wp2
      go_loopw [7, 5] (fun i o wr => ∃ (k : Nat) (u : Value) (l : List RP), k ≤ ps.length ∧ i = .int .i64 k ∧ o = u ∧ Hid (l = ps.filter (fun p => beforeB p.1 r.1) ++ [r] ++ (ps.take k).filter (fun p => beforeB r.1 p.1)) ∧ wr.ownsRow (w.heap.size + 1) 50 8 u l.length (flat encP l) ∧ Below w0.heap.size w0 wr) (fun i _ _ => ps.length - (intOf i).toNat)
      case atStart => exact ⟨0, _, l ++ [(r.1, .slice ra r.1.near.length rc)], by omega, rfl, rfl, (hide (by rw [HL.out, ← HRE.out]; simp)), by simpa using R2.out, B2.out⟩
      case round =>
        obtain ⟨k, u, m, hk, rfl, rfl, HM, hown, hnx⟩ := hrel
        obtain ⟨ua, uc, rfl⟩ := owns_lenS hown
        have hsz := hnx.size
        have BWR : Below w.heap.size w wr := BX.trans (hnx.mono (by omega))
        have HQL := hide (show m.length ≤ 2097153 by rw [(HM).out]; have h1 := List.length_filter_le (fun p : RP => beforeB p.1 r.1) ps; have h2 := List.length_filter_le (fun p : RP => beforeB r.1 p.1) (ps.take k); simp at h1 h2 ⊢; omega)
        by_cases hlt : k < ps.length
        · obtain ⟨p, hp⟩ : ∃ p, ps[k]? = some p := ⟨ps[k], List.getElem?_eq_getElem hlt⟩
          have hat := HV.out.at
          obtain ⟨b, off, cap', hve, hbb, c0, c1, c2, c3, c4, c5, c6, c7, hnr⟩ := hat.cells k p hp
          cases hve
          obtain ⟨pa, pc, hpn⟩ := NearsAt.shape hnr
          rw [hpn] at c5
          rw [← BWR.cell (p := ⟨b, off + k * 8, none⟩) (Nat.lt_of_lt_of_le hbb hhi)] at c0
          rw [← BWR.cell (p := ⟨b, off + k * 8 + 1, none⟩) (Nat.lt_of_lt_of_le hbb hhi)] at c1
          rw [← BWR.cell (p := ⟨b, off + k * 8 + 2, none⟩) (Nat.lt_of_lt_of_le hbb hhi)] at c2
          rw [← BWR.cell (p := ⟨b, off + k * 8 + 3, none⟩) (Nat.lt_of_lt_of_le hbb hhi)] at c3
          rw [← BWR.cell (p := ⟨b, off + k * 8 + 4, none⟩) (Nat.lt_of_lt_of_le hbb hhi)] at c4
          rw [← BWR.cell (p := ⟨b, off + k * 8 + 5, none⟩) (Nat.lt_of_lt_of_le hbb hhi)] at c5
          rw [← BWR.cell (p := ⟨b, off + k * 8 + 6, none⟩) (Nat.lt_of_lt_of_le hbb hhi)] at c6
          rw [← BWR.cell (p := ⟨b, off + k * 8 + 7, none⟩) (Nat.lt_of_lt_of_le hbb hhi)] at c7
          have hxx := (hnx.block _ (lt_of_heap HX.out)).trans HX.out
          have d0 := cells_at hxx 0
          have d1 := cells_at hxx 1
          have d2 := cells_at hxx 2
          have d3 := cells_at hxx 3
          have d4 := cells_at hxx 4
          have d5 := cells_at hxx 5
          have d6 := cells_at hxx 6
          have d7 := cells_at hxx 7
          simp at d0 d1 d2 d3 d4 d5 d6 d7
          have hb1 : b < wr.heap.size := by omega
          have hb2 : w.heap.size < wr.heap.size := by omega
          have hki : (0 : Int) ≤ (k : Int) := by omega
          have hkj : (k : Int) < (ps.length : Int) := by omega
          have hq := fun W => sbefore_any r.2 p.2 r.1 p.1 W
          unfold recC at hq
          rw [hpn, HRN.out] at hq
          have hpe : p = (p.1, .slice pa p.1.near.length pc) := Prod.ext rfl hpn
          obtain ⟨q, hqq⟩ : ∃ q, q = beforeB r.1 p.1 := ⟨_, rfl⟩
          rw [← hqq] at hq
          have HK := hide hq
          have hft := filt_take (fun p => beforeB r.1 p.1) hp
          rw [← hqq] at hft
          have HFT := hide hft
          have HPE := hide hpe
          have OW := hide hown
          clear hq hqq hp hat hxx hnr hpn hft hpe hown
          cases q
          · go_wp2
            go_region_held3 (fun W => W.cell? ⟨b, off + k * 8, none⟩ = some (.int .i64 p.1.area) ∧ W.cell? ⟨b, off + k * 8 + 1, none⟩ = some (.int .i64 p.1.kind) ∧ W.cell? ⟨b, off + k * 8 + 2, none⟩ = some (.int .i64 p.1.owner) ∧ W.cell? ⟨b, off + k * 8 + 3, none⟩ = some (.int .i64 p.1.key) ∧ W.cell? ⟨b, off + k * 8 + 4, none⟩ = some (.int .i64 p.1.seq) ∧ W.cell? ⟨b, off + k * 8 + 5, none⟩ = some (.slice pa p.1.near.length pc) ∧ W.cell? ⟨b, off + k * 8 + 6, none⟩ = some (.int .i64 p.1.cost) ∧ W.cell? ⟨b, off + k * 8 + 7, none⟩ = some (.bool p.1.far) ∧ W.cell? ⟨w.heap.size, 0, none⟩ = some (.int .i64 r.1.area) ∧ W.cell? ⟨w.heap.size, 1, none⟩ = some (.int .i64 r.1.kind) ∧ W.cell? ⟨w.heap.size, 2, none⟩ = some (.int .i64 r.1.owner) ∧ W.cell? ⟨w.heap.size, 3, none⟩ = some (.int .i64 r.1.key) ∧ W.cell? ⟨w.heap.size, 4, none⟩ = some (.int .i64 r.1.seq) ∧ W.cell? ⟨w.heap.size, 5, none⟩ = some (.slice ra r.1.near.length rc) ∧ W.cell? ⟨w.heap.size, 6, none⟩ = some (.int .i64 r.1.cost) ∧ W.cell? ⟨w.heap.size, 7, none⟩ = some (.bool r.1.far)) (first | go_keep | (refine ⟨?_, ?_, ?_, ?_, ?_, ?_, ?_, ?_, ?_, ?_, ?_, ?_, ?_, ?_, ?_, ?_⟩ <;> (rw [hbc.cell (by assumption)]; assumption))) (first | (go_at_call 51; refine (HK.out _).mono ?_; rintro e w1 ⟨rfl, hbc⟩))
            have B1 : Below w0.heap.size w0 w1 := hnx.trans ((Below.refl _ _).drew.trans (hbc.mono hsz))
            have OW1 := hide (owns_below OW.out ((Below.refl wr.heap.size wr).drew.trans hbc) (Nat.le_refl _))
            have HFT2 := hide (show m = ps.filter (fun p => beforeB p.1 r.1) ++ [r] ++ (ps.take (k + 1)).filter (fun p => beforeB r.1 p.1) by rw [(HM).out, HFT.out]; simp)
            go_wp2
            go_roundw
            case rel => exact ⟨k + 1, _, _, by omega, by go_num, rfl, HFT2, OW1.out, B1⟩
            case measure => simp [intOf]; omega
          · go_wp2
            go_region_held3 (fun W => W.cell? ⟨b, off + k * 8, none⟩ = some (.int .i64 p.1.area) ∧ W.cell? ⟨b, off + k * 8 + 1, none⟩ = some (.int .i64 p.1.kind) ∧ W.cell? ⟨b, off + k * 8 + 2, none⟩ = some (.int .i64 p.1.owner) ∧ W.cell? ⟨b, off + k * 8 + 3, none⟩ = some (.int .i64 p.1.key) ∧ W.cell? ⟨b, off + k * 8 + 4, none⟩ = some (.int .i64 p.1.seq) ∧ W.cell? ⟨b, off + k * 8 + 5, none⟩ = some (.slice pa p.1.near.length pc) ∧ W.cell? ⟨b, off + k * 8 + 6, none⟩ = some (.int .i64 p.1.cost) ∧ W.cell? ⟨b, off + k * 8 + 7, none⟩ = some (.bool p.1.far) ∧ W.cell? ⟨w.heap.size, 0, none⟩ = some (.int .i64 r.1.area) ∧ W.cell? ⟨w.heap.size, 1, none⟩ = some (.int .i64 r.1.kind) ∧ W.cell? ⟨w.heap.size, 2, none⟩ = some (.int .i64 r.1.owner) ∧ W.cell? ⟨w.heap.size, 3, none⟩ = some (.int .i64 r.1.key) ∧ W.cell? ⟨w.heap.size, 4, none⟩ = some (.int .i64 r.1.seq) ∧ W.cell? ⟨w.heap.size, 5, none⟩ = some (.slice ra r.1.near.length rc) ∧ W.cell? ⟨w.heap.size, 6, none⟩ = some (.int .i64 r.1.cost) ∧ W.cell? ⟨w.heap.size, 7, none⟩ = some (.bool r.1.far)) (first | go_keep | (refine ⟨?_, ?_, ?_, ?_, ?_, ?_, ?_, ?_, ?_, ?_, ?_, ?_, ?_, ?_, ?_, ?_⟩ <;> (rw [hbc.cell (by assumption)]; assumption))) (first | (go_at_call 51; refine (HK.out _).mono ?_; rintro e w1 ⟨rfl, hbc⟩))
            have B1 : Below w0.heap.size w0 w1 := hnx.trans ((Below.refl _ _).drew.trans (hbc.mono hsz))
            have OW1 := hide (owns_below OW.out ((Below.refl wr.heap.size wr).drew.trans hbc) (Nat.le_refl _))
            have b1s := B1.size
            have m0 := (hbc.cell (p := ⟨b, off + k * 8, none⟩) hb1).trans c0
            have m1 := (hbc.cell (p := ⟨b, off + k * 8 + 1, none⟩) hb1).trans c1
            have m2 := (hbc.cell (p := ⟨b, off + k * 8 + 2, none⟩) hb1).trans c2
            have m3 := (hbc.cell (p := ⟨b, off + k * 8 + 3, none⟩) hb1).trans c3
            have m4 := (hbc.cell (p := ⟨b, off + k * 8 + 4, none⟩) hb1).trans c4
            have m5 := (hbc.cell (p := ⟨b, off + k * 8 + 5, none⟩) hb1).trans c5
            have m6 := (hbc.cell (p := ⟨b, off + k * 8 + 6, none⟩) hb1).trans c6
            have m7 := (hbc.cell (p := ⟨b, off + k * 8 + 7, none⟩) hb1).trans c7
            have HFT2 := hide (show m ++ [(p.1, .slice pa p.1.near.length pc)] = ps.filter (fun p => beforeB p.1 r.1) ++ [r] ++ (ps.take (k + 1)).filter (fun p => beforeB r.1 p.1) by rw [(HM).out, HFT.out, ← HPE.out]; simp)
            go_wp2_with (first
              | (at_builtin; refine append_struct5 encP_len (by omega) (by omega) _ rfl _ _ 24 rfl (w.heap.size + 1) 50 Try.underlying24 (.agg (recC zeroRD (.slice none 0 0))) rfl Try.infoRec _ (m) (p.1, .slice pa p.1.near.length pc) (encP_one _ _ _ _) rfl (OW1.out.alloc _) ⟨w1.heap.size, 0, none⟩ 1 rfl (news_struct (cs := encP (p.1, .slice pa p.1.near.length pc))) (by have := HQL.out; omega) (by simp; omega) ?_))
            intro v' w4 hown' hgrow
            obtain ⟨va, vc, rfl⟩ := owns_lenS hown'
            have B4 : Below w0.heap.size w0 w4 := (B1.alloc b1s _).grown hgrow (by simp; omega) (fun j hj => by have := (OW1.out.lt j hj).1; omega)
            have OW4 := hide hown'
            clear hown' hgrow
            go_wp2
            go_roundw
            case rel => exact ⟨k + 1, _, _, by omega, by go_num, rfl, HFT2, by simpa using OW4.out, B4⟩
            case measure => simp [intOf]; omega
        · have hkn : k = ps.length := by omega
          have htk : ps.take k = ps := by rw [hkn, List.take_length]
          rw [htk] at HM
          have OW := hide hown
          clear hown hkn htk
          go_wp2
          go_ret
          refine ⟨_, rfl, ⟨?_, fun j hj => (OW.out.lt j hj).2, ?_⟩, BWR, fun j hj => by have := (OW.out.lt j hj).1; omega⟩
          · rw [← HM.out]; exact owns_baseS OW.out (Nat.zero_le _)
          intro q hq
          have hmem : q ∈ ps ∨ q = r := by
            rcases List.mem_append.1 hq with h | h
            · rcases List.mem_append.1 h with h | h
              · exact .inl ((List.mem_filter.1 h).1)
              · exact .inr (by simpa using h)
            · exact .inl ((List.mem_filter.1 h).1)
          have hno : NearOwn w 0 hi q := by
            rcases hmem with h | h
            · exact HV.out.nears q h
            · rw [h]; exact HR.out
          exact (hno.keep (W' := wr) (fun j _ h2 _ => BWR.block j (by omega))).wide (Nat.le_refl _) (by omega)

end Go.Proofs.Ytnfockhbcneegaa
