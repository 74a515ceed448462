/-
  What stays when a drawn record is handed back.
  spec.l04Record: some right record.
  spec.DrawRecords: some right records.
-/
import Derived.Test.YtohjphhocdgpgaaSto15
import Derived.Test.YtohjphhocdgpgaaSto7
import Derived.Test.YtohjphhocdgpgaaSto3
namespace Go.Proofs.Ytohjphhocdgpgaa
open Go.RowKit

set_option linter.unusedSimpArgs false

abbrev put8 (W : World) (g : Nat) (v0 v1 v2 v3 v4 v5 v6 v7 : Value) : World := (((((((W.setCell ⟨g, 0, none⟩ v0).setCell ⟨g, 1, none⟩ v1).setCell ⟨g, 2, none⟩ v2).setCell ⟨g, 3, none⟩ v3).setCell ⟨g, 4, none⟩ v4).setCell ⟨g, 5, none⟩ v5).setCell ⟨g, 6, none⟩ v6).setCell ⟨g, 7, none⟩ v7

set_option maxHeartbeats 1000000 in
theorem RcSt.fin {w wr : World} {p B0 z : Nat} {a : Option Addr} {len cap : Nat} {v : Value} {x : RecD} (h : RcSt w wr p B0 z a len cap v x) (hp : p < B0) (_ : B0 < wr.heap.size) :
    (put8 wr B0 (.int .i64 x.area) (.int .i64 x.kind) (.int .i64 x.owner) (.int .i64 x.key) (.int .i64 x.seq) v (.int .i64 x.cost) (.bool x.far)).heap[B0]? = some (.cells (recC x v) 26) ∧
    Cur (put8 wr B0 (.int .i64 x.area) (.int .i64 x.kind) (.int .i64 x.owner) (.int .i64 x.key) (.int .i64 x.seq) v (.int .i64 x.cost) (.bool x.far)) p a len cap ∧
    w.grownBy (put8 wr B0 (.int .i64 x.area) (.int .i64 x.kind) (.int .i64 x.owner) (.int .i64 x.key) (.int .i64 x.seq) v (.int .i64 x.cost) (.bool x.far)) (some p) ∧
    (put8 wr B0 (.int .i64 x.area) (.int .i64 x.kind) (.int .i64 x.owner) (.int .i64 x.key) (.int .i64 x.seq) v (.int .i64 x.cost) (.bool x.far)).ownsRow (B0 + 1) 67 2 v x.near.length (flat nrE x.near) := by
  have k0 := h.res
  unfold zeroC at k0
  have k1 := heap_setCell_same _ _ 0 _ _ (.int .i64 x.area) k0
  have k2 := heap_setCell_same _ _ 1 _ _ (.int .i64 x.kind) k1
  have k3 := heap_setCell_same _ _ 2 _ _ (.int .i64 x.owner) k2
  have k4 := heap_setCell_same _ _ 3 _ _ (.int .i64 x.key) k3
  have k5 := heap_setCell_same _ _ 4 _ _ (.int .i64 x.seq) k4
  have k6 := heap_setCell_same _ _ 5 _ _ v k5
  have k7 := heap_setCell_same _ _ 6 _ _ (.int .i64 x.cost) k6
  have k8 := heap_setCell_same _ _ 7 _ _ (.bool x.far) k7
  have hne : ∀ b, b ≤ p → some b ≠ some B0 := fun b hb => by simp; omega
  refine ⟨by unfold recC; exact k8, ?_, ?_, ?_⟩
  · exact ((((((((h.cur.grown (grown_set _ B0 _ _) hne).grown (grown_set _ B0 _ _) hne).grown (grown_set _ B0 _ _) hne).grown (grown_set _ B0 _ _) hne).grown (grown_set _ B0 _ _) hne).grown (grown_set _ B0 _ _) hne).grown (grown_set _ B0 _ _) hne).grown (grown_set _ B0 _ _) hne)
  · have hlo := h.low
    exact gro_set (gro_set (gro_set (gro_set (gro_set (gro_set (gro_set (gro_set h.gro B0 0 _ hlo) B0 1 _ hlo) B0 2 _ hlo) B0 3 _ hlo) B0 4 _ hlo) B0 5 _ hlo) B0 6 _ hlo) B0 7 _ hlo
  · have hlt : B0 < B0 + 1 := by omega
    exact owns_set (j := 7) (owns_set (j := 6) (owns_set (j := 5) (owns_set (j := 4) (owns_set (j := 3) (owns_set (j := 2) (owns_set (j := 1) (owns_set (j := 0) (h.own) hlt) hlt) hlt) hlt) hlt) hlt) hlt) hlt

theorem five_cells (w : World) : ∀ k, k < 5 → ∃ z : Int, True ∧ (w.alloc (.cells #[.int .i64 0, .int .i64 1, .int .i64 2, .int .i64 5, .int .i64 60000] 3)).cell? ⟨w.heap.size, k, none⟩ = some (.int .i64 z) := by
  intro k hk
  have h := cells_at (heap_alloc_new w (.cells #[.int .i64 0, .int .i64 1, .int .i64 2, .int .i64 5, .int .i64 60000] 3)) k
  match k, hk with
  | 0, _ => exact ⟨_, trivial, h⟩
  | 1, _ => exact ⟨_, trivial, h⟩
  | 2, _ => exact ⟨_, trivial, h⟩
  | 3, _ => exact ⟨_, trivial, h⟩
  | 4, _ => exact ⟨_, trivial, h⟩

theorem fourb_cells (w : World) : ∀ k, k < 4 → ∃ z : Int, True ∧ (w.alloc (.cells #[.int .i64 1, .int .i64 2, .int .i64 5, .int .i64 60000] 3)).cell? ⟨w.heap.size, k, none⟩ = some (.int .i64 z) := by
  intro k hk
  have h := cells_at (heap_alloc_new w (.cells #[.int .i64 1, .int .i64 2, .int .i64 5, .int .i64 60000] 3)) k
  match k, hk with
  | 0, _ => exact ⟨_, trivial, h⟩
  | 1, _ => exact ⟨_, trivial, h⟩
  | 2, _ => exact ⟨_, trivial, h⟩
  | 3, _ => exact ⟨_, trivial, h⟩

end Go.Proofs.Ytohjphhocdgpgaa
namespace Go.Proofs.Ytohjphhocdgpgaa
open Go.RowKit

set_option linter.unusedSimpArgs false

/-- neighbours that were drawn, up to k -/
def NearUp (l : List Nr) (k : Int) (o : Int) : Prop := (∀ n ∈ l, 1 ≤ n.to ∧ n.to < k ∧ n.to ≠ o ∧ 1 ≤ n.c ∧ n.c ≤ 4) ∧ l.Pairwise (fun a b => a.to < b.to)

theorem NearUp.more {l : List Nr} {k k' o : Int} (h : NearUp l k o) (hk : k ≤ k') : NearUp l k' o := ⟨fun n hn => by have := h.1 n hn; omega, h.2⟩

theorem NearUp.push {l : List Nr} {k o y : Int} (h : NearUp l k o) (h1 : 1 ≤ k) (ho : k ≠ o) (hy0 : 0 ≤ y) (hy1 : y < 4) : NearUp (l ++ [⟨k, 1 + y⟩]) (k + 1) o := by
  refine ⟨?_, ?_⟩
  · intro n hn
    rcases List.mem_append.1 hn with h2 | h2
    · have := h.1 n h2; omega
    · have : n = ⟨k, 1 + y⟩ := by simpa using h2
      subst this
      simp only
      omega
  · rw [List.pairwise_append]
    refine ⟨h.2, by simp, ?_⟩
    intro a ha b hb
    have : b = ⟨k, 1 + y⟩ := by simpa using hb
    subst this
    exact (h.1 a ha).2.1

theorem NearUp.ok {l : List Nr} {o : Int} (h : NearUp l 7 o) : nearsB o l = true := by
  unfold nearsB allOk ascB
  rw [Bool.and_eq_true]
  refine ⟨all_true fun j hj => ?_, all_true fun j hj => ?_⟩
  · unfold okAt
    rw [List.getElem?_eq_getElem hj]
    have h1 := h.1 l[j] (List.getElem_mem hj)
    unfold nearOkB inB
    simp only [Bool.and_eq_true, decide_eq_true_eq, Bool.not_eq_true', beq_eq_false_iff_ne]
    omega
  · cases j with
    | zero => rfl
    | succ k =>
      rw [ascAt_eq (List.getElem?_eq_getElem (by omega)) (List.getElem?_eq_getElem hj)]
      have h2 := List.pairwise_iff_getElem.1 h.2 k (k + 1) (by omega) hj (by omega)
      unfold ordN
      simp only [decide_eq_true_eq]
      omega

theorem right_node {y1 y2 y3 : Int} {l : List Nr} (a0 : 0 ≤ y1) (a1 : y1 < 4) (b0 : 0 ≤ y2) (b1 : y2 < 3) (c0 : 0 ≤ y3) (c1 : y3 < 5) (h : NearUp l 7 (1 + y1)) : recOkB ⟨y2, 1, 1 + y1, 0, 1 + y3, l, 0, false⟩ = true := by
  have h1 := h.ok
  unfold recOkB
  simp only [h1]
  unfold inB
  simp
  omega

theorem right_beyond {y1 y2 y3 y4 y5 : Int} (a0 : 0 ≤ y1) (a1 : y1 < 4) (b0 : 0 ≤ y2) (b1 : y2 < 3) (c0 : 0 ≤ y3) (c1 : y3 < 5) (d0 : 0 ≤ y4) (d1 : y4 < 5) (e0 : 0 ≤ y5) (e1 : y5 ≤ 60000) : recOkB ⟨y2, 2, 1 + y1, 1 + y4, 1 + y3, [], y5, false⟩ = true := by
  unfold recOkB inB
  simp
  omega

theorem right_thing {y1 y3 y4 y5 : Int} {b : Bool} (a0 : 0 ≤ y1) (a1 : y1 < 4) (c0 : 0 ≤ y3) (c1 : y3 < 5) (d0 : 0 ≤ y4) (d1 : y4 < 3) (e : (1 ≤ y5 ∧ y5 ≤ 1000) ∨ y5 = 60000) : recOkB ⟨9, 3, 1 + y1, 1 + y4, 1 + y3, [], y5, b⟩ = true := by
  unfold recOkB inB
  simp
  omega

theorem five_cellsR (w : World) : ∀ k, k < 5 → ∃ z : Int, (0 ≤ z ∧ z ≤ 60000) ∧ (w.alloc (.cells #[.int .i64 0, .int .i64 1, .int .i64 2, .int .i64 5, .int .i64 60000] 3)).cell? ⟨w.heap.size, k, none⟩ = some (.int .i64 z) := by
  intro k hk
  have h := cells_at (heap_alloc_new w (.cells #[.int .i64 0, .int .i64 1, .int .i64 2, .int .i64 5, .int .i64 60000] 3)) k
  match k, hk with
  | 0, _ => exact ⟨_, by omega, h⟩
  | 1, _ => exact ⟨_, by omega, h⟩
  | 2, _ => exact ⟨_, by omega, h⟩
  | 3, _ => exact ⟨_, by omega, h⟩
  | 4, _ => exact ⟨_, by omega, h⟩

theorem fourb_cellsR (w : World) : ∀ k, k < 4 → ∃ z : Int, ((1 ≤ z ∧ z ≤ 1000) ∨ z = 60000) ∧ (w.alloc (.cells #[.int .i64 1, .int .i64 2, .int .i64 5, .int .i64 60000] 3)).cell? ⟨w.heap.size, k, none⟩ = some (.int .i64 z) := by
  intro k hk
  have h := cells_at (heap_alloc_new w (.cells #[.int .i64 1, .int .i64 2, .int .i64 5, .int .i64 60000] 3)) k
  match k, hk with
  | 0, _ => exact ⟨_, by omega, h⟩
  | 1, _ => exact ⟨_, by omega, h⟩
  | 2, _ => exact ⟨_, by omega, h⟩
  | 3, _ => exact ⟨_, by omega, h⟩

set_option maxRecDepth 100000 in
set_option maxHeartbeats 2000000 in
theorem recR_any (p : Nat) (a : Option Addr) (len cap : Nat) (w : World) (hc : Cur w p a len cap) :
    Calls Try.prog 81 #[.pointer (some ⟨p, 0, none⟩)] w fun e w' => ∃ (x : RecD) (v : Value), e = .returned (.agg (recC x v)) ∧ w'.ownsRow (w.heap.size + 1) 67 2 v x.near.length (flat nrE x.near) ∧ x.near.length ≤ 6 ∧ recOkB x = true ∧ Cur w' p a len cap ∧ w.grownBy w' (some p) := by
  have hp := lt_of_cur hc
  have HC := hide hc
  clear hc
  go_enter Try.func81, Try.ntmps81
  go_wp2_with fail
  refine (below_any p a len cap 3 _ (cur_alloc HC.out _) (by omega) (by omega)).mono ?_
  rintro e w1 ⟨y0, rfl, hy0, hy0', hc1, hg1⟩
  have r1 := hg1.block w.heap.size (by simp) (by simp; omega)
  rw [heap_alloc_new] at r1
  have b1 : w.grownBy w1 (some p) := gro_same (gro_alloc (gro_refl w _) _) hg1
  have C1 := hide hc1
  have R1 := hide r1
  have D1 := hide b1
  clear hc1 r1 b1 hg1 HC
  go_wp2_with fail
  refine (below_any p a len cap 4 _ C1.out (by omega) (by omega)).mono ?_
  rintro e w2 ⟨y1, rfl, hy1, hy1', hc2, hg2⟩
  have R2 := hide ((hg2.block _ (lt_of_heap R1.out) (by simp; omega)).trans R1.out)
  have D2 := hide (gro_same D1.out hg2)
  have C2 := hide hc2
  clear hc2 hg2 C1 R1 D1
  go_wp2_with fail
  refine (below_any p a len cap 3 _ C2.out (by omega) (by omega)).mono ?_
  rintro e w3 ⟨y2, rfl, hy2, hy2', hc3, hg3⟩
  have R3 := hide ((hg3.block _ (lt_of_heap R2.out) (by simp; omega)).trans R2.out)
  have D3 := hide (gro_same D2.out hg3)
  have C3 := hide hc3
  clear hc3 hg3 C2 R2 D2
  go_wp2_with fail
  refine (below_any p a len cap 5 _ C3.out (by omega) (by omega)).mono ?_
  rintro e w4 ⟨y3, rfl, hy3, hy3', hc4, hg4⟩
  have R4 := hide ((hg4.block _ (lt_of_heap R3.out) (by simp; omega)).trans R3.out)
  have D4 := hide (gro_same D3.out hg4)
  have hsz4 : w.heap.size < w4.heap.size := lt_of_heap R4.out
  have wr0 : IntKind.i64.wrap (1 + y0) = 1 + y0 := wrap_fit _ (by omega) (by omega)
  have wr1 : IntKind.i64.wrap (1 + y1) = 1 + y1 := wrap_fit _ (by omega) (by omega)
  have wr3 : IntKind.i64.wrap (1 + y3) = 1 + y3 := wrap_fit _ (by omega) (by omega)
  obtain ⟨x0, hx0⟩ : ∃ x : RecD, x = ⟨y2, 1 + y0, 1 + y1, 0, 1 + y3, [], 0, false⟩ := ⟨_, rfl⟩
  have st0 : RcSt w (w4.alloc (.cells #[.int .i64 y2, .int .i64 (1 + y0), .int .i64 (1 + y1), .int .i64 0, .int .i64 (1 + y3), .slice none 0 0, .int .i64 0, .bool false] 26)) p w.heap.size w4.heap.size a len cap (.slice none 0 0) x0 :=
    { cur := cur_alloc hc4 _
      low := Nat.le_refl _
      gro := gro_alloc D4.out _
      box := by rw [hx0]; exact heap_alloc_new w4 _
      res := (Below.heap_alloc _ _ _ hsz4).trans R4.out
      own := by rw [hx0]; exact ⟨rfl, .inl ⟨rfl, rfl⟩⟩
      djn := by simp [Value.ownBlock] }
  have ST0 := hide st0
  have HX0 := hide hx0
  have g1 := heap_alloc_new w4 (.cells #[.int .i64 y2, .int .i64 (1 + y0), .int .i64 (1 + y1), .int .i64 0, .int .i64 (1 + y3), .slice none 0 0, .int .i64 0, .bool false] 26)
  clear st0 hx0 hc4 hg4 R4 D4 C3 R3 D3 g1
  rcases (show y0 = 0 ∨ y0 = 1 ∨ y0 = 2 by omega) with rfl | rfl | rfl
  · rw [show (1 : Int) + 0 = 1 from rfl] at ST0 HX0
    go_wp2
    obtain ⟨z, hz⟩ : ∃ z, z = w4.heap.size := ⟨_, rfl⟩
    rw [← hz] at ST0 hsz4 ⊢
    generalize w4.alloc (.cells #[.int .i64 y2, .int .i64 1, .int .i64 (1 + y1), .int .i64 0, .int .i64 (1 + y3), .slice none 0 0, .int .i64 0, .bool false] 26) = w5 at *
    clear hz
    have hw5 : p < w.heap.size := hp
    go_loopw [4] (fun i wr => ∃ (k : Nat) (l : List Nr) (va : Option Addr) (vc : Nat), 1 ≤ k ∧ k ≤ 7 ∧ i = .int .i64 k ∧ l.length + 1 ≤ k ∧ Hid (NearUp l k x0.owner) ∧ RcSt w wr p w.heap.size z a len cap (.slice va l.length vc) { x0 with near := l }) (fun i _ => 8 - (intOf i).toNat)
    case atStart =>
      refine ⟨1, [], none, 0, by omega, by omega, rfl, by simp, hide ⟨by simp, by simp⟩, ?_⟩
      have e := ST0.out
      rw [show x0 = { x0 with near := [] } by rw [HX0.out]] at e
      exact e
    case round =>
      clear ST0
      obtain ⟨k, l, va, vc, hk1, hk7, rfl, hll, HUP, st⟩ := hrel
      have c2 := cells_at st.box 2
      simp only [recC] at c2
      have c2' : wr.cell? ⟨z, 2, none⟩ = some (.int .i64 x0.owner) := c2
      clear c2
      have ST := hide st
      clear st
      by_cases hk : k < 7
      · have hk6 : (k : Int) ≤ 6 := by omega
        by_cases ho : (k : Int) = x0.owner
        · have hd : ((k : Int) != x0.owner) = false := by simpa using ho
          clear ho
          go_wp2
          exact ⟨⟨k + 1, l, va, vc, by omega, by omega, by go_num, by omega, hide (HUP.out.more (by omega)), ST.out⟩, by simp [intOf]; omega⟩
        · have hd : ((k : Int) != x0.owner) = true := by simpa using ho
          have HO := hide ho
          clear ho
          go_wp2_with fail
          refine (once_any p a len cap 3 _ ST.out.cur (by omega) (by omega)).mono ?_
          rintro e w6 ⟨b, rfl, hc6, hg6⟩
          have ST6 := hide (ST.out.grown hc6 hg6 hp hsz4)
          clear hc6 hg6 ST c2'
          cases b
          · go_wp2
            exact ⟨⟨k + 1, l, va, vc, by omega, by omega, by go_num, by omega, hide (HUP.out.more (by omega)), ST6.out⟩, by simp [intOf]; omega⟩
          · go_wp2
            refine wp_region_noPanic ?_
            refine wp_region_start (S := fun _ => True) (by kernel_rfl) 11 rfl trivial ?_
            intro ops hops _
            refine rec_dag _ _ _ _ _ _ _ _ _ _ _ _ _ _ _ _ _ _ _ _ _ _ _ _ _ _ _ _ _ _ _ _ _ _ _ _ _ _ _ _ _ _ _ _ _ _ _ _ _ _ _ _ _ _ _ _ _ _ _ _ _ _ _ _ _ w _ p w.heap.size z a len cap va vc { x0 with near := l } (k : Int) _ ops hops (fun _ _ _ _ h => h) hp hsz4 (by show l.length ≤ 1000; omega) ST6.out.drew ?_
            intro W y na nc l' hl' hy0 hy1 st' sb
            refine NoPanic.normal ?_
            have hl7 : l'.length = l.length + 1 := by rw [hl'.out]; simp
            have HU7 := hide (show NearUp l' ((k + 1 : Nat) : Int) x0.owner by rw [hl'.out]; exact (HUP.out.push (by omega) HO.out hy0 hy1).more (by omega))
            have ST7 := hide st'
            clear st' hops ops
            go_wp2
            exact ⟨⟨k + 1, l', na, nc, by omega, by omega, by go_num, by omega, HU7, ST7.out⟩, by simp [intOf]; omega⟩
      · have hk6 : ¬ (k : Int) ≤ 6 := by omega
        have HLL := hide hll
        have HRI := hide (show recOkB { x0 with near := l } = true by
          have h7 : NearUp l 7 x0.owner := HUP.out.more (by omega)
          rw [HX0.out] at h7 ⊢
          exact right_node hy1 hy1' hy2 hy2' hy3 hy3' h7)
        clear c2'
        have yb := ST.out.box
        have ub := ST.out.res
        unfold recC at yb
        unfold zeroC at ub
        (try simp only [] at yb)
        have y0 := cells_at yb 0
        have y1 := cells_at yb 1
        have y2 := cells_at yb 2
        have y3 := cells_at yb 3
        have y4 := cells_at yb 4
        have y5 := cells_at yb 5
        have y6 := cells_at yb 6
        have y7 := cells_at yb 7
        have u0 := cells_at ub 0
        have u1 := cells_at ub 1
        have u2 := cells_at ub 2
        have u3 := cells_at ub 3
        have u4 := cells_at ub 4
        have u5 := cells_at ub 5
        have u6 := cells_at ub 6
        have u7 := cells_at ub 7
        simp at y0 y1 y2 y3 y4 y5 y6 y7 u0 u1 u2 u3 u4 u5 u6 u7
        have fu := frozen_at ub
        clear yb ub
        go_wp2_with fail
        (try simp only [Exit.inBlock, Exit.then])
        have F := ST.out.fin hp (by have := lt_of_heap ST.out.box; omega)
        refine bodyPost_ret (results_cell_row rfl _ _ w.heap.size 26 (recC _ _) (0, 0) _ rfl F.1 Try.underlying26 rfl (by kernel_rfl)) rfl ?_
        exact ⟨_, _, rfl, F.2.2.2, (by show l.length ≤ 6; have := HLL.out; omega), HRI.out, F.2.1, F.2.2.1⟩
  · rw [show (1 : Int) + 1 = 2 from rfl] at ST0 HX0
    have hz0 : w4.heap.size = w4.heap.size := rfl
    go_wp2_with fail
    obtain ⟨z, hz⟩ : ∃ z, z = w4.heap.size := ⟨_, rfl⟩
    rw [← hz] at ST0 hsz4 ⊢
    generalize w4.alloc (.cells #[.int .i64 y2, .int .i64 2, .int .i64 (1 + y1), .int .i64 0, .int .i64 (1 + y3), .slice none 0 0, .int .i64 0, .bool false] 26) = w5 at *
    clear hz hz0
    refine (below_any p a len cap 5 _ ST0.out.cur (by omega) (by omega)).mono ?_
    rintro e w6 ⟨y4, rfl, hy4, hy4', hc6, hg6⟩
    have ST6 := hide (ST0.out.grown hc6 hg6 hp hsz4)
    have wr4 : IntKind.i64.wrap (1 + y4) = 1 + y4 := wrap_fit _ (by omega) (by omega)
    have sb := ST6.out.box
    unfold recC at sb
    have s3 := cells_at sb 3
    have f3 := frozen_at sb
    simp at s3
    have ST7 := hide (ST6.out.set 3 (.int .i64 (1 + y4)) { x0 with key := 1 + y4 } rfl rfl hp hsz4)
    clear hc6 hg6 ST0 ST6 sb
    have hs7 : (w6.setCell ⟨z, 3, none⟩ (.int .i64 (1 + y4))).heap.size = w6.heap.size := by simp
    have fc := five_cellsR (w6.setCell ⟨z, 3, none⟩ (.int .i64 (1 + y4)))
    rw [hs7] at fc
    have FC := hide fc
    have hp6 : p < w6.heap.size := by have := lt_of_cur ST7.out.cur; omega
    clear hs7 fc
    go_wp2_with fail
    refine (pickR_any (fun z => 0 ≤ z ∧ z ≤ 60000) p a len cap w6.heap.size 5 _ (cur_alloc ST7.out.cur _) (by omega) (by omega) (by omega) FC.out).mono ?_
    rintro e w8 ⟨y5, rfl, hp5, hc8, hg8⟩
    have ST8 := hide ((ST7.out.alloc _).grown hc8 hg8 hp hsz4)
    have sb := ST8.out.box
    unfold recC at sb
    have s6 := cells_at sb 6
    have f6 := frozen_at sb
    simp at s6
    have ST9 := hide (ST8.out.set 6 (.int .i64 y5) { x0 with key := 1 + y4, cost := y5 } rfl rfl hp hsz4)
    have HRI := hide (show recOkB { x0 with key := 1 + y4, cost := y5 } = true by rw [HX0.out]; exact right_beyond hy1 hy1' hy2 hy2' hy3 hy3' hy4 hy4' hp5.1 hp5.2)
    have HL0 := hide (show x0.near.length ≤ 6 by rw [HX0.out]; simp)
    clear hc8 hg8 ST7 ST8 sb s3 f3 FC
    have yb := ST9.out.box
    have ub := ST9.out.res
    unfold recC at yb
    unfold zeroC at ub
    (try simp only [] at yb)
    have y0 := cells_at yb 0
    have y1 := cells_at yb 1
    have y2 := cells_at yb 2
    have y3 := cells_at yb 3
    have y4 := cells_at yb 4
    have y5 := cells_at yb 5
    have y6 := cells_at yb 6
    have y7 := cells_at yb 7
    have u0 := cells_at ub 0
    have u1 := cells_at ub 1
    have u2 := cells_at ub 2
    have u3 := cells_at ub 3
    have u4 := cells_at ub 4
    have u5 := cells_at ub 5
    have u6 := cells_at ub 6
    have u7 := cells_at ub 7
    simp at y0 y1 y2 y3 y4 y5 y6 y7 u0 u1 u2 u3 u4 u5 u6 u7
    have fu := frozen_at ub
    clear yb ub
    go_wp2_with fail
    (try simp only [Exit.inBlock, Exit.then])
    have F := ST9.out.fin hp (by have := lt_of_heap ST9.out.box; omega)
    refine bodyPost_ret (results_cell_row rfl _ _ w.heap.size 26 (recC _ _) (0, 0) _ rfl F.1 Try.underlying26 rfl (by kernel_rfl)) rfl ?_
    exact ⟨_, _, rfl, F.2.2.2, HL0.out, HRI.out, F.2.1, F.2.2.1⟩
  · rw [show (1 : Int) + 2 = 3 from rfl] at ST0 HX0
    have hz0 : w4.heap.size = w4.heap.size := rfl
    have ST5 := hide (ST0.out.set 0 (.int .i64 9) { x0 with area := 9 } rfl rfl hp hsz4)
    rw [World.setCell_alloc_new] at ST5
    go_wp2_with fail
    obtain ⟨z, hz⟩ : ∃ z, z = w4.heap.size := ⟨_, rfl⟩
    rw [← hz] at ST0 ST5 hsz4 ⊢
    have ST5' : Hid (RcSt w (w4.alloc (.cells #[.int .i64 9, .int .i64 3, .int .i64 (1 + y1), .int .i64 0, .int .i64 (1 + y3), .slice none 0 0, .int .i64 0, .bool false] 26)) p w.heap.size z a len cap (.slice none 0 0) { x0 with area := 9 }) := ST5
    clear ST5
    have ST5 := ST5'
    clear ST5' ST0
    generalize w4.alloc (.cells #[.int .i64 9, .int .i64 3, .int .i64 (1 + y1), .int .i64 0, .int .i64 (1 + y3), .slice none 0 0, .int .i64 0, .bool false] 26) = w5 at *
    clear hz hz0
    refine (below_any p a len cap 3 _ ST5.out.cur (by omega) (by omega)).mono ?_
    rintro e w6 ⟨y4, rfl, hy4, hy4', hc6, hg6⟩
    have ST6 := hide (ST5.out.grown hc6 hg6 hp hsz4)
    have wr4 : IntKind.i64.wrap (1 + y4) = 1 + y4 := wrap_fit _ (by omega) (by omega)
    have sb := ST6.out.box
    unfold recC at sb
    have s3 := cells_at sb 3
    have f3 := frozen_at sb
    simp at s3
    have ST7 := hide (ST6.out.set 3 (.int .i64 (1 + y4)) { x0 with area := 9, key := 1 + y4 } rfl rfl hp hsz4)
    clear hc6 hg6 ST5 ST6 sb
    have hs7 : (w6.setCell ⟨z, 3, none⟩ (.int .i64 (1 + y4))).heap.size = w6.heap.size := by simp
    have fc := fourb_cellsR (w6.setCell ⟨z, 3, none⟩ (.int .i64 (1 + y4)))
    rw [hs7] at fc
    have FC := hide fc
    have hp6 : p < w6.heap.size := by have := lt_of_cur ST7.out.cur; omega
    clear hs7 fc
    go_wp2_with fail
    refine (pickR_any (fun z => (1 ≤ z ∧ z ≤ 1000) ∨ z = 60000) p a len cap w6.heap.size 4 _ (cur_alloc ST7.out.cur _) (by omega) (by omega) (by omega) FC.out).mono ?_
    rintro e w8 ⟨y5, rfl, hp5, hc8, hg8⟩
    have ST8 := hide ((ST7.out.alloc _).grown hc8 hg8 hp hsz4)
    have sb := ST8.out.box
    unfold recC at sb
    have s6 := cells_at sb 6
    have f6 := frozen_at sb
    simp at s6
    have ST9 := hide (ST8.out.set 6 (.int .i64 y5) { x0 with area := 9, key := 1 + y4, cost := y5 } rfl rfl hp hsz4)
    have HL0 := hide (show x0.near.length ≤ 6 by rw [HX0.out]; simp)
    clear hc8 hg8 ST7 ST8 sb s3 f3 FC
    go_wp2_with fail
    refine (once_any p a len cap 2 _ ST9.out.cur (by omega) (by omega)).mono ?_
    rintro e wA ⟨b, rfl, hcA, hgA⟩
    have STA := hide (ST9.out.grown hcA hgA hp hsz4)
    have sb := STA.out.box
    unfold recC at sb
    have s7 := cells_at sb 7
    have f7 := frozen_at sb
    simp at s7
    have STB := hide (STA.out.set 7 (.bool b) { x0 with area := 9, key := 1 + y4, cost := y5, far := b } rfl rfl hp hsz4)
    have HRI := hide (show recOkB { x0 with area := 9, key := 1 + y4, cost := y5, far := b } = true by rw [HX0.out]; exact right_thing hy1 hy1' hy3 hy3' hy4 hy4' hp5)
    clear hcA hgA ST9 STA sb s6 f6
    have yb := STB.out.box
    have ub := STB.out.res
    unfold recC at yb
    unfold zeroC at ub
    (try simp only [] at yb)
    have y0 := cells_at yb 0
    have y1 := cells_at yb 1
    have y2 := cells_at yb 2
    have y3 := cells_at yb 3
    have y4 := cells_at yb 4
    have y5 := cells_at yb 5
    have y6 := cells_at yb 6
    have y7 := cells_at yb 7
    have u0 := cells_at ub 0
    have u1 := cells_at ub 1
    have u2 := cells_at ub 2
    have u3 := cells_at ub 3
    have u4 := cells_at ub 4
    have u5 := cells_at ub 5
    have u6 := cells_at ub 6
    have u7 := cells_at ub 7
    simp at y0 y1 y2 y3 y4 y5 y6 y7 u0 u1 u2 u3 u4 u5 u6 u7
    have fu := frozen_at ub
    clear yb ub
    go_wp2_with fail
    (try simp only [Exit.inBlock, Exit.then])
    have F := STB.out.fin hp (by have := lt_of_heap STB.out.box; omega)
    refine bodyPost_ret (results_cell_row rfl _ _ w.heap.size 26 (recC _ _) (0, 0) _ rfl F.1 Try.underlying26 rfl (by kernel_rfl)) rfl ?_
    exact ⟨_, _, rfl, F.2.2.2, HL0.out, HRI.out, F.2.1, F.2.2.1⟩

end Go.Proofs.Ytohjphhocdgpgaa
namespace Go.Proofs.Ytohjphhocdgpgaa
open Go.RowKit

set_option linter.unusedSimpArgs false

/-- one more record, its row behind hi -/
theorem RecsOwn.push2 {Wa W2 : World} {lo hi : Nat} {v v' : Value} {qs : List RP} {p : RP} (h : RecsOwn Wa lo hi v qs) (hhi : hi ≤ Wa.heap.size) (hlo : lo ≤ hi) (hp : NearOwn Wa hi Wa.heap.size p)
    (row : W2.ownsRow lo 26 8 v' (qs.length + 1) (flat encP (qs ++ [p]))) (hg : Wa.grownBy W2 v.ownBlock) : RecsOwn W2 lo W2.heap.size v' (qs ++ [p]) where
  row := by simpa using row
  top := fun k hk => (row.lt k hk).2
  apart := apart_add h.apart h.nears (fun k hk => (hp.1.lt k hk).1)
  nears := by
    have key : ∀ q, NearOwn Wa lo Wa.heap.size q → NearOwn W2 lo W2.heap.size q := fun q hq =>
      ⟨owns_keepB hq.1 (fun j hj => hg.block j (hq.2 j hj) (near_row_ne hq h.row j hj)), fun k hk => Nat.lt_of_lt_of_le (hq.2 k hk) hg.size⟩
    intro q hq
    rcases List.mem_append.1 hq with h1 | h1
    · exact key q ((h.nears q h1).wide (Nat.le_refl _) hhi)
    · have : q = p := by simpa using h1
      subst this
      exact key q (hp.wide hlo (Nat.le_refl _))

theorem RecsOwn.grownP {W W' : World} {lo hi p : Nat} {v : Value} {ps : List RP} (h : RecsOwn W lo hi v ps) (hg : W.grownBy W' (some p)) (hp : p < lo) : RecsOwn W' lo hi v ps := h.keep (fun k h1 _ h3 => hg.block k h3 (by simp; omega))

set_option maxRecDepth 100000 in
set_option maxHeartbeats 2000000 in
theorem drawRecs_any (a : Option Addr) (len cap : Nat) (w : World) (hc : Code w a len w.heap.size) :
    Calls Try.prog 34 #[.slice a len cap] w fun e w' => ∃ (v : Value) (qs : List RP), e = .returned v ∧ RecsOwn w' w.heap.size w'.heap.size v qs ∧ (∀ p ∈ qs, recOkB p.1 = true) ∧ qs.length ≤ 13 ∧ Below w.heap.size w w' := by
  have HC := hide hc
  clear hc
  go_enter Try.func34, Try.ntmps34
  go_wp2_with fail
  refine (new_any a len cap w HC.out).mono ?_
  rintro e w1 ⟨rfl, hc1, hb1⟩
  have hp1 := lt_of_cur hc1
  obtain ⟨p, hpe⟩ : ∃ p, p = w.heap.size := ⟨_, rfl⟩
  have HPE := hide hpe
  rw [← hpe] at hc1 hp1 ⊢
  have C2 := hide (cur_alloc hc1 (.cells #[] 26))
  have R2 := hide (recs_lit w1 (p + 1) hp1)
  have G2 := hide (hb1.alloc hb1.size (.cells #[] 26))
  clear hc1 hb1 HC hpe
  go_wp2
  generalize w1.alloc (.cells #[] 26) = w2 at *
  go_loopw [5, 4] (fun i o wr => ∃ (k : Nat) (qs : List RP) (u : Value), k ≤ 13 ∧ i = .int .i64 k ∧ o = u ∧ qs.length = k ∧ Hid (∀ q ∈ qs, recOkB q.1 = true) ∧ RecsOwn wr (p + 1) wr.heap.size u qs ∧ p < wr.heap.size ∧ Cur wr p a len cap ∧ Below w.heap.size w wr) (fun i _ _ => 14 - (intOf i).toNat)
  case atStart => exact ⟨0, [], _, by omega, rfl, rfl, rfl, hide (by simp), R2.out, lt_of_cur C2.out, C2.out, G2.out⟩
  case round =>
    obtain ⟨k, qs, u, hk, rfl, rfl, hql, HOK, hown, hpr, hcr, hnx⟩ := hrel
    obtain ⟨ua, uc, rfl⟩ := owns_lenS hown.row
    have hsz := hnx.size
    have OW := hide hown
    have HCR := hide hcr
    have HQL := hide hql
    clear hown hcr hql
    go_wp2_with fail
    refine (below_any p a len cap 14 _ HCR.out (by omega) (by omega)).mono ?_
    rintro e w3 ⟨y, rfl, hy0, hy1, hc3, hg3⟩
    have s3 := hg3.size
    have OW3 := hide ((OW.out.grownP hg3 (by omega)).wide (Nat.le_refl _) s3)
    have B3 : Below w.heap.size w w3 := hnx.grown hg3 hsz (fun j hj => by have := HPE.out; simp at hj; omega)
    have C3 := hide hc3
    clear hc3 hg3 OW HCR
    by_cases hlt : (k : Int) < y
    · go_wp2_with fail
      refine (recR_any p a len cap _ C3.out).mono ?_
      rintro e w4 ⟨x, n1, rfl, ho4, hl4, hok4, hc4, hg4⟩
      have s4 := hg4.size
      have OW4 := hide (OW3.out.grownP hg4 (by omega))
      have C4 := hide hc4
      have HOK4 := hide hok4
      have B4 : Below w.heap.size w w4 := B3.grown hg4 B3.size (fun j hj => by have := HPE.out; simp at hj; omega)
      have hn4 : NearOwn w4 w3.heap.size w4.heap.size (x, n1) := ⟨owns_baseS ho4 (by omega), fun k hk => (ho4.lt k hk).2⟩
      obtain ⟨na, nc, rfl⟩ := owns_lenS ho4
      have HN4 := hide hn4
      clear hc4 hg4 ho4 hok4 OW3 C3 hn4
      unfold recC
      have HQ2 := hide (show qs.length ≤ 1048576 by have := HQL.out; omega)
      go_wp2_with (first
        | (at_builtin; refine append_struct5 encP_len (by omega) (by omega) _ rfl _ _ 43 rfl (p + 1) 26 Try.underlying43 (.agg (recC zeroRD (.slice none 0 0))) rfl Try.infoRec _ qs (x, .slice na x.near.length nc) (encP_one _ _ _ _) rfl (OW4.out.row.alloc _) ⟨w4.heap.size, 0, none⟩ 1 rfl (news_struct (cs := encP (x, .slice na x.near.length nc))) (by have := HQ2.out; omega) (by simp; omega) ?_))
      intro v' w5 hown' hgrow
      have h4 := (OW4.out.keep (W' := w4.alloc (.cells (encP (x, .slice na x.near.length nc)).toArray 26)) (fun j _ _ h3 => Below.heap_alloc _ _ _ h3))
      have ow5 := h4.push2 (p := (x, .slice na x.near.length nc)) (by simp; omega) (by omega) ((HN4.out.keep (fun j _ _ h3 => Below.heap_alloc _ _ _ h3)).wide (Nat.le_refl _) (by simp)) hown' hgrow
      obtain ⟨va, vc, rfl⟩ := owns_lenS hown'
      have B5 : Below w.heap.size w w5 := (B4.alloc B4.size _).grown hgrow (by simp; have := B4.size; omega) (fun j hj => by have := (h4.row.lt j hj).1; have := HPE.out; omega)
      have C5 := hide ((cur_alloc C4.out (.cells (encP (x, .slice na x.near.length nc)).toArray 26)).grown hgrow (fun b hb e => by have := (h4.row.lt b e.symm).1; omega))
      have OW5 := hide ow5
      have HOK5 := hide (show ∀ q ∈ qs ++ [(x, .slice na x.near.length nc)], recOkB q.1 = true by
        intro q hq
        rcases List.mem_append.1 hq with h1 | h1
        · exact HOK.out q h1
        · have : q = (x, .slice na x.near.length nc) := by simpa using h1
          subst this
          exact HOK4.out)
      have hs5 : p < w5.heap.size := lt_of_cur C5.out
      clear ow5 h4 hown' hgrow
      go_wp2
      go_roundw
      case rel => exact ⟨k + 1, qs ++ [(x, .slice na x.near.length nc)], _, by omega, by go_num, rfl, by have := HQL.out; simp; omega, HOK5, OW5.out, hs5, C5.out, B5⟩
      case measure => simp [intOf]; omega
    · go_wp2
      go_ret
      have hp2 := HPE.out
      have O3 := OW3.out.wide (show w.heap.size ≤ p + 1 by omega) (Nat.le_refl _)
      first
        | exact ⟨_, qs, rfl, O3, HOK.out, by have := HQL.out; omega, B3⟩
        | exact ⟨_, rfl, qs, O3, HOK.out, by have := HQL.out; omega, B3⟩
end Go.Proofs.Ytohjphhocdgpgaa
