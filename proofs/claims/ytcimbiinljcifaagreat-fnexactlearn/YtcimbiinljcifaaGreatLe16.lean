/-
  spec.l08Copy: a node with rows of its own.
  What slices.Insert needs: copy of a row of structs, append at two types, the lists of cells.
-/
import Derived.Test.YtcimbiinljcifaaGreatLe15
import Derived.Test.YtcimbiinljcifaaGreatLe6
import Derived.Shelf.Spec.SlicesInsertGrow
namespace Go.Proofs.YtcimbiinljcifaaGreat
open Go.RowKit

set_option linter.unusedSimpArgs false

set_option maxRecDepth 100000 in
set_option maxHeartbeats 4000000 in
theorem copySelf_any (v1 v2 v3 v4 : Value) (x : SelfD) (ps : List RP) (hi : Nat) (w : World) (hv : SelfSrc w hi v1 v2 v3 v4 x ps) (hhi : hi ≤ w.heap.size) (ht : totS x ps ≤ 1048576) :
    Calls Tryz.prog 30 #[selfV x v1 v2 v3 v4] w fun e w' => SelfNew w w' x ps e := by
  obtain ⟨⟨a1, c1, rfl⟩, ⟨a2, c2, rfl⟩, ⟨a3, c3, rfl⟩, ⟨a4, c4, rfl⟩⟩ := hv.in.shapes
  have hlL : x.net.ls.length ≤ 1048576 := by unfold totS at ht; omega
  have hlT : x.net.ts.length ≤ 1048576 := by unfold totS at ht; omega
  have hlH : x.heard.length ≤ 1048576 := by unfold totS at ht; omega
  have hlR : tot ps ≤ 1048576 := by unfold totS at ht; omega
  have HX := hide hv
  clear hv ht
  unfold SelfNew
  have B0 : Below w.heap.size w ((w.alloc (.cells #[.int .i64 x.id, .int .i64 x.boot, .int .i64 x.net.n, .slice a1 x.net.ls.length c1, .slice a2 x.net.ts.length c2, .slice a3 x.heard.length c3, .slice a4 ps.length c4] 31)).alloc (.cells #[.int .i64 0, .int .i64 0, .int .i64 0, .slice none 0 0, .slice none 0 0, .slice none 0 0, .slice none 0 0] 31)) := ((Below.refl w.heap.size w).alloc (Nat.le_refl _) _).alloc (by simp) _
  have q0 : ((w.alloc (.cells #[.int .i64 x.id, .int .i64 x.boot, .int .i64 x.net.n, .slice a1 x.net.ls.length c1, .slice a2 x.net.ts.length c2, .slice a3 x.heard.length c3, .slice a4 ps.length c4] 31)).alloc (.cells #[.int .i64 0, .int .i64 0, .int .i64 0, .slice none 0 0, .slice none 0 0, .slice none 0 0, .slice none 0 0] 31)).heap[w.heap.size]? = some (.cells #[.int .i64 x.id, .int .i64 x.boot, .int .i64 x.net.n, .slice a1 x.net.ls.length c1, .slice a2 x.net.ts.length c2, .slice a3 x.heard.length c3, .slice a4 ps.length c4] 31) := by rw [Below.heap_alloc _ _ _ (by simp), heap_alloc_new]
  have q1 : ((w.alloc (.cells #[.int .i64 x.id, .int .i64 x.boot, .int .i64 x.net.n, .slice a1 x.net.ls.length c1, .slice a2 x.net.ts.length c2, .slice a3 x.heard.length c3, .slice a4 ps.length c4] 31)).alloc (.cells #[.int .i64 0, .int .i64 0, .int .i64 0, .slice none 0 0, .slice none 0 0, .slice none 0 0, .slice none 0 0] 31)).heap[w.heap.size + 1]? = some (.cells #[.int .i64 0, .int .i64 0, .int .i64 0, .slice none 0 0, .slice none 0 0, .slice none 0 0, .slice none 0 0] 31) := by
    have h := heap_alloc_new (w.alloc (.cells #[.int .i64 x.id, .int .i64 x.boot, .int .i64 x.net.n, .slice a1 x.net.ls.length c1, .slice a2 x.net.ts.length c2, .slice a3 x.heard.length c3, .slice a4 ps.length c4] 31)) (.cells #[.int .i64 0, .int .i64 0, .int .i64 0, .slice none 0 0, .slice none 0 0, .slice none 0 0, .slice none 0 0] 31)
    simpa using h
  have z0 : ((w.alloc (.cells #[.int .i64 x.id, .int .i64 x.boot, .int .i64 x.net.n, .slice a1 x.net.ls.length c1, .slice a2 x.net.ts.length c2, .slice a3 x.heard.length c3, .slice a4 ps.length c4] 31)).alloc (.cells #[.int .i64 0, .int .i64 0, .int .i64 0, .slice none 0 0, .slice none 0 0, .slice none 0 0, .slice none 0 0] 31)).heap.size = w.heap.size + 2 := by simp
  have Q0 := hide q0
  have Q1 := hide q1
  have Z0 := hide z0
  clear q0 q1 z0
  go_enter Tryz.func30, Tryz.ntmps30
  go_wp2_with fail
  obtain ⟨w1, hw1⟩ : ∃ W, W = ((w.alloc (.cells #[.int .i64 x.id, .int .i64 x.boot, .int .i64 x.net.n, .slice a1 x.net.ls.length c1, .slice a2 x.net.ts.length c2, .slice a3 x.heard.length c3, .slice a4 ps.length c4] 31)).alloc (.cells #[.int .i64 0, .int .i64 0, .int .i64 0, .slice none 0 0, .slice none 0 0, .slice none 0 0, .slice none 0 0] 31)) := ⟨_, rfl⟩
  rw [← hw1] at B0 Q0 Q1 Z0 ⊢
  clear hw1
  have k2 := cells_at Q0.out 2
  simp at k2
  have kk : w1.drew.cell? ⟨w.heap.size, 2, none⟩ = some (.int .i64 x.net.n) := k2
  refine wp_region_noPanic ?_
  refine wp_region_start (S := (fun W => W.cell? ⟨w.heap.size, 2, none⟩ = some (.int .i64 x.net.n))) (by kernel_rfl) 16 rfl kk (fun ops hops hHeld => ?_)
  refine take_do 0 (oi := ?_) (v := ?_) ?_ (by rw [hops.out]; kernel_rfl) ?_ ?_ ?_ (by assumption) ?_
  rotate_left 2
  · rw [hops.out]; simp only [List.getElem?_toArray, List.getElem?_cons_succ, List.getElem?_cons_zero]; rfl
  · rw [hops.out]; kernel_rfl
  · intro W hW; (try dsimp only at hW); go_simp <;> with_reducible rfl
  · exact fun _ _ _ h => h
  try simp only [Act.put, List.setIfInBounds_toArray, List.set_cons_zero, List.set_cons_succ]
  refine take_do 1 (oi := ?_) (v := ?_) ?_ (by rw [hops.out]; kernel_rfl) ?_ ?_ ?_ (by assumption) ?_
  rotate_left 2
  · rw [hops.out]; simp only [List.getElem?_toArray, List.getElem?_cons_succ, List.getElem?_cons_zero]; rfl
  · rw [hops.out]; kernel_rfl
  · intro W hW; (try dsimp only at hW); go_simp <;> with_reducible rfl
  · exact fun _ _ _ h => h
  try simp only [Act.put, List.setIfInBounds_toArray, List.set_cons_zero, List.set_cons_succ]
  refine take_do 2 (oi := ?_) (v := ?_) ?_ (by rw [hops.out]; kernel_rfl) ?_ ?_ ?_ (by assumption) ?_
  rotate_left 2
  · rw [hops.out]; simp only [List.getElem?_toArray, List.getElem?_cons_succ, List.getElem?_cons_zero]; rfl
  · rw [hops.out]; kernel_rfl
  · intro W hW; (try dsimp only at hW); go_simp <;> with_reducible rfl
  · exact fun _ _ _ h => h
  try simp only [Act.put, List.setIfInBounds_toArray, List.set_cons_zero, List.set_cons_succ]
  refine take_do 4 (oi := ?_) (v := ?_) ?_ (by rw [hops.out]; kernel_rfl) ?_ ?_ ?_ (by assumption) ?_
  rotate_left 2
  · rw [hops.out]; simp only [List.getElem?_toArray, List.getElem?_cons_succ, List.getElem?_cons_zero]; rfl
  · rw [hops.out]; kernel_rfl
  · intro W hW; (try dsimp only at hW); go_simp <;> with_reducible rfl
  · exact fun _ _ _ h => h
  try simp only [Act.put, List.setIfInBounds_toArray, List.set_cons_zero, List.set_cons_succ]
  refine take_do 5 (oi := ?_) (v := ?_) ?_ (by rw [hops.out]; kernel_rfl) ?_ ?_ ?_ (by assumption) ?_
  rotate_left 2
  · rw [hops.out]; simp only [List.getElem?_toArray, List.getElem?_cons_succ, List.getElem?_cons_zero]; rfl
  · rw [hops.out]; kernel_rfl
  · intro W hW; (try dsimp only at hW); go_simp <;> with_reducible rfl
  · exact fun _ _ _ h => h
  try simp only [Act.put, List.setIfInBounds_toArray, List.set_cons_zero, List.set_cons_succ]
  refine take_do 9 (oi := ?_) (v := ?_) ?_ (by rw [hops.out]; kernel_rfl) ?_ ?_ ?_ (by assumption) ?_
  rotate_left 2
  · rw [hops.out]; simp only [List.getElem?_toArray, List.getElem?_cons_succ, List.getElem?_cons_zero]; rfl
  · rw [hops.out]; kernel_rfl
  · intro W hW; (try dsimp only at hW); go_simp <;> with_reducible rfl
  · exact fun _ _ _ h => h
  try simp only [Act.put, List.setIfInBounds_toArray, List.set_cons_zero, List.set_cons_succ]
  refine take_do 10 (oi := ?_) (v := ?_) ?_ (by rw [hops.out]; kernel_rfl) ?_ ?_ ?_ (by assumption) ?_
  rotate_left 2
  · rw [hops.out]; simp only [List.getElem?_toArray, List.getElem?_cons_succ, List.getElem?_cons_zero]; rfl
  · rw [hops.out]; kernel_rfl
  · intro W hW; (try dsimp only at hW); go_simp <;> with_reducible rfl
  · exact fun _ _ _ h => h
  try simp only [Act.put, List.setIfInBounds_toArray, List.set_cons_zero, List.set_cons_succ]
  have BD : Below w.heap.size w w1.drew := B0.drew
  have hw1s := lt_of_heap Q1.out
  have hdr : w1.drew.heap.size = w1.heap.size := rfl
  refine lc_dag x.net.n x.net.ls x.net.ts a1 a2 c1 c2 w.heap.size w1.heap.size w1.drew _ _ ops hops (Nat.le_refl _) hlL hlT ?_ ?_ (.int .i64 x.id) (.int .i64 x.boot) (.slice a3 x.heard.length c3) (.slice a4 ps.length c4) ?_ ?_ ?_ ?_
  · intro W hb
    exact (hb.cell (by show w.heap.size < w1.heap.size; omega)).trans kk
  · intro W hb u1 u2
    have h0 := (hb.block w.heap.size (by omega)).trans Q0.out
    have h1 := heap_setCell_same _ _ 2 _ _ (.int .i64 x.net.n) h0
    have h2 := heap_setCell_same _ _ 3 _ _ u1 h1
    have h3 := heap_setCell_same _ _ 4 _ _ u2 h2
    have h4 := cells_at h3 2
    simpa using h4
  · intro W hb
    exact (hb.block w.heap.size (by omega)).trans Q0.out
  · intro W hb
    exact (HX.out.below (BD.trans (hb.mono (by omega))) hhi).links
  · intro W hb
    exact (HX.out.below (BD.trans (hb.mono (by omega))) hhi).things
  intro W G1 G2 p1a p2a p1c p2c hb hbs r1 r2
  clear hops ops hHeld kk
  have BW : Below w.heap.size w W := BD.trans (hb.mono (by omega))
  have x0 := (hb.block w.heap.size (by omega)).trans Q0.out
  have x1 := (hb.block (w.heap.size + 1) (by omega)).trans Q1.out
  have B3 : Below w.heap.size w (((W.setCell ⟨w.heap.size, 2, none⟩ (.int .i64 x.net.n)).setCell ⟨w.heap.size, 3, none⟩ (.slice p1a x.net.ls.length p1c)).setCell ⟨w.heap.size, 4, none⟩ (.slice p2a x.net.ts.length p2c)) := ((BW.setCell (Nat.le_refl _) _).setCell (Nat.le_refl _) _).setCell (Nat.le_refl _) _
  have y0 : (((W.setCell ⟨w.heap.size, 2, none⟩ (.int .i64 x.net.n)).setCell ⟨w.heap.size, 3, none⟩ (.slice p1a x.net.ls.length p1c)).setCell ⟨w.heap.size, 4, none⟩ (.slice p2a x.net.ts.length p2c)).heap[w.heap.size]? = some (.cells #[.int .i64 x.id, .int .i64 x.boot, .int .i64 x.net.n, .slice p1a x.net.ls.length p1c, .slice p2a x.net.ts.length p2c, .slice a3 x.heard.length c3, .slice a4 ps.length c4] 31) := by
    have h1 := heap_setCell_same _ _ 2 _ _ (.int .i64 x.net.n) x0
    have h2 := heap_setCell_same _ _ 3 _ _ (.slice p1a x.net.ls.length p1c) h1
    exact heap_setCell_same _ _ 4 _ _ (.slice p2a x.net.ts.length p2c) h2
  have y1 : (((W.setCell ⟨w.heap.size, 2, none⟩ (.int .i64 x.net.n)).setCell ⟨w.heap.size, 3, none⟩ (.slice p1a x.net.ls.length p1c)).setCell ⟨w.heap.size, 4, none⟩ (.slice p2a x.net.ts.length p2c)).heap[w.heap.size + 1]? = some (.cells #[.int .i64 0, .int .i64 0, .int .i64 0, .slice none 0 0, .slice none 0 0, .slice none 0 0, .slice none 0 0] 31) := by
    rw [heap_setCell_other _ ⟨w.heap.size, 4, none⟩ _ _ (by show w.heap.size + 1 ≠ w.heap.size; omega), heap_setCell_other _ ⟨w.heap.size, 3, none⟩ _ _ (by show w.heap.size + 1 ≠ w.heap.size; omega), heap_setCell_other _ ⟨w.heap.size, 2, none⟩ _ _ (by show w.heap.size + 1 ≠ w.heap.size; omega)]
    exact x1
  have s1 := owns_set (p := w.heap.size) (j := 4) (u := .slice p2a x.net.ts.length p2c) (owns_set (p := w.heap.size) (j := 3) (u := .slice p1a x.net.ls.length p1c) (owns_set (p := w.heap.size) (j := 2) (u := .int .i64 x.net.n) r1 (by omega)) (by omega)) (by omega)
  have s2 := owns_set (p := w.heap.size) (j := 4) (u := .slice p2a x.net.ts.length p2c) (owns_set (p := w.heap.size) (j := 3) (u := .slice p1a x.net.ls.length p1c) (owns_set (p := w.heap.size) (j := 2) (u := .int .i64 x.net.n) r2 (by omega)) (by omega)) (by omega)
  have hsz3 : w1.heap.size ≤ (((W.setCell ⟨w.heap.size, 2, none⟩ (.int .i64 x.net.n)).setCell ⟨w.heap.size, 3, none⟩ (.slice p1a x.net.ls.length p1c)).setCell ⟨w.heap.size, 4, none⟩ (.slice p2a x.net.ts.length p2c)).heap.size := by simp; exact hbs
  generalize (((W.setCell ⟨w.heap.size, 2, none⟩ (.int .i64 x.net.n)).setCell ⟨w.heap.size, 3, none⟩ (.slice p1a x.net.ls.length p1c)).setCell ⟨w.heap.size, 4, none⟩ (.slice p2a x.net.ts.length p2c)) = w3 at *
  have hw3s := lt_of_heap y1
  have hw3t : w.heap.size < w3.heap.size := by omega
  have hw3n : ¬ w.heap.size = w3.heap.size := by omega
  have t5 := cells_at y0 5
  simp at t5
  have BL : Below w3.heap.size w3 (w3.alloc (.cells #[] 3)) := (Below.refl _ _).alloc (Nat.le_refl _) _
  have B4 : Below w.heap.size w (w3.alloc (.cells #[] 3)) := B3.trans (BL.mono (by omega))
  have R1 := hide s1
  have R2 := hide s2
  have Y0 := hide y0
  have Y1 := hide y1
  clear r1 r2 s1 s2 x0 x1 y0 y1 k2 hb hbs BW
  go_wp2_with (first | (at_builtin; refine append_row5 int_flat1 (by omega) intE_one (by omega) _ rfl _ _ 28 rfl w3.heap.size 3 Tryz.underlying28 (.int .i64 0) rfl Tryz.info3 _ [] rfl ?own0 0 _ x.heard rfl (HX.out.below B4 hhi).heard (by simp; omega) (by simp) ?_))
  case own0 => exact World.ownsRow_lit w3 #[] 0 (Nat.le_refl _) (by unfold maxLen; omega) (by simp)
  intro v3' wA ho3 gr3
  obtain ⟨p3a, p3c, rfl⟩ := owns_lenS ho3
  simp only [Value.ownBlock, List.nil_append] at gr3 ho3
  try simp only [List.nil_append]
  have hgs := gr3.size
  simp at hgs
  have bA : Below w.heap.size w wA := B4.grown gr3 (by simp; omega) (fun k hk => by simp at hk; omega)
  have x0 := (gr3.block w.heap.size (by simp; omega) (by simp; omega)).trans ((BL.block _ (lt_of_heap Y0.out)).trans Y0.out)
  have x1 := (gr3.block (w.heap.size + 1) (by simp; omega) (by simp; omega)).trans ((BL.block _ (lt_of_heap Y1.out)).trans Y1.out)
  have r1 := owns_keepB (W' := wA) R1.out (fun k hk => (gr3.block k (by have := (R1.out.lt k hk).2; simp; omega) (by have := (R1.out.lt k hk).2; simp; omega)).trans (BL.block k (R1.out.lt k hk).2))
  have r2 := owns_keepB (W' := wA) R2.out (fun k hk => (gr3.block k (by have := (R2.out.lt k hk).2; simp; omega) (by have := (R2.out.lt k hk).2; simp; omega)).trans (BL.block k (R2.out.lt k hk).2))
  have fz := frozen_at x0 5
  clear t5
  have t5 := cells_at x0 5
  have t6 := cells_at x0 6
  simp at t5 t6
  have B5 : Below w.heap.size w (wA.setCell ⟨w.heap.size, 5, none⟩ (.slice p3a x.heard.length p3c)) := bA.setCell (Nat.le_refl _) _
  have y0 : (wA.setCell ⟨w.heap.size, 5, none⟩ (.slice p3a x.heard.length p3c)).heap[w.heap.size]? = some (.cells #[.int .i64 x.id, .int .i64 x.boot, .int .i64 x.net.n, .slice p1a x.net.ls.length p1c, .slice p2a x.net.ts.length p2c, .slice p3a x.heard.length p3c, .slice a4 ps.length c4] 31) := heap_setCell_same _ _ 5 _ _ (.slice p3a x.heard.length p3c) x0
  have y1 : (wA.setCell ⟨w.heap.size, 5, none⟩ (.slice p3a x.heard.length p3c)).heap[w.heap.size + 1]? = some (.cells #[.int .i64 0, .int .i64 0, .int .i64 0, .slice none 0 0, .slice none 0 0, .slice none 0 0, .slice none 0 0] 31) := by rw [heap_setCell_other _ ⟨w.heap.size, 5, none⟩ _ _ (by show w.heap.size + 1 ≠ w.heap.size; omega)]; exact x1
  have L1 := hide (show ∀ k, (Value.slice p1a x.net.ls.length p1c).ownBlock = some k → k < w3.heap.size from fun k hk => (R1.out.lt k hk).2)
  have L2 := hide (show ∀ k, (Value.slice p2a x.net.ts.length p2c).ownBlock = some k → k < w3.heap.size from fun k hk => (R2.out.lt k hk).2)
  have S1 := hide (owns_set (p := w.heap.size) (j := 5) (u := .slice p3a x.heard.length p3c) r1 (by omega))
  have S2 := hide (owns_set (p := w.heap.size) (j := 5) (u := .slice p3a x.heard.length p3c) r2 (by omega))
  have S3 := hide (owns_set (p := w.heap.size) (j := 5) (u := .slice p3a x.heard.length p3c) ho3 (by omega))
  have zz : (wA.setCell ⟨w.heap.size, 5, none⟩ (.slice p3a x.heard.length p3c)).heap.size = wA.heap.size := by simp
  have HCL := hide (copyList_any (.slice a4 ps.length c4) ps hi (wA.setCell ⟨w.heap.size, 5, none⟩ (.slice p3a x.heard.length p3c)) (HX.out.store.below B5 hhi) (by have := B5.size; omega) hlR)
  have Q03 := hide y0
  have Q13 := hide y1
  clear x0 x1 r1 r2 ho3 gr3 y0 y1 R1 R2 Y0 Y1
  go_wp2_with fail
  obtain ⟨wS, hwS⟩ : ∃ W, W = (wA.setCell ⟨w.heap.size, 5, none⟩ (.slice p3a x.heard.length p3c)) := ⟨_, rfl⟩
  rw [← hwS] at B5 zz Q03 Q13 HCL S1 S2 S3 ⊢
  clear hwS
  refine HCL.out.mono ?_
  rintro e w6 ⟨p4, qs, rfl, fq, ho4, b6⟩
  obtain ⟨p4a, p4c, rfl⟩ := owns_lenS ho4.row
  have hz6 := b6.size
  have bs3 := B5.size
  have bw6 : Below w.heap.size w w6 := B5.trans (b6.mono B5.size)
  have q2 := (b6.block _ (lt_of_heap Q03.out)).trans Q03.out
  have q1 := (b6.block _ (lt_of_heap Q13.out)).trans Q13.out
  have hl6 := lt_of_heap q1
  have OW := hide (show SelfOwn w6 w1.heap.size w6.heap.size (.slice p1a x.net.ls.length p1c) (.slice p2a x.net.ts.length p2c) (.slice p3a x.heard.length p3c) (.slice p4a qs.length p4c) x qs w3.heap.size wS.heap.size from
    { o1 := hsz3
      o2 := by omega
      o3 := hz6
      links := owns_below S1.out b6 (Nat.le_refl _)
      ltop := L1.out
      things := owns_below S2.out b6 (Nat.le_refl _)
      ttop := L2.out
      heard := ⟨owns_below S3.out b6 (Nat.le_refl _), fun k e => (S3.out.lt k e).2⟩
      store := ho4 })
  have FQ := hide fq
  clear t5 t6
  have r0 := cells_at q1 0
  have r1 := cells_at q1 1
  have r2 := cells_at q1 2
  have r3 := cells_at q1 3
  have r4 := cells_at q1 4
  have r5 := cells_at q1 5
  have r6 := cells_at q1 6
  simp at r0 r1 r2 r3 r4 r5 r6
  have t0 := cells_at q2 0
  have t1 := cells_at q2 1
  have t2 := cells_at q2 2
  have t3 := cells_at q2 3
  have t4 := cells_at q2 4
  have t5 := cells_at q2 5
  have t6 := cells_at q2 6
  simp at t0 t1 t2 t3 t4 t5 t6
  have fz0x := frozen_at q1 0
  have fz1x := frozen_at q1 1
  have fz2x := frozen_at q1 2
  have fz3x := frozen_at q1 3
  have fz4x := frozen_at q1 4
  have fz5x := frozen_at q1 5
  have fz6x := frozen_at q1 6
  have e6 := frozen_at q2 6
  have QQ1 := hide q1
  clear ho4 q1 q2 fq
  go_wp2
  have hfin : ((((((((w6.setCell ⟨w.heap.size, 6, none⟩ (.slice p4a qs.length p4c)).setCell ⟨w.heap.size + 1, 0, none⟩ (.int .i64 x.id)).setCell ⟨w.heap.size + 1, 1, none⟩ (.int .i64 x.boot)).setCell ⟨w.heap.size + 1, 2, none⟩ (.int .i64 x.net.n)).setCell ⟨w.heap.size + 1, 3, none⟩ (.slice p1a x.net.ls.length p1c)).setCell ⟨w.heap.size + 1, 4, none⟩ (.slice p2a x.net.ts.length p2c)).setCell ⟨w.heap.size + 1, 5, none⟩ (.slice p3a x.heard.length p3c)).setCell ⟨w.heap.size + 1, 6, none⟩ (.slice p4a qs.length p4c)).heap[w.heap.size + 1]? = some (.cells #[.int .i64 x.id, .int .i64 x.boot, .int .i64 x.net.n, .slice p1a x.net.ls.length p1c, .slice p2a x.net.ts.length p2c, .slice p3a x.heard.length p3c, .slice p4a qs.length p4c] 31) := by
    have k0 : (w6.setCell ⟨w.heap.size, 6, none⟩ (.slice p4a qs.length p4c)).heap[w.heap.size + 1]? = some (.cells #[.int .i64 0, .int .i64 0, .int .i64 0, .slice none 0 0, .slice none 0 0, .slice none 0 0, .slice none 0 0] 31) := by
      rw [heap_setCell_other _ ⟨w.heap.size, 6, none⟩ _ _ (by show w.heap.size + 1 ≠ w.heap.size; omega)]
      exact QQ1.out
    have k1 := heap_setCell_same _ _ 0 _ _ (.int .i64 x.id) k0
    have k2 := heap_setCell_same _ _ 1 _ _ (.int .i64 x.boot) k1
    have k3 := heap_setCell_same _ _ 2 _ _ (.int .i64 x.net.n) k2
    have k4 := heap_setCell_same _ _ 3 _ _ (.slice p1a x.net.ls.length p1c) k3
    have k5 := heap_setCell_same _ _ 4 _ _ (.slice p2a x.net.ts.length p2c) k4
    have k6 := heap_setCell_same _ _ 5 _ _ (.slice p3a x.heard.length p3c) k5
    have k7 := heap_setCell_same _ _ 6 _ _ (.slice p4a qs.length p4c) k6
    exact k7
  have hkeep : ∀ k, w.heap.size + 2 ≤ k → ((((((((w6.setCell ⟨w.heap.size, 6, none⟩ (.slice p4a qs.length p4c)).setCell ⟨w.heap.size + 1, 0, none⟩ (.int .i64 x.id)).setCell ⟨w.heap.size + 1, 1, none⟩ (.int .i64 x.boot)).setCell ⟨w.heap.size + 1, 2, none⟩ (.int .i64 x.net.n)).setCell ⟨w.heap.size + 1, 3, none⟩ (.slice p1a x.net.ls.length p1c)).setCell ⟨w.heap.size + 1, 4, none⟩ (.slice p2a x.net.ts.length p2c)).setCell ⟨w.heap.size + 1, 5, none⟩ (.slice p3a x.heard.length p3c)).setCell ⟨w.heap.size + 1, 6, none⟩ (.slice p4a qs.length p4c)).heap[k]? = w6.heap[k]? := fun k hk => by
    rw [heap_setCell_other _ ⟨w.heap.size + 1, 6, none⟩ _ _ (by show k ≠ w.heap.size + 1; omega), heap_setCell_other _ ⟨w.heap.size + 1, 5, none⟩ _ _ (by show k ≠ w.heap.size + 1; omega), heap_setCell_other _ ⟨w.heap.size + 1, 4, none⟩ _ _ (by show k ≠ w.heap.size + 1; omega), heap_setCell_other _ ⟨w.heap.size + 1, 3, none⟩ _ _ (by show k ≠ w.heap.size + 1; omega), heap_setCell_other _ ⟨w.heap.size + 1, 2, none⟩ _ _ (by show k ≠ w.heap.size + 1; omega), heap_setCell_other _ ⟨w.heap.size + 1, 1, none⟩ _ _ (by show k ≠ w.heap.size + 1; omega), heap_setCell_other _ ⟨w.heap.size + 1, 0, none⟩ _ _ (by show k ≠ w.heap.size + 1; omega), heap_setCell_other _ ⟨w.heap.size, 6, none⟩ _ _ (by show k ≠ w.heap.size; omega)]
  have hsize : ((((((((w6.setCell ⟨w.heap.size, 6, none⟩ (.slice p4a qs.length p4c)).setCell ⟨w.heap.size + 1, 0, none⟩ (.int .i64 x.id)).setCell ⟨w.heap.size + 1, 1, none⟩ (.int .i64 x.boot)).setCell ⟨w.heap.size + 1, 2, none⟩ (.int .i64 x.net.n)).setCell ⟨w.heap.size + 1, 3, none⟩ (.slice p1a x.net.ls.length p1c)).setCell ⟨w.heap.size + 1, 4, none⟩ (.slice p2a x.net.ts.length p2c)).setCell ⟨w.heap.size + 1, 5, none⟩ (.slice p3a x.heard.length p3c)).setCell ⟨w.heap.size + 1, 6, none⟩ (.slice p4a qs.length p4c)).heap.size = w6.heap.size := by simp
  have hbel : Below w.heap.size w ((((((((w6.setCell ⟨w.heap.size, 6, none⟩ (.slice p4a qs.length p4c)).setCell ⟨w.heap.size + 1, 0, none⟩ (.int .i64 x.id)).setCell ⟨w.heap.size + 1, 1, none⟩ (.int .i64 x.boot)).setCell ⟨w.heap.size + 1, 2, none⟩ (.int .i64 x.net.n)).setCell ⟨w.heap.size + 1, 3, none⟩ (.slice p1a x.net.ls.length p1c)).setCell ⟨w.heap.size + 1, 4, none⟩ (.slice p2a x.net.ts.length p2c)).setCell ⟨w.heap.size + 1, 5, none⟩ (.slice p3a x.heard.length p3c)).setCell ⟨w.heap.size + 1, 6, none⟩ (.slice p4a qs.length p4c)) := ((((((((bw6.setCell (by show w.heap.size ≤ w.heap.size; omega) _).setCell (by show w.heap.size ≤ w.heap.size + 1; omega) _).setCell (by show w.heap.size ≤ w.heap.size + 1; omega) _).setCell (by show w.heap.size ≤ w.heap.size + 1; omega) _).setCell (by show w.heap.size ≤ w.heap.size + 1; omega) _).setCell (by show w.heap.size ≤ w.heap.size + 1; omega) _).setCell (by show w.heap.size ≤ w.heap.size + 1; omega) _).setCell (by show w.heap.size ≤ w.heap.size + 1; omega) _)
  try simp only [Exit.inBlock, Exit.then]
  refine bodyPost_ret (results_cell_row rfl _ _ (w.heap.size + 1) 31 #[.int .i64 x.id, .int .i64 x.boot, .int .i64 x.net.n, .slice p1a x.net.ls.length p1c, .slice p2a x.net.ts.length p2c, .slice p3a x.heard.length p3c, .slice p4a qs.length p4c] (0, 0) _ rfl hfin Tryz.underlying31 rfl (by kernel_rfl)) rfl ?_
  exact ⟨_, _, _, _, qs, _, _, rfl, FQ.out, ((OW.out.keep (fun k h1 _ _ => hkeep k (by omega))).low (by omega)).high (by rw [hsize]; omega), hbel⟩
end Go.Proofs.YtcimbiinljcifaaGreat
namespace Go.Proofs.YtcimbiinljcifaaGreat
open Go.RowKit

theorem run_copy_rowS {P : Program} (w : World) (dT sT ty elem : TypeId) (g o dLen dCap : Nat) (a : Addr) (sLen sCap sz : Nat) (cur : Array Value) (t : TypeId) (cs : List Value)
    (hu : P.underlying dT = some (.slice elem)) (hs : (P.info? elem).map (·.size) = some sz)
    (hg : w.heap[g]? = some (.cells cur t (0, 0))) (hn : cs.length = Nat.min sLen dLen * sz)
    (hsrc : ∀ j v, cs[j]? = some v → w.cell? (a.add j) = some v) (hfit : o + cs.length ≤ cur.size) (h1 : ∀ v ∈ cs, v.oneCell' = true) :
    (Builtin.copy_ #[dT, sT] ty #[.slice (some ⟨g, o, none⟩) dLen dCap, .slice (some a) sLen sCap]).run P w =
      .ok (goInt (Nat.min sLen dLen)) (w.setRow g (cur.toList.take o ++ cs ++ cur.toList.drop (o + cs.length)).toArray) := by
  have hl := run_loadCells_list (P := P) w a cs hsrc
  have hst := run_storeCells_at P g o t cs 0 cur w hg (by simpa using hfit) h1
  cases hq : P.info? elem with
  | none => simp [hq] at hs
  | some i =>
    have hi : i.size = sz := by simpa [hq] using hs
    simp [Builtin.copy_, run_underlying hu, Builtin.lenOf, Builtin.firstCells, sizeOf, typeInfo, hq, hi, ← hn, hl, hst]

theorem append_types {P : Program} (w : World) (t t2 ty e : TypeId) (i : TypeInfo) (ht : P.underlying t = some (.slice e)) (ht2 : P.underlying t2 = some (.slice e)) (hi : P.info? e = some i) (b : Option Addr) (n c : Nat) (x : Value) :
    (Builtin.append_ #[t, t2] ty #[.slice b n c, x]).run P w = (Builtin.append_ #[t, t] ty #[.slice b n c, x]).run P w := by
  simp [Builtin.append_, run_underlying ht, run_underlying ht2, sizeOf, typeInfo, hi]

/-- what two copies leave -/
theorem seg_len (cur D R : List Value) (a d : Nat) (hD : D.length = d) (hR : R.length = 8) (hc : a + 8 + d ≤ cur.length) :
    ((cur.take (a + 8) ++ D ++ cur.drop (a + 8 + D.length)).take a ++ R ++ (cur.take (a + 8) ++ D ++ cur.drop (a + 8 + D.length)).drop (a + R.length)) = cur.take a ++ R ++ D ++ cur.drop (a + 8 + d) := by
  have e1 : (cur.take (a + 8) ++ D ++ cur.drop (a + 8 + D.length)).take a = cur.take a := by
    rw [List.append_assoc, List.take_append_of_le_length (by simp; omega), List.take_take, Nat.min_eq_left (by omega)]
  have e2 : (cur.take (a + 8) ++ D ++ cur.drop (a + 8 + D.length)).drop (a + R.length) = D ++ cur.drop (a + 8 + d) := by
    rw [hR, List.append_assoc, List.drop_append_of_le_length (by simp; omega), List.drop_of_length_le (by simp; omega), List.nil_append, hD]
  rw [e1, e2, List.append_assoc, List.append_assoc, List.append_assoc]

theorem take_of_parts {A B C D : List Value} {n : Nat} (h : A.length + B.length + C.length = n) : (A ++ B ++ C ++ D).take n = A ++ B ++ C := by
  rw [List.take_append_of_le_length (by simp; omega), List.take_of_length_le (by simp; omega)]

theorem flat_take (ps : List RP) (i : Nat) (h : i ≤ ps.length) : (flat encP ps).take (i * 8) = flat encP (ps.take i) := by
  conv => lhs; rw [← List.take_append_drop i ps, flat_append]
  have e : (flat encP (ps.take i)).length = i * 8 := by rw [flat_len encP_len, List.length_take, Nat.min_eq_left h]
  rw [← e, List.take_left]

theorem flat_drop (ps : List RP) (i : Nat) (h : i ≤ ps.length) : (flat encP ps).drop (i * 8) = flat encP (ps.drop i) := by
  conv => lhs; rw [← List.take_append_drop i ps, flat_append]
  have e : (flat encP (ps.take i)).length = i * 8 := by rw [flat_len encP_len, List.length_take, Nat.min_eq_left h]
  rw [← e, List.drop_left]

theorem flat_one (r : RP) : flat encP [r] = encP r := by simp [flat]

theorem flat_ins (ps : List RP) (r : RP) (i : Nat) : flat encP (ps.take i ++ [r] ++ ps.drop i) = flat encP (ps.take i) ++ encP r ++ flat encP (ps.drop i) := by
  rw [flat_append, flat_append, flat_one]

theorem ins_len (ps : List RP) (r : RP) (i : Nat) (h : i ≤ ps.length) : (ps.take i ++ [r] ++ ps.drop i).length = ps.length + 1 := by
  simp
  omega

theorem flat_oneCell (ps : List RP) (h : ∀ p ∈ ps, ∃ a n c, p.2 = .slice a n c) : ∀ u ∈ flat encP ps, u.oneCell' = true := by
  intro u hu
  simp only [flat, List.mem_flatMap] at hu
  obtain ⟨p, hp, hu⟩ := hu
  obtain ⟨a, n, c, e⟩ := h p hp
  obtain ⟨x, v⟩ := p
  simp only at e
  subst e
  exact encP_one x a n c u hu
end Go.Proofs.YtcimbiinljcifaaGreat
