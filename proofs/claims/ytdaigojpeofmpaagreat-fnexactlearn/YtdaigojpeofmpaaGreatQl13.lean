/-
  spec.l08Copy: a node with rows of its own.
  What slices.Insert needs: copy of a row of structs, append at two types, the lists of cells.
  slices.Insert at lists of records, one record put in: its three roads.
-/
import Derived.Test.YtdaigojpeofmpaaGreatQl12
import Derived.Test.YtdaigojpeofmpaaGreatQl4
import Derived.Shelf.Spec.SlicesInsertGrow
namespace Go.Proofs.YtdaigojpeofmpaaGreat
open Go.RowKit

set_option linter.unusedSimpArgs false

set_option maxRecDepth 100000 in
set_option maxHeartbeats 4000000 in
theorem copySelf_any (v1 v2 v3 v4 : Value) (x : SelfD) (ps : List RP) (hi : Nat) (w : World) (hv : SelfSrc w hi v1 v2 v3 v4 x ps) (hhi : hi ≤ w.heap.size) (ht : totS x ps ≤ 1048576) :
    Calls Tryz.prog 68 #[selfV x v1 v2 v3 v4] w fun e w' => SelfNew w w' x ps e := by
  obtain ⟨⟨a1, c1, rfl⟩, ⟨a2, c2, rfl⟩, ⟨a3, c3, rfl⟩, ⟨a4, c4, rfl⟩⟩ := hv.in.shapes
  have hlL : x.net.ls.length ≤ 1048576 := by unfold totS at ht; omega
  have hlT : x.net.ts.length ≤ 1048576 := by unfold totS at ht; omega
  have hlH : x.heard.length ≤ 1048576 := by unfold totS at ht; omega
  have hlR : tot ps ≤ 1048576 := by unfold totS at ht; omega
  have HX := hide hv
  clear hv ht
  unfold SelfNew
  have B0 : Below w.heap.size w ((w.alloc (.cells #[.int .i64 x.id, .int .i64 x.boot, .int .i64 x.net.n, .slice a1 x.net.ls.length c1, .slice a2 x.net.ts.length c2, .slice a3 x.heard.length c3, .slice a4 ps.length c4] 31)).alloc (.cells #[.int .i64 0, .int .i64 0, .int .i64 0, .slice none 0 0, .slice none 0 0, .slice none 0 0, .slice none 0 0] 31)) := ((Below.refl w.heap.size w).alloc (Nat.le_refl _) _).alloc (by simp) _
  have q0 : ((w.alloc (.cells #[.int .i64 x.id, .int .i64 x.boot, .int .i64 x.net.n, .slice a1 x.net.ls.length c1, .slice a2 x.net.ts.length c2, .slice a3 x.heard.length c3, .slice a4 ps.length c4] 31)).alloc (.cells #[.int .i64 0, .int .i64 0, .int .i64 0, .slice none 0 0, .slice none 0 0, .slice none 0 0, .slice none 0 0] 31)).heap[w.heap.size]? = some (.cells #[.int .i64 x.id, .int .i64 x.boot, .int .i64 x.net.n, .slice a1 x.net.ls.length c1, .slice a2 x.net.ts.length c2, .slice a3 x.heard.length c3, .slice a4 ps.length c4] 31) := by rw [Below.heap_alloc _ _ _ (by simp), heap_alloc_new]
  have q1 : ((w.alloc (.cells #[.int .i64 x.id, .int .i64 x.boot, .int .i64 x.net.n, .slice a1 x.net.ls.length c1, .slice a2 x.net.ts.length c2, .slice a3 x.heard.length c3, .slice a4 ps.length c4] 31)).alloc (.cells #[.int .i64 0, .int .i64 0, .int .i64 0, .slice none 0 0, .slice none 0 0, .slice none 0 0, .slice none 0 0] 31)).heap[w.heap.size + 1]? = some (.cells #[.int .i64 0, .int .i64 0, .int .i64 0, .slice none 0 0, .slice none 0 0, .slice none 0 0, .slice none 0 0] 31) := by
    have h := heap_alloc_new (w.alloc (.cells #[.int .i64 x.id, .int .i64 x.boot, .int .i64 x.net.n, .slice a1 x.net.ls.length c1, .slice a2 x.net.ts.length c2, .slice a3 x.heard.length c3, .slice a4 ps.length c4] 31)) (.cells #[.int .i64 0, .int .i64 0, .int .i64 0, .slice none 0 0, .slice none 0 0, .slice none 0 0, .slice none 0 0] 31)
    simpa using h
  have z0 : ((w.alloc (.cells #[.int .i64 x.id, .int .i64 x.boot, .int .i64 x.net.n, .slice a1 x.net.ls.length c1, .slice a2 x.net.ts.length c2, .slice a3 x.heard.length c3, .slice a4 ps.length c4] 31)).alloc (.cells #[.int .i64 0, .int .i64 0, .int .i64 0, .slice none 0 0, .slice none 0 0, .slice none 0 0, .slice none 0 0] 31)).heap.size = w.heap.size + 2 := by simp
  have Q0 := hide q0
  have Q1 := hide q1
  have Z0 := hide z0
  clear q0 q1 z0
  go_enter Tryz.func68, Tryz.ntmps68
  go_wp2_with fail
  obtain ⟨w1, hw1⟩ : ∃ W, W = ((w.alloc (.cells #[.int .i64 x.id, .int .i64 x.boot, .int .i64 x.net.n, .slice a1 x.net.ls.length c1, .slice a2 x.net.ts.length c2, .slice a3 x.heard.length c3, .slice a4 ps.length c4] 31)).alloc (.cells #[.int .i64 0, .int .i64 0, .int .i64 0, .slice none 0 0, .slice none 0 0, .slice none 0 0, .slice none 0 0] 31)) := ⟨_, rfl⟩
  rw [← hw1] at B0 Q0 Q1 Z0 ⊢
  clear hw1
  have k2 := cells_at Q0.out 2
  simp at k2
  have kk : w1.drew.cell? ⟨w.heap.size, 2, none⟩ = some (.int .i64 x.net.n) := k2
  refine wp_region_noPanic ?_
  refine wp_region_start (S := (fun W => W.cell? ⟨w.heap.size, 2, none⟩ = some (.int .i64 x.net.n))) (by kernel_rfl) 16 rfl kk (fun ops hops hHeld => ?_)
  refine take_do 0 (oi := ?_) (v := ?_) ?_ (by rw [hops.out]; kernel_rfl) ?_ ?_ ?_ (by assumption) ?_
  rotate_left 2
  · rw [hops.out]; simp only [List.getElem?_toArray, List.getElem?_cons_succ, List.getElem?_cons_zero]; rfl
  · rw [hops.out]; kernel_rfl
  · intro W hW; (try dsimp only at hW); go_simp <;> with_reducible rfl
  · exact fun _ _ _ h => h
  try simp only [Act.put, List.setIfInBounds_toArray, List.set_cons_zero, List.set_cons_succ]
  refine take_do 1 (oi := ?_) (v := ?_) ?_ (by rw [hops.out]; kernel_rfl) ?_ ?_ ?_ (by assumption) ?_
  rotate_left 2
  · rw [hops.out]; simp only [List.getElem?_toArray, List.getElem?_cons_succ, List.getElem?_cons_zero]; rfl
  · rw [hops.out]; kernel_rfl
  · intro W hW; (try dsimp only at hW); go_simp <;> with_reducible rfl
  · exact fun _ _ _ h => h
  try simp only [Act.put, List.setIfInBounds_toArray, List.set_cons_zero, List.set_cons_succ]
  refine take_do 2 (oi := ?_) (v := ?_) ?_ (by rw [hops.out]; kernel_rfl) ?_ ?_ ?_ (by assumption) ?_
  rotate_left 2
  · rw [hops.out]; simp only [List.getElem?_toArray, List.getElem?_cons_succ, List.getElem?_cons_zero]; rfl
  · rw [hops.out]; kernel_rfl
  · intro W hW; (try dsimp only at hW); go_simp <;> with_reducible rfl
  · exact fun _ _ _ h => h
  try simp only [Act.put, List.setIfInBounds_toArray, List.set_cons_zero, List.set_cons_succ]
  refine take_do 4 (oi := ?_) (v := ?_) ?_ (by rw [hops.out]; kernel_rfl) ?_ ?_ ?_ (by assumption) ?_
  rotate_left 2
  · rw [hops.out]; simp only [List.getElem?_toArray, List.getElem?_cons_succ, List.getElem?_cons_zero]; rfl
  · rw [hops.out]; kernel_rfl
  · intro W hW; (try dsimp only at hW); go_simp <;> with_reducible rfl
  · exact fun _ _ _ h => h
  try simp only [Act.put, List.setIfInBounds_toArray, List.set_cons_zero, List.set_cons_succ]
  refine take_do 5 (oi := ?_) (v := ?_) ?_ (by rw [hops.out]; kernel_rfl) ?_ ?_ ?_ (by assumption) ?_
  rotate_left 2
  · rw [hops.out]; simp only [List.getElem?_toArray, List.getElem?_cons_succ, List.getElem?_cons_zero]; rfl
  · rw [hops.out]; kernel_rfl
  · intro W hW; (try dsimp only at hW); go_simp <;> with_reducible rfl
  · exact fun _ _ _ h => h
  try simp only [Act.put, List.setIfInBounds_toArray, List.set_cons_zero, List.set_cons_succ]
  refine take_do 9 (oi := ?_) (v := ?_) ?_ (by rw [hops.out]; kernel_rfl) ?_ ?_ ?_ (by assumption) ?_
  rotate_left 2
  · rw [hops.out]; simp only [List.getElem?_toArray, List.getElem?_cons_succ, List.getElem?_cons_zero]; rfl
  · rw [hops.out]; kernel_rfl
  · intro W hW; (try dsimp only at hW); go_simp <;> with_reducible rfl
  · exact fun _ _ _ h => h
  try simp only [Act.put, List.setIfInBounds_toArray, List.set_cons_zero, List.set_cons_succ]
  refine take_do 10 (oi := ?_) (v := ?_) ?_ (by rw [hops.out]; kernel_rfl) ?_ ?_ ?_ (by assumption) ?_
  rotate_left 2
  · rw [hops.out]; simp only [List.getElem?_toArray, List.getElem?_cons_succ, List.getElem?_cons_zero]; rfl
  · rw [hops.out]; kernel_rfl
  · intro W hW; (try dsimp only at hW); go_simp <;> with_reducible rfl
  · exact fun _ _ _ h => h
  try simp only [Act.put, List.setIfInBounds_toArray, List.set_cons_zero, List.set_cons_succ]
  have BD : Below w.heap.size w w1.drew := B0.drew
  have hw1s := lt_of_heap Q1.out
  have hdr : w1.drew.heap.size = w1.heap.size := rfl
  refine lc_dag x.net.n x.net.ls x.net.ts a1 a2 c1 c2 w.heap.size w1.heap.size w1.drew _ _ ops hops (Nat.le_refl _) hlL hlT ?_ ?_ (.int .i64 x.id) (.int .i64 x.boot) (.slice a3 x.heard.length c3) (.slice a4 ps.length c4) ?_ ?_ ?_ ?_
  · intro W hb
    exact (hb.cell (by show w.heap.size < w1.heap.size; omega)).trans kk
  · intro W hb u1 u2
    have h0 := (hb.block w.heap.size (by omega)).trans Q0.out
    have h1 := heap_setCell_same _ _ 2 _ _ (.int .i64 x.net.n) h0
    have h2 := heap_setCell_same _ _ 3 _ _ u1 h1
    have h3 := heap_setCell_same _ _ 4 _ _ u2 h2
    have h4 := cells_at h3 2
    simpa using h4
  · intro W hb
    exact (hb.block w.heap.size (by omega)).trans Q0.out
  · intro W hb
    exact (HX.out.below (BD.trans (hb.mono (by omega))) hhi).links
  · intro W hb
    exact (HX.out.below (BD.trans (hb.mono (by omega))) hhi).things
  intro W G1 G2 p1a p2a p1c p2c hb hbs r1 r2
  clear hops ops hHeld kk
  have BW : Below w.heap.size w W := BD.trans (hb.mono (by omega))
  have x0 := (hb.block w.heap.size (by omega)).trans Q0.out
  have x1 := (hb.block (w.heap.size + 1) (by omega)).trans Q1.out
  have B3 : Below w.heap.size w (((W.setCell ⟨w.heap.size, 2, none⟩ (.int .i64 x.net.n)).setCell ⟨w.heap.size, 3, none⟩ (.slice p1a x.net.ls.length p1c)).setCell ⟨w.heap.size, 4, none⟩ (.slice p2a x.net.ts.length p2c)) := ((BW.setCell (Nat.le_refl _) _).setCell (Nat.le_refl _) _).setCell (Nat.le_refl _) _
  have y0 : (((W.setCell ⟨w.heap.size, 2, none⟩ (.int .i64 x.net.n)).setCell ⟨w.heap.size, 3, none⟩ (.slice p1a x.net.ls.length p1c)).setCell ⟨w.heap.size, 4, none⟩ (.slice p2a x.net.ts.length p2c)).heap[w.heap.size]? = some (.cells #[.int .i64 x.id, .int .i64 x.boot, .int .i64 x.net.n, .slice p1a x.net.ls.length p1c, .slice p2a x.net.ts.length p2c, .slice a3 x.heard.length c3, .slice a4 ps.length c4] 31) := by
    have h1 := heap_setCell_same _ _ 2 _ _ (.int .i64 x.net.n) x0
    have h2 := heap_setCell_same _ _ 3 _ _ (.slice p1a x.net.ls.length p1c) h1
    exact heap_setCell_same _ _ 4 _ _ (.slice p2a x.net.ts.length p2c) h2
  have y1 : (((W.setCell ⟨w.heap.size, 2, none⟩ (.int .i64 x.net.n)).setCell ⟨w.heap.size, 3, none⟩ (.slice p1a x.net.ls.length p1c)).setCell ⟨w.heap.size, 4, none⟩ (.slice p2a x.net.ts.length p2c)).heap[w.heap.size + 1]? = some (.cells #[.int .i64 0, .int .i64 0, .int .i64 0, .slice none 0 0, .slice none 0 0, .slice none 0 0, .slice none 0 0] 31) := by
    rw [heap_setCell_other _ ⟨w.heap.size, 4, none⟩ _ _ (by show w.heap.size + 1 ≠ w.heap.size; omega), heap_setCell_other _ ⟨w.heap.size, 3, none⟩ _ _ (by show w.heap.size + 1 ≠ w.heap.size; omega), heap_setCell_other _ ⟨w.heap.size, 2, none⟩ _ _ (by show w.heap.size + 1 ≠ w.heap.size; omega)]
    exact x1
  have s1 := owns_set (p := w.heap.size) (j := 4) (u := .slice p2a x.net.ts.length p2c) (owns_set (p := w.heap.size) (j := 3) (u := .slice p1a x.net.ls.length p1c) (owns_set (p := w.heap.size) (j := 2) (u := .int .i64 x.net.n) r1 (by omega)) (by omega)) (by omega)
  have s2 := owns_set (p := w.heap.size) (j := 4) (u := .slice p2a x.net.ts.length p2c) (owns_set (p := w.heap.size) (j := 3) (u := .slice p1a x.net.ls.length p1c) (owns_set (p := w.heap.size) (j := 2) (u := .int .i64 x.net.n) r2 (by omega)) (by omega)) (by omega)
  have hsz3 : w1.heap.size ≤ (((W.setCell ⟨w.heap.size, 2, none⟩ (.int .i64 x.net.n)).setCell ⟨w.heap.size, 3, none⟩ (.slice p1a x.net.ls.length p1c)).setCell ⟨w.heap.size, 4, none⟩ (.slice p2a x.net.ts.length p2c)).heap.size := by simp; exact hbs
  generalize (((W.setCell ⟨w.heap.size, 2, none⟩ (.int .i64 x.net.n)).setCell ⟨w.heap.size, 3, none⟩ (.slice p1a x.net.ls.length p1c)).setCell ⟨w.heap.size, 4, none⟩ (.slice p2a x.net.ts.length p2c)) = w3 at *
  have hw3s := lt_of_heap y1
  have hw3t : w.heap.size < w3.heap.size := by omega
  have hw3n : ¬ w.heap.size = w3.heap.size := by omega
  have t5 := cells_at y0 5
  simp at t5
  have BL : Below w3.heap.size w3 (w3.alloc (.cells #[] 3)) := (Below.refl _ _).alloc (Nat.le_refl _) _
  have B4 : Below w.heap.size w (w3.alloc (.cells #[] 3)) := B3.trans (BL.mono (by omega))
  have R1 := hide s1
  have R2 := hide s2
  have Y0 := hide y0
  have Y1 := hide y1
  clear r1 r2 s1 s2 x0 x1 y0 y1 k2 hb hbs BW
  go_wp2_with (first | (at_builtin; refine append_row5 int_flat1 (by omega) intE_one (by omega) _ rfl _ _ 28 rfl w3.heap.size 3 Tryz.underlying28 (.int .i64 0) rfl Tryz.info3 _ [] rfl ?own0 0 _ x.heard rfl (HX.out.below B4 hhi).heard (by simp; omega) (by simp) ?_))
  case own0 => exact World.ownsRow_lit w3 #[] 0 (Nat.le_refl _) (by unfold maxLen; omega) (by simp)
  intro v3' wA ho3 gr3
  obtain ⟨p3a, p3c, rfl⟩ := owns_lenS ho3
  simp only [Value.ownBlock, List.nil_append] at gr3 ho3
  try simp only [List.nil_append]
  have hgs := gr3.size
  simp at hgs
  have bA : Below w.heap.size w wA := B4.grown gr3 (by simp; omega) (fun k hk => by simp at hk; omega)
  have x0 := (gr3.block w.heap.size (by simp; omega) (by simp; omega)).trans ((BL.block _ (lt_of_heap Y0.out)).trans Y0.out)
  have x1 := (gr3.block (w.heap.size + 1) (by simp; omega) (by simp; omega)).trans ((BL.block _ (lt_of_heap Y1.out)).trans Y1.out)
  have r1 := owns_keepB (W' := wA) R1.out (fun k hk => (gr3.block k (by have := (R1.out.lt k hk).2; simp; omega) (by have := (R1.out.lt k hk).2; simp; omega)).trans (BL.block k (R1.out.lt k hk).2))
  have r2 := owns_keepB (W' := wA) R2.out (fun k hk => (gr3.block k (by have := (R2.out.lt k hk).2; simp; omega) (by have := (R2.out.lt k hk).2; simp; omega)).trans (BL.block k (R2.out.lt k hk).2))
  have fz := frozen_at x0 5
  clear t5
  have t5 := cells_at x0 5
  have t6 := cells_at x0 6
  simp at t5 t6
  have B5 : Below w.heap.size w (wA.setCell ⟨w.heap.size, 5, none⟩ (.slice p3a x.heard.length p3c)) := bA.setCell (Nat.le_refl _) _
  have y0 : (wA.setCell ⟨w.heap.size, 5, none⟩ (.slice p3a x.heard.length p3c)).heap[w.heap.size]? = some (.cells #[.int .i64 x.id, .int .i64 x.boot, .int .i64 x.net.n, .slice p1a x.net.ls.length p1c, .slice p2a x.net.ts.length p2c, .slice p3a x.heard.length p3c, .slice a4 ps.length c4] 31) := heap_setCell_same _ _ 5 _ _ (.slice p3a x.heard.length p3c) x0
  have y1 : (wA.setCell ⟨w.heap.size, 5, none⟩ (.slice p3a x.heard.length p3c)).heap[w.heap.size + 1]? = some (.cells #[.int .i64 0, .int .i64 0, .int .i64 0, .slice none 0 0, .slice none 0 0, .slice none 0 0, .slice none 0 0] 31) := by rw [heap_setCell_other _ ⟨w.heap.size, 5, none⟩ _ _ (by show w.heap.size + 1 ≠ w.heap.size; omega)]; exact x1
  have L1 := hide (show ∀ k, (Value.slice p1a x.net.ls.length p1c).ownBlock = some k → k < w3.heap.size from fun k hk => (R1.out.lt k hk).2)
  have L2 := hide (show ∀ k, (Value.slice p2a x.net.ts.length p2c).ownBlock = some k → k < w3.heap.size from fun k hk => (R2.out.lt k hk).2)
  have S1 := hide (owns_set (p := w.heap.size) (j := 5) (u := .slice p3a x.heard.length p3c) r1 (by omega))
  have S2 := hide (owns_set (p := w.heap.size) (j := 5) (u := .slice p3a x.heard.length p3c) r2 (by omega))
  have S3 := hide (owns_set (p := w.heap.size) (j := 5) (u := .slice p3a x.heard.length p3c) ho3 (by omega))
  have zz : (wA.setCell ⟨w.heap.size, 5, none⟩ (.slice p3a x.heard.length p3c)).heap.size = wA.heap.size := by simp
  have HCL := hide (copyList_any (.slice a4 ps.length c4) ps hi (wA.setCell ⟨w.heap.size, 5, none⟩ (.slice p3a x.heard.length p3c)) (HX.out.store.below B5 hhi) (by have := B5.size; omega) hlR)
  have Q03 := hide y0
  have Q13 := hide y1
  clear x0 x1 r1 r2 ho3 gr3 y0 y1 R1 R2 Y0 Y1
  go_wp2_with fail
  obtain ⟨wS, hwS⟩ : ∃ W, W = (wA.setCell ⟨w.heap.size, 5, none⟩ (.slice p3a x.heard.length p3c)) := ⟨_, rfl⟩
  rw [← hwS] at B5 zz Q03 Q13 HCL S1 S2 S3 ⊢
  clear hwS
  refine HCL.out.mono ?_
  rintro e w6 ⟨p4, qs, rfl, fq, ho4, b6⟩
  obtain ⟨p4a, p4c, rfl⟩ := owns_lenS ho4.row
  have hz6 := b6.size
  have bs3 := B5.size
  have bw6 : Below w.heap.size w w6 := B5.trans (b6.mono B5.size)
  have q2 := (b6.block _ (lt_of_heap Q03.out)).trans Q03.out
  have q1 := (b6.block _ (lt_of_heap Q13.out)).trans Q13.out
  have hl6 := lt_of_heap q1
  have OW := hide (show SelfOwn w6 w1.heap.size w6.heap.size (.slice p1a x.net.ls.length p1c) (.slice p2a x.net.ts.length p2c) (.slice p3a x.heard.length p3c) (.slice p4a qs.length p4c) x qs w3.heap.size wS.heap.size from
    { o1 := hsz3
      o2 := by omega
      o3 := hz6
      links := owns_below S1.out b6 (Nat.le_refl _)
      ltop := L1.out
      things := owns_below S2.out b6 (Nat.le_refl _)
      ttop := L2.out
      heard := ⟨owns_below S3.out b6 (Nat.le_refl _), fun k e => (S3.out.lt k e).2⟩
      store := ho4 })
  have FQ := hide fq
  clear t5 t6
  have r0 := cells_at q1 0
  have r1 := cells_at q1 1
  have r2 := cells_at q1 2
  have r3 := cells_at q1 3
  have r4 := cells_at q1 4
  have r5 := cells_at q1 5
  have r6 := cells_at q1 6
  simp at r0 r1 r2 r3 r4 r5 r6
  have t0 := cells_at q2 0
  have t1 := cells_at q2 1
  have t2 := cells_at q2 2
  have t3 := cells_at q2 3
  have t4 := cells_at q2 4
  have t5 := cells_at q2 5
  have t6 := cells_at q2 6
  simp at t0 t1 t2 t3 t4 t5 t6
  have fz0x := frozen_at q1 0
  have fz1x := frozen_at q1 1
  have fz2x := frozen_at q1 2
  have fz3x := frozen_at q1 3
  have fz4x := frozen_at q1 4
  have fz5x := frozen_at q1 5
  have fz6x := frozen_at q1 6
  have e6 := frozen_at q2 6
  have QQ1 := hide q1
  clear ho4 q1 q2 fq
  go_wp2
  have hfin : ((((((((w6.setCell ⟨w.heap.size, 6, none⟩ (.slice p4a qs.length p4c)).setCell ⟨w.heap.size + 1, 0, none⟩ (.int .i64 x.id)).setCell ⟨w.heap.size + 1, 1, none⟩ (.int .i64 x.boot)).setCell ⟨w.heap.size + 1, 2, none⟩ (.int .i64 x.net.n)).setCell ⟨w.heap.size + 1, 3, none⟩ (.slice p1a x.net.ls.length p1c)).setCell ⟨w.heap.size + 1, 4, none⟩ (.slice p2a x.net.ts.length p2c)).setCell ⟨w.heap.size + 1, 5, none⟩ (.slice p3a x.heard.length p3c)).setCell ⟨w.heap.size + 1, 6, none⟩ (.slice p4a qs.length p4c)).heap[w.heap.size + 1]? = some (.cells #[.int .i64 x.id, .int .i64 x.boot, .int .i64 x.net.n, .slice p1a x.net.ls.length p1c, .slice p2a x.net.ts.length p2c, .slice p3a x.heard.length p3c, .slice p4a qs.length p4c] 31) := by
    have k0 : (w6.setCell ⟨w.heap.size, 6, none⟩ (.slice p4a qs.length p4c)).heap[w.heap.size + 1]? = some (.cells #[.int .i64 0, .int .i64 0, .int .i64 0, .slice none 0 0, .slice none 0 0, .slice none 0 0, .slice none 0 0] 31) := by
      rw [heap_setCell_other _ ⟨w.heap.size, 6, none⟩ _ _ (by show w.heap.size + 1 ≠ w.heap.size; omega)]
      exact QQ1.out
    have k1 := heap_setCell_same _ _ 0 _ _ (.int .i64 x.id) k0
    have k2 := heap_setCell_same _ _ 1 _ _ (.int .i64 x.boot) k1
    have k3 := heap_setCell_same _ _ 2 _ _ (.int .i64 x.net.n) k2
    have k4 := heap_setCell_same _ _ 3 _ _ (.slice p1a x.net.ls.length p1c) k3
    have k5 := heap_setCell_same _ _ 4 _ _ (.slice p2a x.net.ts.length p2c) k4
    have k6 := heap_setCell_same _ _ 5 _ _ (.slice p3a x.heard.length p3c) k5
    have k7 := heap_setCell_same _ _ 6 _ _ (.slice p4a qs.length p4c) k6
    exact k7
  have hkeep : ∀ k, w.heap.size + 2 ≤ k → ((((((((w6.setCell ⟨w.heap.size, 6, none⟩ (.slice p4a qs.length p4c)).setCell ⟨w.heap.size + 1, 0, none⟩ (.int .i64 x.id)).setCell ⟨w.heap.size + 1, 1, none⟩ (.int .i64 x.boot)).setCell ⟨w.heap.size + 1, 2, none⟩ (.int .i64 x.net.n)).setCell ⟨w.heap.size + 1, 3, none⟩ (.slice p1a x.net.ls.length p1c)).setCell ⟨w.heap.size + 1, 4, none⟩ (.slice p2a x.net.ts.length p2c)).setCell ⟨w.heap.size + 1, 5, none⟩ (.slice p3a x.heard.length p3c)).setCell ⟨w.heap.size + 1, 6, none⟩ (.slice p4a qs.length p4c)).heap[k]? = w6.heap[k]? := fun k hk => by
    rw [heap_setCell_other _ ⟨w.heap.size + 1, 6, none⟩ _ _ (by show k ≠ w.heap.size + 1; omega), heap_setCell_other _ ⟨w.heap.size + 1, 5, none⟩ _ _ (by show k ≠ w.heap.size + 1; omega), heap_setCell_other _ ⟨w.heap.size + 1, 4, none⟩ _ _ (by show k ≠ w.heap.size + 1; omega), heap_setCell_other _ ⟨w.heap.size + 1, 3, none⟩ _ _ (by show k ≠ w.heap.size + 1; omega), heap_setCell_other _ ⟨w.heap.size + 1, 2, none⟩ _ _ (by show k ≠ w.heap.size + 1; omega), heap_setCell_other _ ⟨w.heap.size + 1, 1, none⟩ _ _ (by show k ≠ w.heap.size + 1; omega), heap_setCell_other _ ⟨w.heap.size + 1, 0, none⟩ _ _ (by show k ≠ w.heap.size + 1; omega), heap_setCell_other _ ⟨w.heap.size, 6, none⟩ _ _ (by show k ≠ w.heap.size; omega)]
  have hsize : ((((((((w6.setCell ⟨w.heap.size, 6, none⟩ (.slice p4a qs.length p4c)).setCell ⟨w.heap.size + 1, 0, none⟩ (.int .i64 x.id)).setCell ⟨w.heap.size + 1, 1, none⟩ (.int .i64 x.boot)).setCell ⟨w.heap.size + 1, 2, none⟩ (.int .i64 x.net.n)).setCell ⟨w.heap.size + 1, 3, none⟩ (.slice p1a x.net.ls.length p1c)).setCell ⟨w.heap.size + 1, 4, none⟩ (.slice p2a x.net.ts.length p2c)).setCell ⟨w.heap.size + 1, 5, none⟩ (.slice p3a x.heard.length p3c)).setCell ⟨w.heap.size + 1, 6, none⟩ (.slice p4a qs.length p4c)).heap.size = w6.heap.size := by simp
  have hbel : Below w.heap.size w ((((((((w6.setCell ⟨w.heap.size, 6, none⟩ (.slice p4a qs.length p4c)).setCell ⟨w.heap.size + 1, 0, none⟩ (.int .i64 x.id)).setCell ⟨w.heap.size + 1, 1, none⟩ (.int .i64 x.boot)).setCell ⟨w.heap.size + 1, 2, none⟩ (.int .i64 x.net.n)).setCell ⟨w.heap.size + 1, 3, none⟩ (.slice p1a x.net.ls.length p1c)).setCell ⟨w.heap.size + 1, 4, none⟩ (.slice p2a x.net.ts.length p2c)).setCell ⟨w.heap.size + 1, 5, none⟩ (.slice p3a x.heard.length p3c)).setCell ⟨w.heap.size + 1, 6, none⟩ (.slice p4a qs.length p4c)) := ((((((((bw6.setCell (by show w.heap.size ≤ w.heap.size; omega) _).setCell (by show w.heap.size ≤ w.heap.size + 1; omega) _).setCell (by show w.heap.size ≤ w.heap.size + 1; omega) _).setCell (by show w.heap.size ≤ w.heap.size + 1; omega) _).setCell (by show w.heap.size ≤ w.heap.size + 1; omega) _).setCell (by show w.heap.size ≤ w.heap.size + 1; omega) _).setCell (by show w.heap.size ≤ w.heap.size + 1; omega) _).setCell (by show w.heap.size ≤ w.heap.size + 1; omega) _)
  try simp only [Exit.inBlock, Exit.then]
  refine bodyPost_ret (results_cell_row rfl _ _ (w.heap.size + 1) 31 #[.int .i64 x.id, .int .i64 x.boot, .int .i64 x.net.n, .slice p1a x.net.ls.length p1c, .slice p2a x.net.ts.length p2c, .slice p3a x.heard.length p3c, .slice p4a qs.length p4c] (0, 0) _ rfl hfin Tryz.underlying31 rfl (by kernel_rfl)) rfl ?_
  exact ⟨_, _, _, _, qs, _, _, rfl, FQ.out, ((OW.out.keep (fun k h1 _ _ => hkeep k (by omega))).low (by omega)).high (by rw [hsize]; omega), hbel⟩
end Go.Proofs.YtdaigojpeofmpaaGreat
namespace Go.Proofs.YtdaigojpeofmpaaGreat
open Go.RowKit

theorem run_copy_rowS {P : Program} (w : World) (dT sT ty elem : TypeId) (g o dLen dCap : Nat) (a : Addr) (sLen sCap sz : Nat) (cur : Array Value) (t : TypeId) (cs : List Value)
    (hu : P.underlying dT = some (.slice elem)) (hs : (P.info? elem).map (·.size) = some sz)
    (hg : w.heap[g]? = some (.cells cur t (0, 0))) (hn : cs.length = Nat.min sLen dLen * sz)
    (hsrc : ∀ j v, cs[j]? = some v → w.cell? (a.add j) = some v) (hfit : o + cs.length ≤ cur.size) (h1 : ∀ v ∈ cs, v.oneCell' = true) :
    (Builtin.copy_ #[dT, sT] ty #[.slice (some ⟨g, o, none⟩) dLen dCap, .slice (some a) sLen sCap]).run P w =
      .ok (goInt (Nat.min sLen dLen)) (w.setRow g (cur.toList.take o ++ cs ++ cur.toList.drop (o + cs.length)).toArray) := by
  have hl := run_loadCells_list (P := P) w a cs hsrc
  have hst := run_storeCells_at P g o t cs 0 cur w hg (by simpa using hfit) h1
  cases hq : P.info? elem with
  | none => simp [hq] at hs
  | some i =>
    have hi : i.size = sz := by simpa [hq] using hs
    simp [Builtin.copy_, run_underlying hu, Builtin.lenOf, Builtin.firstCells, sizeOf, typeInfo, hq, hi, ← hn, hl, hst]

theorem append_types {P : Program} (w : World) (t t2 ty e : TypeId) (i : TypeInfo) (ht : P.underlying t = some (.slice e)) (ht2 : P.underlying t2 = some (.slice e)) (hi : P.info? e = some i) (b : Option Addr) (n c : Nat) (x : Value) :
    (Builtin.append_ #[t, t2] ty #[.slice b n c, x]).run P w = (Builtin.append_ #[t, t] ty #[.slice b n c, x]).run P w := by
  simp [Builtin.append_, run_underlying ht, run_underlying ht2, sizeOf, typeInfo, hi]

/-- what two copies leave -/
theorem seg_len (cur D R : List Value) (a d : Nat) (hD : D.length = d) (hR : R.length = 8) (hc : a + 8 + d ≤ cur.length) :
    ((cur.take (a + 8) ++ D ++ cur.drop (a + 8 + D.length)).take a ++ R ++ (cur.take (a + 8) ++ D ++ cur.drop (a + 8 + D.length)).drop (a + R.length)) = cur.take a ++ R ++ D ++ cur.drop (a + 8 + d) := by
  have e1 : (cur.take (a + 8) ++ D ++ cur.drop (a + 8 + D.length)).take a = cur.take a := by
    rw [List.append_assoc, List.take_append_of_le_length (by simp; omega), List.take_take, Nat.min_eq_left (by omega)]
  have e2 : (cur.take (a + 8) ++ D ++ cur.drop (a + 8 + D.length)).drop (a + R.length) = D ++ cur.drop (a + 8 + d) := by
    rw [hR, List.append_assoc, List.drop_append_of_le_length (by simp; omega), List.drop_of_length_le (by simp; omega), List.nil_append, hD]
  rw [e1, e2, List.append_assoc, List.append_assoc, List.append_assoc]

theorem take_of_parts {A B C D : List Value} {n : Nat} (h : A.length + B.length + C.length = n) : (A ++ B ++ C ++ D).take n = A ++ B ++ C := by
  rw [List.take_append_of_le_length (by simp; omega), List.take_of_length_le (by simp; omega)]

theorem flat_take (ps : List RP) (i : Nat) (h : i ≤ ps.length) : (flat encP ps).take (i * 8) = flat encP (ps.take i) := by
  conv => lhs; rw [← List.take_append_drop i ps, flat_append]
  have e : (flat encP (ps.take i)).length = i * 8 := by rw [flat_len encP_len, List.length_take, Nat.min_eq_left h]
  rw [← e, List.take_left]

theorem flat_drop (ps : List RP) (i : Nat) (h : i ≤ ps.length) : (flat encP ps).drop (i * 8) = flat encP (ps.drop i) := by
  conv => lhs; rw [← List.take_append_drop i ps, flat_append]
  have e : (flat encP (ps.take i)).length = i * 8 := by rw [flat_len encP_len, List.length_take, Nat.min_eq_left h]
  rw [← e, List.drop_left]

theorem flat_one (r : RP) : flat encP [r] = encP r := by simp [flat]

theorem flat_ins (ps : List RP) (r : RP) (i : Nat) : flat encP (ps.take i ++ [r] ++ ps.drop i) = flat encP (ps.take i) ++ encP r ++ flat encP (ps.drop i) := by
  rw [flat_append, flat_append, flat_one]

theorem ins_len (ps : List RP) (r : RP) (i : Nat) (h : i ≤ ps.length) : (ps.take i ++ [r] ++ ps.drop i).length = ps.length + 1 := by
  simp
  omega

theorem flat_oneCell (ps : List RP) (h : ∀ p ∈ ps, ∃ a n c, p.2 = .slice a n c) : ∀ u ∈ flat encP ps, u.oneCell' = true := by
  intro u hu
  simp only [flat, List.mem_flatMap] at hu
  obtain ⟨p, hp, hu⟩ := hu
  obtain ⟨a, n, c, e⟩ := h p hp
  obtain ⟨x, v⟩ := p
  simp only at e
  subst e
  exact encP_one x a n c u hu
end Go.Proofs.YtdaigojpeofmpaaGreat
namespace Go.Proofs.YtdaigojpeofmpaaGreat
open Go.RowKit

set_option linter.unusedSimpArgs false
set_option linter.unusedVariables false

theorem add8 (g o j : Nat) : (⟨g, o, none⟩ : Addr).add j = ⟨g, o + j, none⟩ := by
  simp only [Addr.add]
  split <;> simp_all

/-- only the row's own block turns; the new row lies there, or in a new block -/
def GrownV (w w' : World) (row : Option Nat) (v : Value) : Prop := w.grownBy w' row ∧ ∀ k, v.ownBlock = some k → row = some k ∨ w.heap.size ≤ k

theorem append_blk {P : Program} (w : World) (base : Nat) (t ty e : TypeId) (i : TypeInfo) (z : Value) (ht : P.underlying t = some (.slice e)) (hi : P.info? e = some i) (hz : i.zero = some z)
    (v : Value) (n : Nat) (xs : List Value) (hown : w.ownsRow base e i.size v n xs) (a : Addr) (m c : Nat) (news : List Value) (hl : news.length = m * i.size) (hnews : ∀ j u, news[j]? = some u → w.cell? (a.add j) = some u) (h1 : ∀ u ∈ news, u.oneCell' = true)
    (hm : 0 < m) (h63 : n + m ≤ maxLen) (hbytes : (n + m) * i.bytes ≤ 140737488355328) {v' : Value} {w' : World} (hr : (Builtin.append_ #[t, t] ty #[v, .slice (some a) m c]).run P w = .ok v' w') : ∀ k, v'.ownBlock = some k → v.ownBlock = some k ∨ w.heap.size ≤ k := by
  have hsmall : n + m ≤ 9223372036854775807 := by simp only [maxLen] at h63; omega
  intro k hk
  rcases hown.2 with ⟨rfl, rfl⟩ | ⟨g, cap, cur, rfl, hbg, hg, hnc, hcm, hcs, htake⟩
  · have h2 := run_append_nil (P := P) w t ty e i z ht hi hz a m c news hl hnews (by omega) (by omega) (by have hb := hbytes; simp only [Nat.zero_add] at hb; omega)
    rw [h2] at hr
    cases hr
    simp [Value.ownBlock] at hk
    exact .inr (by omega)
  · by_cases hroom : n + m ≤ cap
    · have hfit : n * i.size + news.length ≤ cur.size := by rw [hl, hcs, ← Nat.add_mul]; exact Nat.mul_le_mul_right _ hroom
      have h2 := run_append_room (P := P) w t ty e i ht hi g n cap cur hg a m c news hl hnews h1 hroom hfit
      rw [h2] at hr
      cases hr
      exact .inl hk
    · have h2 := run_append_grow (P := P) w t ty e i z ht hi hz ⟨g, 0, none⟩ n cap xs hown.1 (hown.cells (g := g) rfl) a m c news hl hnews (by omega) (by omega) (growslice_fits (by omega) hbytes)
      rw [h2] at hr
      cases hr
      simp [Value.ownBlock] at hk
      exact .inr (by omega)

set_option maxRecDepth 100000 in
set_option maxHeartbeats 4000000 in
theorem ins_shift (base g cap n m i vb : Nat) (ps : List RP) (r : RP) (w : World) (hnp : n = ps.length) (hm : m = 1) (hrow : w.ownsRow base 39 8 (.slice (some ⟨g, 0, none⟩) n cap) n (flat encP ps)) (hi : i < n) (hroom : n + m ≤ cap)
    (hvb : w.heap[vb]? = some (.cells (encP r).toArray 39 (0, 0))) (hne : vb ≠ g) (hone : ∀ p ∈ ps, ∃ a k c, p.2 = .slice a k c) (hr1 : ∀ u ∈ encP r, u.oneCell' = true) :
    Calls Tryz.prog 209 #[.slice (some ⟨g, 0, none⟩) n cap, .int .i64 (i : Int), .slice (some ⟨vb, 0, none⟩) m 1] w fun e w' => ∃ v, e = .returned v ∧ w'.ownsRow base 39 8 v (n + m) (flat encP (ps.take i ++ [r] ++ ps.drop i)) ∧ GrownV w w' (some g) v := by
  have hnl : (flat encP ps).length = n * 8 := hrow.1
  have hui := Tryz.underlying106
  have hus := Tryz.underlying29
  obtain ⟨i0, hi0, hz0, hzs, hzb⟩ := info_parts Tryz.infoRec
  have hsz : (Tryz.prog.info? 39).map (·.size) = some 8 := by rw [hi0]; simp [hzs]

  rcases hrow.2 with ⟨h0, _⟩ | ⟨g', cap', cur, hv, hbg, hg, hnc, hcm, hcs, htk⟩
  · simp at h0
  simp at hv
  obtain ⟨rfl, rfl⟩ := hv
  have hmx : maxLen = 9223372036854775807 ∨ maxLen ≤ 9223372036854775807 := by unfold maxLen; omega
  have hc63 : cap ≤ 9223372036854775807 := by omega
  have hD : (flat encP (ps.drop i)).length = (n - i) * 8 := by rw [flat_len encP_len, List.length_drop, ← hnp]
  have hclen : cur.toList.length = cap * 8 := by simpa using hcs
  have hRl : (encP r).length = 8 := encP_len r
  have hov : ∀ lb cb, (callFunc 245 #[.slice (some ⟨vb, 0, none⟩) m 1, .slice (some ⟨g, (i + m) * 8, none⟩) lb cb]).run Tryz.prog w = .ok (.value (.bool false)) w := fun lb cb => by
    rw [run_callFunc_extern Tryz.func245 (by kernel_rfl) (by kernel_rfl) (by kernel_rfl) (e := Extern.SlicesOverlaps.overlaps #[29, 29] #[4]) (by kernel_rfl),
      Lib.run_overlaps_apart w 29 4 39 hus 8 (by intro w; simp [Go.sizeOf, typeInfo, hi0, hzs]) ⟨vb, 0, none⟩ ⟨g, (i + m) * 8, none⟩ m 1 lb cb hne 39 39 8 cur.size (by simp [World.shape?, hvb, hRl]) (by simp [World.shape?, hg]) (by omega) (frozen_at hvb 0) (frozen_at hvb 8)]
    rfl
  have hcell : ∀ (W : World), W.heap = w.heap → ∀ j u, (flat encP (ps.drop i))[j]? = some u → W.cell? ((⟨g, i * 8, none⟩ : Addr).add j) = some u := fun W hW j u hj => by
    rw [add8]
    simp only [World.cell?, hW, hg]
    rw [← flat_drop ps i (by omega), ← htk, List.getElem?_drop] at hj
    have h2 : i * 8 + j < n * 8 := by
      have h3 := (List.getElem?_eq_some_iff.1 hj).1
      rw [List.length_take] at h3
      omega
    rw [List.getElem?_take_of_lt h2] at hj
    simpa using hj
  have hcp1 : ∀ (W : World), W.heap = w.heap → ∀ ty dc sc, (Builtin.copy_ #[106, 106] ty #[.slice (some ⟨g, (i + m) * 8, none⟩) (n + m - (i + m)) dc, .slice (some ⟨g, i * 8, none⟩) (n + m - i) sc]).run Tryz.prog W = .ok (goInt (Nat.min (n + m - i) (n + m - (i + m)))) (W.setRow g (cur.toList.take ((i + m) * 8) ++ flat encP (ps.drop i) ++ cur.toList.drop ((i + m) * 8 + (flat encP (ps.drop i)).length)).toArray) := fun W hW ty dc sc =>
    run_copy_rowS W 106 106 ty 39 g ((i + m) * 8) (n + m - (i + m)) dc ⟨g, i * 8, none⟩ (n + m - i) sc 8 cur 39 (flat encP (ps.drop i)) hui hsz (by rw [hW]; exact hg)
      (by rw [hD]; congr 1; have : Nat.min (n + m - i) (n + m - (i + m)) = n + m - (i + m) := Nat.min_eq_right (by omega); omega) (hcell W hW) (by rw [hD]; omega) (flat_oneCell _ (fun p hp => hone p (List.mem_of_mem_drop hp)))
  obtain ⟨c1, hc1⟩ : ∃ c1, c1 = cur.toList.take ((i + m) * 8) ++ flat encP (ps.drop i) ++ cur.toList.drop ((i + m) * 8 + (flat encP (ps.drop i)).length) := ⟨_, rfl⟩
  rw [← hc1] at hcp1
  have hc1l : c1.length = cap * 8 := by rw [hc1]; simp only [List.length_append, List.length_take, List.length_drop, hclen, hD]; omega
  have hcp2 : ∀ (W : World), W.heap = (w.setRow g c1.toArray).heap → ∀ ty dc, (Builtin.copy_ #[106, 29] ty #[.slice (some ⟨g, i * 8, none⟩) (n + m - i) dc, .slice (some ⟨vb, 0, none⟩) m 1]).run Tryz.prog W = .ok (goInt (Nat.min m (n + m - i))) (W.setRow g (c1.take (i * 8) ++ encP r ++ c1.drop (i * 8 + (encP r).length)).toArray) := fun W hW ty dc => by
    have h := run_copy_rowS (P := Tryz.prog) W 106 29 ty 39 g (i * 8) (n + m - i) dc ⟨vb, 0, none⟩ m 1 8 c1.toArray 39 (encP r) hui hsz (by rw [hW]; exact setRow_heap w g cur _ 39 _ hg)
      (by rw [hRl]; have : Nat.min m (n + m - i) = m := Nat.min_eq_left (by omega); omega) (fun j u hj => by
        rw [add8]
        simp only [World.cell?, hW]
        rw [setRow_other w g vb _ hne, hvb]
        simpa using hj) (by rw [hRl]; simp only [List.size_toArray, hc1l]; omega) hr1
    simpa using h
  have hfin : c1.take (i * 8) ++ encP r ++ c1.drop (i * 8 + (encP r).length) = flat encP (ps.take i) ++ encP r ++ flat encP (ps.drop i) ++ cur.toList.drop (i * 8 + 8 + (n - i) * 8) := by
    have h := seg_len cur.toList (flat encP (ps.drop i)) (encP r) (i * 8) ((n - i) * 8) hD hRl (by omega)
    rw [show i * 8 + 8 = (i + m) * 8 by omega, ← hc1] at h
    rw [h]
    congr 3
    · rw [← flat_take ps i (by omega), ← htk, List.take_take, Nat.min_eq_left (by omega)]
    · omega
  have hdone : ∀ W : World, W.heap = ((w.setRow g c1.toArray).setRow g (c1.take (i * 8) ++ encP r ++ c1.drop (i * 8 + (encP r).length)).toArray).heap → W.os = w.os → W.tape = w.tape → W.output = w.output → W.ownsRow base 39 8 (.slice (some ⟨g, 0, none⟩) (n + m) cap) (n + m) (flat encP (ps.take i ++ [r] ++ ps.drop i)) ∧ GrownV w W (some g) (.slice (some ⟨g, 0, none⟩) (n + m) cap) := by
    intro W hW h1 h2 h3
    have hAl : (flat encP (ps.take i)).length = i * 8 := by rw [flat_len encP_len, List.length_take, Nat.min_eq_left (by omega)]
    refine ⟨⟨?_, .inr ⟨g, cap, (flat encP (ps.take i) ++ encP r ++ flat encP (ps.drop i) ++ cur.toList.drop (i * 8 + 8 + (n - i) * 8)).toArray, rfl, hbg, ?_, hroom, hcm, ?_, ?_⟩⟩, ⟨⟨h1, h2, h3, ?_, ?_⟩, fun k hk => .inl hk⟩⟩
    · rw [flat_len encP_len, ins_len ps r i (by omega)]; omega
    · rw [hW, hfin]
      exact setRow_heap _ g c1.toArray _ 39 _ (setRow_heap w g cur _ 39 _ hg)
    · simp only [List.size_toArray, List.length_append, List.length_drop, hclen, hD, hRl, hAl]; omega
    · rw [flat_ins]
      exact take_of_parts (by rw [hAl, hRl, hD]; omega)
    · rw [hW]; simp
    · intro k _ hk
      have hkg : k ≠ g := fun e => hk (by rw [e])
      rw [hW, setRow_other _ g k _ hkg, setRow_other _ g k _ hkg]
  have hz1 : ¬ ((m : Int) = 0) := by omega
  have hz2 : ¬ ((i : Int) = (n : Int)) := by omega
  have hw1 : IntKind.i64.wrap ((i : Int) + (m : Int)) = (i : Int) + (m : Int) := by rw [IntKind.wrap_i64]; omega
  have hw2 : IntKind.i64.wrap ((n : Int) + (m : Int)) = (n : Int) + (m : Int) := by rw [IntKind.wrap_i64]; omega
  have hb1 : (0 : Int) ≤ (i : Int) + (m : Int) := by omega
  have hin : i ≤ n := by omega
  have htn : ((i : Int) + (m : Int)).toNat = i + m := by omega
  have htn2 : ((n : Int) + (m : Int)).toNat = n + m := by omega
  have hb2 : ¬ (cap = i + m) := by omega
  have hb3 : (i : Int) ≤ (n : Int) + (m : Int) := by omega
  have hb4 : ¬ (cap = i) := by omega
  have hb5 : ¬ ((cap : Int) < (n : Int) + (m : Int)) := by omega
  have HD := hide hdone
  have HC1 := hide (hcp1 w.drew rfl)
  have mixed : Tryz.prog.follows .mixedOrders = true := by kernel_rfl
  have HC2 := hide (hcp2 (w.drew.setRow g c1.toArray) rfl)
  have HOV := hide hov
  clear hdone hcp1 hcp2 hfin hc1 hcell hD hclen hRl hnl hov hc1l htk hcs hg hrow hvb hone hr1 hmx hsz hi0 hz0 hzs hzb hm hnp
  go_enter Tryz.func209, Tryz.ntmps209
  go_wp2_with (simp only [HOV.out])
  go_region_law_o (refine step_copy_runI rfl _ _ 106 106 rfl (.slice (some ⟨g, (i + m) * 8, none⟩) (n + m - (i + m)) (cap - (i + m))) (.slice (some ⟨g, i * 8, none⟩) (n + m - i) (cap - i)) (by simp [Act.eval, Act.put]) (by simp [Act.eval, Act.put]) (HC1.out 3 (cap - (i + m)) (cap - i)) ?_)
  go_wp2_with (refine wpList_copy_runI _ rfl _ _ 106 29 rfl (.slice (some ⟨g, i * 8, none⟩) (n + m - i) (cap - i)) (.slice (some ⟨vb, 0, none⟩) m 1) rfl rfl (HC2.out 3 (cap - i)) ?_)
  go_ret
  exact ⟨_, rfl, HD.out _ (by rw [← List.append_assoc]; rfl) rfl rfl rfl⟩

theorem run_append_end (base n m vb : Nat) (v : Value) (ps : List RP) (r : RP) (w : World) (hnp : n = ps.length) (hm : m = 1) (hbase : base ≤ w.heap.size) (hn : n ≤ 1048576) (hrow : w.ownsRow base 39 8 v n (flat encP ps))
    (hvb : w.heap[vb]? = some (.cells (encP r).toArray 39 (0, 0))) (hr1 : ∀ u ∈ encP r, u.oneCell' = true) : ∃ v' w', (∀ ty, (Builtin.append_ #[106, 29] ty #[v, .slice (some ⟨vb, 0, none⟩) m 1]).run Tryz.prog w = .ok v' w') ∧ w'.ownsRow base 39 8 v' (n + m) (flat encP (ps.take n ++ [r] ++ ps.drop n)) ∧ GrownV w w' v.ownBlock v' := by
  obtain ⟨i0, hi0, hz0, hzs, hzb⟩ := info_parts Tryz.infoRec
  obtain ⟨a, c, hv⟩ := owns_lenS hrow
  obtain ⟨v', w', h1, h2, h3, _⟩ := run_append_own (P := Tryz.prog) w base 106 106 39 i0 _ 8 i0.bytes Tryz.underlying106 hi0 hz0 hzs rfl rfl (by omega) v n (flat encP ps) hrow ⟨vb, 0, none⟩ m 1 (encP r) (by rw [encP_len, hm]) (fun j u hj => by
    rw [add8, Nat.zero_add, cells_at hvb]
    simpa using hj) hr1 (by unfold maxLen; omega) (by rw [hzb]; omega) hbase
  refine ⟨v', w', fun ty => ?_, ?_, h3, ?_⟩
  · rw [hv, append_types w 106 29 ty 39 i0 Tryz.underlying106 Tryz.underlying29 hi0, ← hv]
    exact h1
  · rw [flat_ins, hnp, List.take_length, List.drop_length]
    rw [hnp] at h2
    simpa [flat] using h2
  · refine append_blk (P := Tryz.prog) w base 106 106 39 i0 _ Tryz.underlying106 hi0 hz0 v n (flat encP ps) (by rw [hzs]; exact hrow) ⟨vb, 0, none⟩ m 1 (encP r) (by rw [encP_len, hm, hzs]) (fun j u hj => by
      rw [add8, Nat.zero_add, cells_at hvb]
      simpa using hj) hr1 (by omega) (by unfold maxLen; omega) (by rw [hzb]; omega) h1

set_option maxRecDepth 100000 in
set_option maxHeartbeats 4000000 in
theorem ins_end (base n m vb : Nat) (v : Value) (ps : List RP) (r : RP) (w : World) (hnp : n = ps.length) (hm : m = 1) (hbase : base ≤ w.heap.size) (hn : n ≤ 1048576) (hrow : w.ownsRow base 39 8 v n (flat encP ps))
    (hvb : w.heap[vb]? = some (.cells (encP r).toArray 39 (0, 0))) (hr1 : ∀ u ∈ encP r, u.oneCell' = true) :
    Calls Tryz.prog 209 #[v, .int .i64 (n : Int), .slice (some ⟨vb, 0, none⟩) m 1] w fun e w' => ∃ v', e = .returned v' ∧ w'.ownsRow base 39 8 v' (n + m) (flat encP (ps.take n ++ [r] ++ ps.drop n)) ∧ GrownV w w' v.ownBlock v' := by
  obtain ⟨v', w', h1, h2, h3⟩ := run_append_end base n m vb v ps r w hnp hm hbase hn hrow hvb hr1
  obtain ⟨va, vc, hve⟩ := owns_lenS h2
  subst hve
  have HR := hide h1
  generalize ps.take n ++ [r] ++ ps.drop n = l at *
  have H2 := hide h2
  have H3 := hide h3
  have hz1 : ¬ ((m : Int) = 0) := by omega
  clear h1 h2 h3 hvb hr1 hm hnp
  rcases hrow.2 with ⟨h0, hn0⟩ | ⟨g, cap, cur, hv, hbg, hg, hnc, hcm, hcs, htk⟩
  · subst h0
    clear hrow
    subst hn0
    go_enter Tryz.func209, Tryz.ntmps209
    go_wp2_with (at_builtin; refine Lib.wpList_append_run _ rfl _ _ _ _ rfl _ _ rfl rfl _ _ (HR.out _) ?_)
    go_ret
    exact ⟨_, rfl, (by simpa using H2.out), by simpa using H3.out⟩
  · subst hv
    have hc63 : cap ≤ 9223372036854775807 := by unfold maxLen at hcm; omega
    clear hrow hg hcs htk
    go_enter Tryz.func209, Tryz.ntmps209
    go_wp2_with (at_builtin; refine Lib.wpList_append_run _ rfl _ _ _ _ rfl _ _ rfl rfl _ _ (HR.out _) ?_)
    all_goals (go_ret; exact ⟨_, rfl, H2.out, H3.out⟩)

set_option maxRecDepth 100000 in
set_option maxHeartbeats 4000000 in
theorem ins_grow (base g cap n m i vb : Nat) (ps : List RP) (r : RP) (w : World) (hnp : n = ps.length) (hm : m = 1) (hbase : base ≤ w.heap.size) (hn : n ≤ 1048576) (hrow : w.ownsRow base 39 8 (.slice (some ⟨g, 0, none⟩) n cap) n (flat encP ps)) (hi : i < n) (hroom : cap < n + m)
    (hvb : w.heap[vb]? = some (.cells (encP r).toArray 39 (0, 0))) (hone : ∀ p ∈ ps, ∃ a k c, p.2 = .slice a k c) (hr1 : ∀ u ∈ encP r, u.oneCell' = true) :
    Calls Tryz.prog 209 #[.slice (some ⟨g, 0, none⟩) n cap, .int .i64 (i : Int), .slice (some ⟨vb, 0, none⟩) m 1] w fun e w' => ∃ v, e = .returned v ∧ w'.ownsRow base 39 8 v (n + m) (flat encP (ps.take i ++ [r] ++ ps.drop i)) ∧ GrownV w w' (some g) v := by
  have hnl : (flat encP ps).length = n * 8 := hrow.1
  have hui := Tryz.underlying106
  have hus := Tryz.underlying29
  obtain ⟨i0, hi0, hz0, hzs, hzb⟩ := info_parts Tryz.infoRec
  have hsz : (Tryz.prog.info? 39).map (·.size) = some 8 := by rw [hi0]; simp [hzs]

  rcases hrow.2 with ⟨h0, _⟩ | ⟨g', cap', cur, hv, hbg, hg, hnc, hcm, hcs, htk⟩
  · simp at h0
  simp at hv
  obtain ⟨rfl, rfl⟩ := hv
  have hc63 : cap ≤ 9223372036854775807 := by unfold maxLen at hcm; omega
  have hgw := lt_of_heap hg
  have hvw := lt_of_heap hvb
  have hD : (flat encP (ps.drop i)).length = (n - i) * 8 := by rw [flat_len encP_len, List.length_drop, ← hnp]
  have hAl : (flat encP (ps.take i)).length = i * 8 := by rw [flat_len encP_len, List.length_take, Nat.min_eq_left (by omega)]
  have hRl : (encP r).length = 8 := encP_len r
  have hkk : (n : Int) + (m : Int) - (i : Int) = ((n + m - i : Nat) : Int) := by omega
  have hik : i + (n + m - i) = n + m := by omega
  have hcellw : ∀ (j : Nat) (u : Value), (flat encP ps)[j]? = some u → w.cell? ⟨g, j, none⟩ = some u := fun j u hj => by
    have h2 : j < n * 8 := by rw [← hnl]; exact (List.getElem?_eq_some_iff.1 hj).1
    rw [← htk, List.getElem?_take_of_lt h2] at hj
    rw [cells_at hg]
    simpa using hj
  have hold : (Builtin.firstCells i0.size i (.slice (some ⟨g, 0, none⟩) i cap)).run Tryz.prog w.drew = .ok (flat encP (ps.take i)).toArray w.drew := by
    rw [hzs]
    exact run_firstCells_some w.drew 8 i ⟨g, 0, none⟩ i cap (flat encP (ps.take i)) hAl (fun j v hj => by
      rw [add8, Nat.zero_add]
      refine hcellw j v ?_
      rw [← flat_take ps i (by omega), List.getElem?_take] at hj
      split at hj
      · exact hj
      · cases hj)
  have hrz0 := Lib.run_append_grow_zeros (P := Tryz.prog) w 106 3 106 39 i0 _ .i64 .i64 hui Tryz.underlying3 hi0 hz0 (some ⟨g, 0, none⟩) i cap (flat encP (ps.take i)) hold (n + m - i) (by omega) (by rw [hzs]; omega) (by omega) (by omega) (by rw [hzb]; omega) (by rw [hzb, hik]; exact growslice_fits hroom (by omega))
  rw [hik] at hrz0
  have hGn := grownCap_ge w (n + m) cap 39
  have hGm := grownCap_le_maxLen w (n + m) cap 39 (by unfold maxLen; omega)
  obtain ⟨G, hG⟩ : ∃ G, G = grownCap w (n + m) cap 39 := ⟨_, rfl⟩
  rw [← hG] at hrz0 hGn hGm
  obtain ⟨ROW, hROW⟩ : ∃ ROW : Array Value, ROW = (flat encP (ps.take i)).toArray ++ Builtin.zeroCells (Value.agg (recC zeroRD (.slice none 0 0))).cells (n + m - i) ++ Builtin.zeroCells (Value.agg (recC zeroRD (.slice none 0 0))).cells (G - (n + m)) := ⟨_, rfl⟩
  rw [← hROW] at hrz0
  have hRs : ROW.size = G * 8 := by
    rw [hROW]
    simp only [Array.size_append, List.size_toArray, size_zeroCells, hAl, show (Value.agg (recC zeroRD (.slice none 0 0))).cells.size = 8 from rfl]
    omega
  have hRt : ROW.toList.take (i * 8) = flat encP (ps.take i) := by
    rw [hROW]
    simp only [Array.toList_append, List.append_assoc]
    rw [← hAl]
    exact List.take_left
  obtain ⟨N, hN⟩ : ∃ N, N = w.heap.size := ⟨_, rfl⟩
  obtain ⟨W1, hW1⟩ : ∃ W1, W1 = w.drew.alloc (.cells ROW 39) := ⟨_, rfl⟩
  rw [← hW1, ← hN] at hrz0
  have hrz : ∀ ty, (Builtin.append_ #[106, 3] ty #[.slice (some ⟨g, 0, none⟩) i cap, .int .i64 ((n : Int) + (m : Int) - (i : Int))]).run Tryz.prog w = .ok (.slice (some ⟨N, 0, none⟩) (n + m) G) W1 := fun ty => by
    rw [hkk]
    exact hrz0
  have g1 : W1.heap[N]? = some (.cells ROW 39 (0, 0)) := by rw [hW1, hN]; exact heap_alloc_new w.drew _
  have b1 : ∀ k, k < N → W1.heap[k]? = w.heap[k]? := fun k hk => by rw [hW1]; exact Below.heap_alloc _ _ _ (by rw [hN] at hk; exact hk)
  have s1 : W1.heap.size = N + 1 := by rw [hW1, hN]; simp
  have hcpA : ∀ ty dc, (Builtin.copy_ #[106, 29] ty #[.slice (some ⟨N, i * 8, none⟩) (n + m - i) dc, .slice (some ⟨vb, 0, none⟩) m 1]).run Tryz.prog W1 = .ok (goInt (Nat.min m (n + m - i))) (W1.setRow N (ROW.toList.take (i * 8) ++ encP r ++ ROW.toList.drop (i * 8 + (encP r).length)).toArray) := fun ty dc =>
    run_copy_rowS W1 106 29 ty 39 N (i * 8) (n + m - i) dc ⟨vb, 0, none⟩ m 1 8 ROW 39 (encP r) hui hsz g1
      (by rw [hRl]; have : Nat.min m (n + m - i) = m := Nat.min_eq_left (by omega); omega) (fun j u hj => by
        rw [add8, Nat.zero_add]
        simp only [World.cell?]
        rw [b1 vb (by omega), hvb]
        simpa using hj) (by rw [hRl, hRs]; omega) hr1
  obtain ⟨c1, hc1⟩ : ∃ c1, c1 = ROW.toList.take (i * 8) ++ encP r ++ ROW.toList.drop (i * 8 + (encP r).length) := ⟨_, rfl⟩
  rw [← hc1] at hcpA
  have hc1l : c1.length = G * 8 := by
    rw [hc1]
    simp only [List.length_append, List.length_take, List.length_drop, Array.length_toList, hRs, hRl]
    omega
  have hc1t : c1.take ((i + m) * 8) = flat encP (ps.take i) ++ encP r := by
    rw [hc1, hRt]
    rw [List.take_append_of_le_length (by simp only [List.length_append, hAl, hRl]; omega), List.take_of_length_le (by simp only [List.length_append, hAl, hRl]; omega)]
  obtain ⟨W2, hW2⟩ : ∃ W2, W2 = W1.setRow N c1.toArray := ⟨_, rfl⟩
  rw [← hW2] at hcpA
  have g2 : W2.heap[N]? = some (.cells c1.toArray 39 (0, 0)) := by rw [hW2]; exact setRow_heap W1 N ROW _ 39 _ g1
  have b2 : ∀ k, k < N → W2.heap[k]? = w.heap[k]? := fun k hk => by rw [hW2, setRow_other W1 N k _ (by omega)]; exact b1 k hk
  have s2 : W2.heap.size = N + 1 := by rw [hW2]; simpa using s1
  have hcpB0 := fun dc sc => run_copy_rowS (P := Tryz.prog) W2.drew 106 106 3 39 N ((i + m) * 8) (n + m - (i + m)) dc ⟨g, i * 8, none⟩ (n - i) sc 8 c1.toArray 39 (flat encP (ps.drop i)) hui hsz g2
      (by rw [hD]; congr 1; have : Nat.min (n - i) (n + m - (i + m)) = n - i := Nat.min_eq_left (by omega); omega) (fun j u hj => by
        rw [add8]
        have h2 := hcellw (i * 8 + j) u (by rw [← flat_drop ps i (by omega), List.getElem?_drop] at hj; exact hj)
        simp only [World.cell?] at h2 ⊢
        rw [show W2.drew.heap[g]? = w.heap[g]? from b2 g (by omega)]
        exact h2) (by rw [hD]; simp only [List.size_toArray, hc1l]; omega) (flat_oneCell _ (fun p hp => hone p (List.mem_of_mem_drop hp)))
  obtain ⟨c2, hc2⟩ : ∃ c2, c2 = c1.take ((i + m) * 8) ++ flat encP (ps.drop i) ++ c1.drop ((i + m) * 8 + (flat encP (ps.drop i)).length) := ⟨_, rfl⟩
  simp only [← hc2] at hcpB0
  obtain ⟨W3, hW3⟩ : ∃ W3, W3 = W2.drew.setRow N c2.toArray := ⟨_, rfl⟩
  rw [← hW3] at hcpB0
  have g3 : W3.heap[N]? = some (.cells c2.toArray 39 (0, 0)) := by rw [hW3]; exact setRow_heap W2.drew N c1.toArray _ 39 _ g2
  have b3 : ∀ k, k < N → W3.heap[k]? = w.heap[k]? := fun k hk => by rw [hW3, setRow_other W2.drew N k _ (by omega)]; exact b2 k hk
  have s3 : W3.heap.size = N + 1 := by rw [hW3]; simpa using s2
  have hfin : W3.ownsRow base 39 8 (.slice (some ⟨N, 0, none⟩) (n + m) G) (n + m) (flat encP (ps.take i ++ [r] ++ ps.drop i)) ∧ GrownV w W3 (some g) (.slice (some ⟨N, 0, none⟩) (n + m) G) := by
    refine ⟨⟨?_, .inr ⟨N, G, c2.toArray, rfl, by rw [hN]; exact hbase, g3, hGn, hGm, ?_, ?_⟩⟩, ⟨⟨?_, ?_, ?_, by omega, fun k hk _ => b3 k (by omega)⟩, fun k hk => .inr (Nat.le_of_eq (by rw [← hN]; simpa [Value.ownBlock] using hk))⟩⟩
    · rw [flat_len encP_len, ins_len ps r i (by omega)]; omega
    · rw [hc2, hc1t]
      simp only [List.size_toArray, List.length_append, List.length_drop, hc1l, hD, hRl, hAl]
      omega
    · rw [flat_ins, hc2, hc1t]
      exact take_of_parts (by rw [hAl, hRl, hD]; omega)
    · rw [hW3, hW2, hW1]; rfl
    · rw [hW3, hW2, hW1]; rfl
    · rw [hW3, hW2, hW1]; rfl
  have hz1 : ¬ ((m : Int) = 0) := by omega
  have hz2 : ¬ ((i : Int) = (n : Int)) := by omega
  have hz3 : (cap : Int) < (n : Int) + (m : Int) := by omega
  have hw1 : IntKind.i64.wrap ((i : Int) + (m : Int)) = (i : Int) + (m : Int) := by rw [IntKind.wrap_i64]; omega
  have hw2 : IntKind.i64.wrap ((n : Int) + (m : Int)) = (n : Int) + (m : Int) := by rw [IntKind.wrap_i64]; omega
  have hw3 : IntKind.i64.wrap ((n : Int) + (m : Int) - (i : Int)) = (n : Int) + (m : Int) - (i : Int) := by rw [IntKind.wrap_i64]; omega
  have hb1 : (0 : Int) ≤ (i : Int) + (m : Int) := by omega
  have hin : i ≤ n := by omega
  have htn : ((i : Int) + (m : Int)).toNat = i + m := by omega
  have hb3 : (i : Int) ≤ (n : Int) := by omega
  have hGi : ¬ (G = i) := by omega
  have hGim : ¬ (G = i + m) := by omega
  have hci : ¬ (cap = i) := by omega
  have hG63 : G ≤ 9223372036854775807 := by unfold maxLen at hGm; omega
  have HD := hide hfin
  have HA := hide hrz
  have HC1 := hide hcpA
  have HC2 := hide hcpB0
  have mixed : Tryz.prog.follows .mixedOrders = true := by kernel_rfl
  clear hfin hrz hcpA hcpB0 hrz0 g1 g2 g3 b1 b2 b3 s1 s2 s3 hW1 hW2 hW3 hc1 hc2 hc1l hc1t hROW hRs hRt hold hcellw hkk hik hN hG hGm hD hAl hRl hnl htk hcs hg hrow hvb hone hr1 hsz hi0 hz0 hzs hzb hm hnp
  go_enter Tryz.func209, Tryz.ntmps209
  go_wp2_with (first
    | (at_builtin; refine Lib.wpList_append_run _ rfl _ _ _ _ rfl _ _ rfl rfl _ _ (HA.out _) ?_)
    | (refine wpList_copy_runI _ rfl _ _ 106 29 rfl (.slice (some ⟨N, i * 8, none⟩) (n + m - i) (G - i)) (.slice (some ⟨vb, 0, none⟩) m 1) rfl rfl (HC1.out 3 (G - i)) ?_))
  go_region_law_o (refine step_copy_runI rfl _ _ 106 106 rfl (.slice (some ⟨N, (i + m) * 8, none⟩) (n + m - (i + m)) (G - (i + m))) (.slice (some ⟨g, i * 8, none⟩) (n - i) (cap - i)) (by simp [Act.eval, Act.put]) (by simp [Act.eval, Act.put]) (HC2.out (G - (i + m)) (cap - i)) ?_)
  go_wp2
  go_ret
  exact ⟨_, rfl, HD.out⟩

end Go.Proofs.YtdaigojpeofmpaaGreat
