/-
  laws.FnExactShowRoute: its walk.
-/
import Derived.Test.YtpiookjdeopmgaaDoorShS
import Derived.Test.YtpiookjdeopmgaaDoorShI
namespace Go.Proofs.YtpiookjdeopmgaaDoor
open Go.RowKit
set_option linter.unusedSimpArgs false
set_option linter.unusedVariables false

set_option maxRecDepth 100000 in
set_option maxHeartbeats 4000000 in
theorem fnExactShowRoute_walk0 (v0 : Value) (x : RtD) (w : World) (hx0 : RtAt w v0 x w.heap.size ∧ x.hops.length ≤ maxLen ∧ RtWf x) (htab : Lib.TabIs Tryd.prog w "internal/strconv.uint64pow10" .u64 Lib.pow10Tab) :
    Calls Tryd.prog 4 #[v0] w fun e w' => e = .returned (.bool true) ∧ Below w.heap.size w w' := by
  obtain ⟨⟨v1, rfl, hv1⟩, hl0, hwf⟩ := hx0
  obtain ⟨a1, c1, rfl⟩ := hv1.shape
  have HV := hide hv1
  have HWF := hide hwf
  have HT := hide htab
  clear hv1 hwf htab
  have HSZ := hide (fun W => szRoute_any x a1 x.hops.length c1 1048576 W (by unfold maxLen at hl0; omega) (by omega) (by omega))
  unfold rtC
  have hw0 := heap_alloc_new w (.cells #[.bool x.thing, .int .i64 x.«to», .int .i64 x.kind, .int .i64 x.cost, .int .i64 x.far, .slice a1 x.hops.length c1] 36)
  have bw := (Below.refl w.heap.size w).alloc (Nat.le_refl _) (.cells #[.bool x.thing, .int .i64 x.«to», .int .i64 x.kind, .int .i64 x.cost, .int .i64 x.far, .slice a1 x.hops.length c1] 36)
  obtain ⟨W1, hW1⟩ : ∃ W1, W1 = w.alloc (.cells #[.bool x.thing, .int .i64 x.«to», .int .i64 x.kind, .int .i64 x.cost, .int .i64 x.far, .slice a1 x.hops.length c1] 36) := ⟨_, rfl⟩
  rw [← hW1] at hw0 bw
  have HW1 := hide hW1
  clear hW1
  have hz := lt_of_heap hw0
  have HW0 := hide hw0
  have s0 := cells_at hw0 0
  have s1 := cells_at hw0 1
  have s2 := cells_at hw0 2
  have s3 := cells_at hw0 3
  have s4 := cells_at hw0 4
  have s5 := cells_at hw0 5
  simp at s0 s1 s2 s3 s4 s5
  clear hw0
  go_enter Tryd.func4, Tryd.ntmps4
  go_wp2_with fail
  rw [← HW1.out]
  refine (HSZ.out _).mono ?_
  rintro e w2 ⟨rfl, b2⟩
  rcases szW_neg (q := 1048576) (n := x.hops.length) with hn | ⟨hn0, hn⟩
  · generalize szW 1048576 x.hops.length = q at hn ⊢
    go_wp2
    go_ret
    exact ⟨rfl, bw.trans (b2.mono bw.size)⟩
  have hl : x.hops.length ≤ 1048576 := by omega
  have hnn : ¬ szW 1048576 x.hops.length < 0 := by omega
  generalize szW 1048576 x.hops.length = q at hnn hn hn0 ⊢
  have HN := hide hn
  clear hn
  have B2 : Below w.heap.size w w2 := bw.trans (b2.mono bw.size)
  have G2 := hide ((b2.block _ hz).trans HW0.out)
  clear b2 bw HW0 HW1 hz s0 s1 s2 s3 s4 s5
  have s0 := cells_at G2.out 0
  have s1 := cells_at G2.out 1
  have s2 := cells_at G2.out 2
  have s3 := cells_at G2.out 3
  have s4 := cells_at G2.out 4
  have s5 := cells_at G2.out 5
  simp at s0 s1 s2 s3 s4 s5
  have HV2 := hide (HV.out.then B2)
  go_wp2_with fail
  refine (toRoute_any _ x _ hl ⟨_, rfl, HV2.out⟩).mono ?_
  rintro e w3 ⟨u1, rfl, o1, b3⟩
  have HO1 := hide (hops_of o1)
  have B3 : Below w.heap.size w w3 := B2.trans (b3.mono B2.size)
  have G3 := hide ((b3.block _ (lt_of_heap G2.out)).trans G2.out)
  clear o1 b3 HV2 G2 B2
  go_wp2_with fail
  refine (sshow_any x u1 _ HO1.out hl HWF.out).mono ?_
  rintro e w4 ⟨rfl, b4⟩
  have B4 : Below w.heap.size w w4 := B3.trans (b4.mono B3.size)
  have G4 := hide ((b4.block _ (lt_of_heap G3.out)).trans G3.out)
  clear b4 HO1 G3 B3 s0 s1 s2 s3 s4 s5
  have s0 := cells_at G4.out 0
  have s1 := cells_at G4.out 1
  have s2 := cells_at G4.out 2
  have s3 := cells_at G4.out 3
  have s4 := cells_at G4.out 4
  have s5 := cells_at G4.out 5
  simp at s0 s1 s2 s3 s4 s5
  have HV4 := hide (HV.out.then B4)
  go_wp2_with fail
  refine (toRoute_any _ x _ hl ⟨_, rfl, HV4.out⟩).mono ?_
  rintro e w5 ⟨u2, rfl, o2, b5⟩
  obtain ⟨a2, c2, rfl⟩ := owns_lenS o2
  have HO2 := hide (hops_of o2)
  have B5 : Below w.heap.size w w5 := B4.trans (b5.mono B4.size)
  have G5 := hide ((b5.block _ (lt_of_heap G4.out)).trans G4.out)
  clear o2 b5 HV4 G4 B4 s0 s1 s2 s3 s4 s5
  unfold rtC
  have hw6 := heap_alloc_new w5 (.cells #[.bool x.thing, .int .i64 x.«to», .int .i64 x.kind, .int .i64 x.cost, .int .i64 x.far, .slice a2 x.hops.length c2] 39)
  have bw6 := (Below.refl w5.heap.size w5).alloc (Nat.le_refl _) (.cells #[.bool x.thing, .int .i64 x.«to», .int .i64 x.kind, .int .i64 x.cost, .int .i64 x.far, .slice a2 x.hops.length c2] 39)
  obtain ⟨W6, hW6⟩ : ∃ W6, W6 = w5.alloc (.cells #[.bool x.thing, .int .i64 x.«to», .int .i64 x.kind, .int .i64 x.cost, .int .i64 x.far, .slice a2 x.hops.length c2] 39) := ⟨_, rfl⟩
  rw [← hW6] at hw6 bw6
  have HW6 := hide hW6
  clear hW6
  obtain ⟨z, hzz⟩ : ∃ z, z = w5.heap.size := ⟨_, rfl⟩
  rw [← hzz] at hw6
  have HZ := hide hzz
  clear hzz
  have B6 : Below w.heap.size w W6 := B5.trans (bw6.mono B5.size)
  have G6 := hide ((bw6.block _ (lt_of_heap G5.out)).trans G5.out)
  have HO6 := hide (HO2.out.then bw6)
  have HZ6 := hide hw6
  have t0 := cells_at hw6 0
  have t1 := cells_at hw6 1
  have t2 := cells_at hw6 2
  have t3 := cells_at hw6 3
  have t4 := cells_at hw6 4
  have t5 := cells_at hw6 5
  simp at t0 t1 t2 t3 t4 t5
  clear hw6 bw6 HO2 G5 B5
  go_wp2_with fail
  rw [← HW6.out, ← HZ.out]
  refine (ishow_any x _ _ HO6.out hl HWF.out (tab_thenS HT.out B6)).mono ?_
  rintro e w7 ⟨rfl, b7⟩
  have B7 : Below w.heap.size w w7 := B6.trans (b7.mono B6.size)
  have g7 := (b7.block _ (lt_of_heap G6.out)).trans G6.out
  have z7 := (b7.block _ (lt_of_heap HZ6.out)).trans HZ6.out
  have HO7 := hide ((HO6.out.then b7).then (Below.refl w7.heap.size w7).drew)
  have HV7 := hide ((HV.out.then B7).then (Below.refl w7.heap.size w7).drew)
  have hb0 := lt_of_heap g7
  have hb1 := lt_of_heap z7
  generalize bs (showL x) = S
  clear b7 HO6 G6 HZ6 B6 t0 t1 t2 t3 t4 t5
  have s0 := cells_at g7 0
  have s1 := cells_at g7 1
  have s2 := cells_at g7 2
  have s3 := cells_at g7 3
  have s4 := cells_at g7 4
  have s5 := cells_at g7 5
  have t0 := cells_at z7 0
  have t1 := cells_at z7 1
  have t2 := cells_at z7 2
  have t3 := cells_at z7 3
  have t4 := cells_at z7 4
  have t5 := cells_at z7 5
  simp at s0 s1 s2 s3 s4 s5 t0 t1 t2 t3 t4 t5
  clear g7 z7
  go_wp2_with fail
  refine wp_region_start (S := (fun (W : World) => W.cell? ⟨w.heap.size, 0, none⟩ = some (.bool x.thing) ∧ W.cell? ⟨w.heap.size, 1, none⟩ = some (.int .i64 x.«to») ∧ W.cell? ⟨w.heap.size, 2, none⟩ = some (.int .i64 x.kind) ∧ W.cell? ⟨w.heap.size, 3, none⟩ = some (.int .i64 x.cost) ∧ W.cell? ⟨w.heap.size, 4, none⟩ = some (.int .i64 x.far) ∧ W.cell? ⟨w.heap.size, 5, none⟩ = some (.slice a1 x.hops.length c1) ∧ W.cell? ⟨z, 0, none⟩ = some (.bool x.thing) ∧ W.cell? ⟨z, 1, none⟩ = some (.int .i64 x.«to») ∧ W.cell? ⟨z, 2, none⟩ = some (.int .i64 x.kind) ∧ W.cell? ⟨z, 3, none⟩ = some (.int .i64 x.cost) ∧ W.cell? ⟨z, 4, none⟩ = some (.int .i64 x.far) ∧ W.cell? ⟨z, 5, none⟩ = some (.slice a2 x.hops.length c2))) (by kernel_rfl) 5 rfl ⟨s0, s1, s2, s3, s4, s5, t0, t1, t2, t3, t4, t5⟩ (fun ops hops hHeld => ?_)
  refine take_do 0 (oi := ?_) (v := ?_) ?_ (by rw [hops.out]; kernel_rfl) ?_ ?_ ?_ (by assumption) ?_
  rotate_left 2
  · rw [hops.out]; simp only [List.getElem?_toArray, List.getElem?_cons_succ, List.getElem?_cons_zero]; rfl
  · rw [hops.out]; kernel_rfl
  · intro W hW; (try dsimp only at hW); go_simp <;> with_reducible rfl
  · exact fun _ _ _ h => h
  try simp only [Act.put, List.setIfInBounds_toArray, List.set_cons_zero, List.set_cons_succ]
  refine take_do 1 (oi := ?_) (v := ?_) ?_ (by rw [hops.out]; kernel_rfl) ?_ ?_ ?_ (by assumption) ?_
  rotate_left 2
  · rw [hops.out]; simp only [List.getElem?_toArray, List.getElem?_cons_succ, List.getElem?_cons_zero]; rfl
  · rw [hops.out]; kernel_rfl
  · intro W hW; (try dsimp only at hW); go_simp <;> with_reducible rfl
  · exact fun _ _ _ h => h
  try simp only [Act.put, List.setIfInBounds_toArray, List.set_cons_zero, List.set_cons_succ]
  refine take_call 2 (oi := ?_) ?_ (by rw [hops.out]; kernel_rfl) ?_ ?_
  rotate_left 1
  · rw [hops.out]; simp only [List.getElem?_toArray, List.getElem?_cons_succ, List.getElem?_cons_zero]; rfl
  · rw [hops.out]; kernel_rfl
  intro K hK
  go_simp
  refine (toRoute_any _ x _ hl ⟨_, rfl, HV7.out⟩).mono ?_
  rintro e wa ⟨u3, rfl, o3, ba⟩
  have Ba : Below w.heap.size w wa := B7.drew.trans (ba.mono B7.size)
  have O3 := hide o3
  clear o3
  refine hK.out _ _ ?_ (fun hHeld => ?_)
  · obtain ⟨m0, m1, m2, m3, m4, m5, m6, m7, m8, m9, m10, m11⟩ := hHeld
    exact ⟨(ba.cell hb0).trans m0, (ba.cell hb0).trans m1, (ba.cell hb0).trans m2, (ba.cell hb0).trans m3, (ba.cell hb0).trans m4, (ba.cell hb0).trans m5, (ba.cell hb1).trans m6, (ba.cell hb1).trans m7, (ba.cell hb1).trans m8, (ba.cell hb1).trans m9, (ba.cell hb1).trans m10, (ba.cell hb1).trans m11⟩
  clear hK K
  try simp only [Act.put, List.setIfInBounds_toArray, List.set_cons_zero, List.set_cons_succ]
  refine take_call 3 (oi := ?_) ?_ (by rw [hops.out]; kernel_rfl) ?_ ?_
  rotate_left 1
  · rw [hops.out]; simp only [List.getElem?_toArray, List.getElem?_cons_succ, List.getElem?_cons_zero]; rfl
  · rw [hops.out]; kernel_rfl
  intro K hK
  go_simp
  refine (eqRoute_any _ _ x x _ ⟨_, rfl, (HopsAt.then HO7.out ba)⟩ ⟨_, rfl, hops_of O3.out⟩ hl).mono ?_
  rintro e wb ⟨rfl, bb⟩
  refine hK.out _ _ ?_ (fun hHeld => ?_)
  · obtain ⟨m0, m1, m2, m3, m4, m5, m6, m7, m8, m9, m10, m11⟩ := hHeld
    exact ⟨(bb.cell (Nat.lt_of_lt_of_le hb0 ba.size)).trans m0, (bb.cell (Nat.lt_of_lt_of_le hb0 ba.size)).trans m1, (bb.cell (Nat.lt_of_lt_of_le hb0 ba.size)).trans m2, (bb.cell (Nat.lt_of_lt_of_le hb0 ba.size)).trans m3, (bb.cell (Nat.lt_of_lt_of_le hb0 ba.size)).trans m4, (bb.cell (Nat.lt_of_lt_of_le hb0 ba.size)).trans m5, (bb.cell (Nat.lt_of_lt_of_le hb1 ba.size)).trans m6, (bb.cell (Nat.lt_of_lt_of_le hb1 ba.size)).trans m7, (bb.cell (Nat.lt_of_lt_of_le hb1 ba.size)).trans m8, (bb.cell (Nat.lt_of_lt_of_le hb1 ba.size)).trans m9, (bb.cell (Nat.lt_of_lt_of_le hb1 ba.size)).trans m10, (bb.cell (Nat.lt_of_lt_of_le hb1 ba.size)).trans m11⟩
  clear hK K
  try simp only [Act.put, List.setIfInBounds_toArray, List.set_cons_zero, List.set_cons_succ]
  refine take_do 4 (oi := ?_) (v := .bool false) ?_ (by rw [hops.out]; kernel_rfl) ?_ ?_ ?_ (by assumption) ?_
  rotate_left 1
  · rw [hops.out]; simp only [List.getElem?_toArray, List.getElem?_cons_succ, List.getElem?_cons_zero]; rfl
  · rw [hops.out]; kernel_rfl
  · intro W hW; (try dsimp only at hW); go_simp <;> simp
  · exact fun _ _ _ h => h
  try simp only [Act.put, List.setIfInBounds_toArray, List.set_cons_zero, List.set_cons_succ]
  refine wpAnyH_done (by rw [hops.out]; kernel_rfl) ?_ _
  clear hops ops
  have B9 := hide (Ba.trans (bb.mono Ba.size))
  go_wp2
  go_ret
  exact ⟨rfl, B9.out⟩
end Go.Proofs.YtpiookjdeopmgaaDoor
