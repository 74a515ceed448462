/-
  impl.hopsOfBoth, Together: their contracts.
-/
import Derived.Test.YtbmphbeocbgalaaSortK
import Derived.Test.YtbmphbeocbgalaaWayToI
import Derived.Test.YtbmphbeocbgalaaBetterS
import Derived.Test.YtbmphbeocbgalaaReg
namespace Go.Proofs.Ytbmphbeocbgalaa
open Go.RowKit

set_option linter.unusedSimpArgs false

set_option maxRecDepth 100000 in
set_option maxHeartbeats 2000000 in
theorem hopsOf_any (la lb : List Int) (va vb : Value) (ba bb : Nat) (w : World) (ha : w.ownsRow ba 3 1 va la.length (flat intE la)) (hb : w.ownsRow bb 3 1 vb lb.length (flat intE lb)) (hla : la.length ≤ 1048576) (hlb : lb.length ≤ 1048576) :
    Calls Try.prog 108 #[va, vb] w fun e w' => ∃ x, e = .returned x ∧ w'.ownsRow w.heap.size 3 1 x (hopsI la lb).length (flat intE (hopsI la lb)) ∧ Below w.heap.size w w' := by
  have H1 := hide (ownHops_any la va ba w ha hla)
  have HB := hide hb
  obtain ⟨pa, qa, rfl⟩ := owns_lenS ha
  obtain ⟨pb, qb, rfl⟩ := owns_lenS hb
  clear ha hb
  go_enter Try.func108, Try.ntmps108
  go_wp2_with fail
  refine H1.out.mono ?_
  rintro e w1 ⟨v1, rfl, o1, b1⟩
  obtain ⟨p1, q1, rfl⟩ := owns_lenS o1
  have OB := hide (owns_below HB.out b1 (Nat.le_refl _))
  have O1 := hide o1
  have hs1 := b1.size
  clear o1 H1 HB
  go_wp2_with (first
    | (at_builtin; refine append_row5 int_flat1 (by omega) intE_one (by omega) _ rfl _ _ 22 rfl w.heap.size 3 Try.underlying22 (.int .i64 0) rfl Try.info3 (.slice p1 la.length q1) la rfl O1.out bb (.slice pb lb.length qb) lb rfl OB.out (by omega) hs1 ?_))
  intro v2 w2 o2 hg2
  have B2 : Below w.heap.size w w2 := b1.grown hg2 hs1 (fun k hk => (O1.out.lt k hk).1)
  have hLL : (la ++ lb).length ≤ 2097152 := by simp; omega
  have o2' : w2.ownsRow w.heap.size 3 1 v2 (la ++ lb).length (intsOf (la ++ lb)) := by rw [← flat_int]; simpa using o2
  obtain ⟨L, hL⟩ : ∃ L, L = la ++ lb := ⟨_, rfl⟩
  rw [← hL] at o2' hLL
  have HL := hide hL
  clear hL o2
  obtain ⟨p2, q2, rfl⟩ := owns_lenS o2'
  have HSO := hide (sort_own w.heap.size (.slice p2 L.length q2) L w2 o2' (by omega))
  clear o2' hg2
  go_wp2_with fail
  refine HSO.out.mono ?_
  rintro e w3 ⟨rfl, o3, k3⟩
  have B3 := k3 w.heap.size w (Nat.le_refl _) B2
  have HCO := hide (compact_own w.heap.size _ _ w3 o3 (by rw [List.length_mergeSort]; omega))
  clear o3 k3 HSO
  go_wp2_with fail
  refine HCO.out.mono ?_
  rintro e w4 ⟨x, rfl, o4, k4⟩
  have B4 := hide (k4 w.heap.size w (Nat.le_refl _) B3)
  have O4 := hide o4
  obtain ⟨p4, q4, rfl⟩ := owns_lenS o4
  clear o4 k4 HCO
  go_wp2
  go_ret
  exact ⟨_, rfl, by rw [flat_int]; unfold hopsI; rw [← HL.out]; exact O4.out, B4.out⟩

/-- what impl.Together makes of two ways -/
def togI (x y : WayD) : WayD := if betterB x y then x else if betterB y x then y else ⟨x.to, x.cost, hopsI x.hops y.hops⟩

theorem drewT {B : Nat} {w W : World} (h : Below B w W) : Below B w W.drew := h.trans ⟨rfl, rfl, rfl, Nat.le_refl _, fun _ _ => rfl⟩

set_option maxRecDepth 100000 in
set_option maxHeartbeats 4000000 in
theorem itog_any (x y : WayD) (vx vy : Value) (bx bY : Nat) (w : World) (hx : w.ownsRow bx 3 1 vx x.hops.length (flat intE x.hops)) (hy : w.ownsRow bY 3 1 vy y.hops.length (flat intE y.hops)) (hlx : x.hops.length ≤ 1048576) (hly : y.hops.length ≤ 1048576) :
    Calls Try.prog 91 #[.agg (wayC x vx), .agg (wayC y vy)] w fun e w' => ∃ u, e = .returned (.agg (wayC (togI x y) u)) ∧ w'.ownsRow w.heap.size 3 1 u (togI x y).hops.length (flat intE (togI x y).hops) ∧ Below w.heap.size w w' := by
  obtain ⟨D, hD⟩ : ∃ D, D = togI x y := ⟨_, rfl⟩
  rw [← hD]
  have HD := hide hD
  clear hD
  obtain ⟨p1, q1, rfl⟩ := owns_lenS hx
  obtain ⟨p2, q2, rfl⟩ := owns_lenS hy
  have HW1 := hide (fun W (hb : Below w.heap.size w W) => ownWay_any x (.slice p1 x.hops.length q1) bx W (owns_below hx hb (Nat.le_refl _)) hlx)
  have HW2 := hide (fun W (hb : Below w.heap.size w W) => ownWay_any y (.slice p2 y.hops.length q2) bY W (owns_below hy hb (Nat.le_refl _)) hly)
  have HHB := hide (fun W (hb : Below w.heap.size w W) => hopsOf_any x.hops y.hops (.slice p1 x.hops.length q1) (.slice p2 y.hops.length q2) bx bY W (owns_below hx hb (Nat.le_refl _)) (owns_below hy hb (Nat.le_refl _)) hlx hly)
  have HB1 := hide (fun W => ibetter_any (.slice p1 x.hops.length q1) (.slice p2 y.hops.length q2) x y W)
  have HB2 := hide (fun W => ibetter_any (.slice p2 y.hops.length q2) (.slice p1 x.hops.length q1) y x W)
  clear hx hy
  have m0 := heap3_0 w (.cells #[.int .i64 x.to, .int .i64 x.cost, .slice p1 x.hops.length q1] 27) (.cells #[.int .i64 y.to, .int .i64 y.cost, .slice p2 y.hops.length q2] 27) (.cells #[.int .i64 0, .int .i64 0, .slice none 0 0] 27)
  have m1 := heap3_1 w (.cells #[.int .i64 x.to, .int .i64 x.cost, .slice p1 x.hops.length q1] 27) (.cells #[.int .i64 y.to, .int .i64 y.cost, .slice p2 y.hops.length q2] 27) (.cells #[.int .i64 0, .int .i64 0, .slice none 0 0] 27)
  have m2 := heap3_2 w (.cells #[.int .i64 x.to, .int .i64 x.cost, .slice p1 x.hops.length q1] 27) (.cells #[.int .i64 y.to, .int .i64 y.cost, .slice p2 y.hops.length q2] 27) (.cells #[.int .i64 0, .int .i64 0, .slice none 0 0] 27)
  have BQ := below_three (w := w) (.cells #[.int .i64 x.to, .int .i64 x.cost, .slice p1 x.hops.length q1] 27) (.cells #[.int .i64 y.to, .int .i64 y.cost, .slice p2 y.hops.length q2] 27) (.cells #[.int .i64 0, .int .i64 0, .slice none 0 0] 27)
  obtain ⟨w1, hw1⟩ : ∃ W, W = (((w.alloc (.cells #[.int .i64 x.to, .int .i64 x.cost, .slice p1 x.hops.length q1] 27)).alloc (.cells #[.int .i64 y.to, .int .i64 y.cost, .slice p2 y.hops.length q2] 27)).alloc (.cells #[.int .i64 0, .int .i64 0, .slice none 0 0] 27)) := ⟨_, rfl⟩
  rw [← hw1] at m0 m1 m2 BQ
  have s0 := 0
  have s1 := 0
  have s2 := 0
  have t0 := 0
  have t1 := 0
  have t2 := 0
  obtain ⟨F1, hF1⟩ : ∃ b, b = betterB x y := ⟨_, rfl⟩
  obtain ⟨F2, hF2⟩ : ∃ b, b = betterB y x := ⟨_, rfl⟩
  rw [← hF1] at HB1
  rw [← hF2] at HB2
  have HF1 := hide hF1
  have HF2 := hide hF2
  clear hF1 hF2
  unfold wayC at HB1 HB2 HW1 HW2 ⊢
  go_enter Try.func91, Try.ntmps91
  go_wp2_with fail
  rw [← hw1]
  clear hw1
  refine (HB1.out _).mono ?_
  rintro e w2 ⟨rfl, b1⟩
  have m0 := (b1.block _ (lt_of_heap m0)).trans m0
  have m1 := (b1.block _ (lt_of_heap m1)).trans m1
  have m2 := (b1.block _ (lt_of_heap m2)).trans m2
  have BQ := BQ.trans (b1.mono BQ.size)
  clear s0 s1 s2 t0 t1 t2 b1
  have s0 := cells_at m0 0
  have s1 := cells_at m0 1
  have s2 := cells_at m0 2
  have t0 := cells_at m1 0
  have t1 := cells_at m1 1
  have t2 := cells_at m1 2
  simp at s0 s1 s2 t0 t1 t2
  cases F1
  · go_wp2_with fail
    refine (HB2.out _).mono ?_
    rintro e w3 ⟨rfl, b1⟩
    have m0 := (b1.block _ (lt_of_heap m0)).trans m0
    have m1 := (b1.block _ (lt_of_heap m1)).trans m1
    have m2 := (b1.block _ (lt_of_heap m2)).trans m2
    have BQ := BQ.trans (b1.mono BQ.size)
    clear s0 s1 s2 t0 t1 t2 b1
    have s0 := cells_at m0 0
    have s1 := cells_at m0 1
    have s2 := cells_at m0 2
    have t0 := cells_at m1 0
    have t1 := cells_at m1 1
    have t2 := cells_at m1 2
    simp at s0 s1 s2 t0 t1 t2
    cases F2
    · have hDe : D = ⟨x.to, x.cost, hopsI x.hops y.hops⟩ := by rw [HD.out]; unfold togI; rw [← HF1.out, ← HF2.out]; rfl
      subst hDe
      clear HW1 HW2 HB1 HB2 HD
      go_wp2
      refine wp_region_noPanic ?_
      have hS0 : w3.drew.cell? ⟨w.heap.size, 0, none⟩ = some (.int .i64 x.to) ∧ w3.drew.cell? ⟨w.heap.size, 1, none⟩ = some (.int .i64 x.cost) ∧ w3.drew.cell? ⟨w.heap.size, 2, none⟩ = some (.slice p1 x.hops.length q1) ∧ w3.drew.cell? ⟨w.heap.size + 1, 2, none⟩ = some (.slice p2 y.hops.length q2) := ⟨s0, s1, s2, t2⟩
      refine wp_region_start (S := fun W => W.cell? ⟨w.heap.size, 0, none⟩ = some (.int .i64 x.to) ∧ W.cell? ⟨w.heap.size, 1, none⟩ = some (.int .i64 x.cost) ∧ W.cell? ⟨w.heap.size, 2, none⟩ = some (.slice p1 x.hops.length q1) ∧ W.cell? ⟨w.heap.size + 1, 2, none⟩ = some (.slice p2 y.hops.length q2)) (by kernel_rfl) 11 rfl hS0 ?_
      intro ops hops _
      show wpAnyH Try.prog .any ops _ _ 11 #[false, false, false, false, false, false, false, false, false, false, false] _ w3.drew
      refine take_do 0 (oi := ?_) (v := ?_) ?_ (by rw [hops.out]; kernel_rfl) ?_ ?_ ?_ (by assumption) ?_
      rotate_left 2
      · rw [hops.out]; simp only [List.getElem?_toArray, List.getElem?_cons_succ, List.getElem?_cons_zero]; rfl
      · rw [hops.out]; kernel_rfl
      · intro W hW; obtain ⟨k1, k2, k3, k4⟩ := hW; go_simp <;> with_reducible rfl
      · exact fun _ _ _ h => h
      try simp only [Act.put, List.setIfInBounds_toArray, List.set_cons_zero, List.set_cons_succ]
      refine take_do 1 (oi := ?_) (v := ?_) ?_ (by rw [hops.out]; kernel_rfl) ?_ ?_ ?_ (by assumption) ?_
      rotate_left 2
      · rw [hops.out]; simp only [List.getElem?_toArray, List.getElem?_cons_succ, List.getElem?_cons_zero]; rfl
      · rw [hops.out]; kernel_rfl
      · intro W hW; obtain ⟨k1, k2, k3, k4⟩ := hW; go_simp <;> with_reducible rfl
      · exact fun _ _ _ h => h
      try simp only [Act.put, List.setIfInBounds_toArray, List.set_cons_zero, List.set_cons_succ]
      refine take_do 2 (oi := ?_) (v := ?_) ?_ (by rw [hops.out]; kernel_rfl) ?_ ?_ ?_ (by assumption) ?_
      rotate_left 2
      · rw [hops.out]; simp only [List.getElem?_toArray, List.getElem?_cons_succ, List.getElem?_cons_zero]; rfl
      · rw [hops.out]; kernel_rfl
      · intro W hW; obtain ⟨k1, k2, k3, k4⟩ := hW; go_simp <;> with_reducible rfl
      · exact fun _ _ _ h => h
      try simp only [Act.put, List.setIfInBounds_toArray, List.set_cons_zero, List.set_cons_succ]
      refine take_do 3 (oi := ?_) (v := ?_) ?_ (by rw [hops.out]; kernel_rfl) ?_ ?_ ?_ (by assumption) ?_
      rotate_left 2
      · rw [hops.out]; simp only [List.getElem?_toArray, List.getElem?_cons_succ, List.getElem?_cons_zero]; rfl
      · rw [hops.out]; kernel_rfl
      · intro W hW; obtain ⟨k1, k2, k3, k4⟩ := hW; go_simp <;> with_reducible rfl
      · exact fun _ _ _ h => h
      try simp only [Act.put, List.setIfInBounds_toArray, List.set_cons_zero, List.set_cons_succ]
      refine take_do 4 (oi := ?_) (v := ?_) ?_ (by rw [hops.out]; kernel_rfl) ?_ ?_ ?_ (by assumption) ?_
      rotate_left 2
      · rw [hops.out]; simp only [List.getElem?_toArray, List.getElem?_cons_succ, List.getElem?_cons_zero]; rfl
      · rw [hops.out]; kernel_rfl
      · intro W hW; obtain ⟨k1, k2, k3, k4⟩ := hW; go_simp <;> with_reducible rfl
      · exact fun _ _ _ h => h
      try simp only [Act.put, List.setIfInBounds_toArray, List.set_cons_zero, List.set_cons_succ]
      refine take_do 5 (oi := ?_) (v := ?_) ?_ (by rw [hops.out]; kernel_rfl) ?_ ?_ ?_ (by assumption) ?_
      rotate_left 2
      · rw [hops.out]; simp only [List.getElem?_toArray, List.getElem?_cons_succ, List.getElem?_cons_zero]; rfl
      · rw [hops.out]; kernel_rfl
      · intro W hW; obtain ⟨k1, k2, k3, k4⟩ := hW; go_simp <;> with_reducible rfl
      · exact fun _ _ _ h => h
      try simp only [Act.put, List.setIfInBounds_toArray, List.set_cons_zero, List.set_cons_succ]
      refine take_do 6 (oi := ?_) (v := ?_) ?_ (by rw [hops.out]; kernel_rfl) ?_ ?_ ?_ (by assumption) ?_
      rotate_left 2
      · rw [hops.out]; simp only [List.getElem?_toArray, List.getElem?_cons_succ, List.getElem?_cons_zero]; rfl
      · rw [hops.out]; kernel_rfl
      · intro W hW; obtain ⟨k1, k2, k3, k4⟩ := hW; go_simp <;> with_reducible rfl
      · exact fun _ _ _ h => h
      try simp only [Act.put, List.setIfInBounds_toArray, List.set_cons_zero, List.set_cons_succ]
      refine take_do 7 (oi := ?_) (v := ?_) ?_ (by rw [hops.out]; kernel_rfl) ?_ ?_ ?_ (by assumption) ?_
      rotate_left 2
      · rw [hops.out]; simp only [List.getElem?_toArray, List.getElem?_cons_succ, List.getElem?_cons_zero]; rfl
      · rw [hops.out]; kernel_rfl
      · intro W hW; obtain ⟨k1, k2, k3, k4⟩ := hW; go_simp <;> with_reducible rfl
      · exact fun _ _ _ h => h
      try simp only [Act.put, List.setIfInBounds_toArray, List.set_cons_zero, List.set_cons_succ]
      refine take_call 8 (oi := ?_) ?_ (by rw [hops.out]; kernel_rfl) ?_ ?_
      rotate_left 1
      · rw [hops.out]; simp only [List.getElem?_toArray, List.getElem?_cons_succ, List.getElem?_cons_zero]; rfl
      · rw [hops.out]; kernel_rfl
      intro K hK
      go_simp
      refine (HHB.out _ (drewT BQ)).mono ?_
      rintro e w4 ⟨u, rfl, hn2, b2⟩
      obtain ⟨na, nc, rfl⟩ := owns_lenS hn2
      have hK2 : w4.cell? ⟨w.heap.size, 0, none⟩ = some (.int .i64 x.to) ∧ w4.cell? ⟨w.heap.size, 1, none⟩ = some (.int .i64 x.cost) ∧ w4.cell? ⟨w.heap.size, 2, none⟩ = some (.slice p1 x.hops.length q1) ∧ w4.cell? ⟨w.heap.size + 1, 2, none⟩ = some (.slice p2 y.hops.length q2) := by
        refine ⟨?_, ?_, ?_, ?_⟩ <;> (rw [b2.cell (by first | exact lt_of_heap m0 | exact lt_of_heap m1)]; assumption)
      refine hK.out _ _ hK2 (fun _ => ?_)
      clear hK K
      try simp only [Act.put, List.setIfInBounds_toArray, List.set_cons_zero, List.set_cons_succ]
      refine take_do 9 (oi := ?_) (v := ?_) ?_ (by rw [hops.out]; kernel_rfl) ?_ ?_ ?_ (by assumption) ?_
      rotate_left 2
      · rw [hops.out]; simp only [List.getElem?_toArray, List.getElem?_cons_succ, List.getElem?_cons_zero]; rfl
      · rw [hops.out]; kernel_rfl
      · intro W hW; obtain ⟨k1, k2, k3, k4⟩ := hW; go_simp <;> with_reducible rfl
      · exact fun _ _ _ h => h
      try simp only [Act.put, List.setIfInBounds_toArray, List.set_cons_zero, List.set_cons_succ]
      have hz2 := (b2.block _ (lt_of_heap m2)).trans m2
      have hz0 := (b2.block _ (lt_of_heap m0)).trans m0
      have hz1 := (b2.block _ (lt_of_heap m1)).trans m1
      have u0 := cells_at hz2 0
      have u1 := cells_at hz2 1
      have u2 := cells_at hz2 2
      simp at u0 u1 u2
      have fu := frozen_at hz2
      have FF := hide (finW3 ⟨x.to, x.cost, hopsI x.hops y.hops⟩ (.slice na (hopsI x.hops y.hops).length nc) hz2)
      have G8 := grownW3 w4 (w.heap.size + 1 + 1) ⟨x.to, x.cost, hopsI x.hops y.hops⟩ (.slice na (hopsI x.hops y.hops).length nc)
      have hsz := lt_of_heap m2
      have O3 := hide (owns_baseS (b0 := w.heap.size) (hn2.kept G8 (by
        cases hv : (Value.slice na (hopsI x.hops y.hops).length nc).ownBlock with
        | none => exact .inl rfl
        | some g => exact .inr (fun e => by
            have h9 := (hn2.lt g hv).1
            have h8 : w3.heap.size ≤ g := h9
            simp at e
            omega))) (by show w.heap.size ≤ w3.heap.size; omega))
      have B2 : Below w.heap.size w w4 := (drewT BQ).trans (b2.mono BQ.size)
      have BF := hide (B2.grown G8 B2.size (fun k hk => by simp at hk; omega))
      have hS5 : ∀ W : World, W.heap[w.heap.size]? = w4.heap[w.heap.size]? → W.heap[w.heap.size + 1]? = w4.heap[w.heap.size + 1]? → W.cell? ⟨w.heap.size, 0, none⟩ = some (.int .i64 x.to) ∧ W.cell? ⟨w.heap.size, 1, none⟩ = some (.int .i64 x.cost) ∧ W.cell? ⟨w.heap.size, 2, none⟩ = some (.slice p1 x.hops.length q1) ∧ W.cell? ⟨w.heap.size + 1, 2, none⟩ = some (.slice p2 y.hops.length q2) := by
        intro W e1 e2
        refine ⟨?_, ?_, ?_, ?_⟩
        · rw [World.cell?_of_block (w := w4) e1]; exact hK2.1
        · rw [World.cell?_of_block (w := w4) e1]; exact hK2.2.1
        · rw [World.cell?_of_block (w := w4) e1]; exact hK2.2.2.1
        · rw [World.cell?_of_block (w := w4) e2]; exact hK2.2.2.2
      have hS6 := hS5 (putW3 w4 (w.heap.size + 1 + 1) ⟨x.to, x.cost, hopsI x.hops y.hops⟩ (.slice na (hopsI x.hops y.hops).length nc)) (G8.block _ (lt_of_heap hz0) (by simp; omega)) (G8.block _ (lt_of_heap hz1) (by simp))
      clear hS5 hz2 hn2 b2 G8 hz0 hz1
      refine take_call 10 (oi := ?_) ?_ (by rw [hops.out]; kernel_rfl) ?_ ?_
      rotate_left 1
      · rw [hops.out]; simp only [List.getElem?_toArray, List.getElem?_cons_succ, List.getElem?_cons_zero]; rfl
      · rw [hops.out]; kernel_rfl
      intro K hK
      go_simp
      refine hK.out _ _ hS6 (fun _ => ?_)
      clear hK K
      try simp only [Act.put, List.setIfInBounds_toArray, List.set_cons_zero, List.set_cons_succ]
      refine wpAnyH_done (by rw [hops.out]; kernel_rfl) ?_ _
      clear hops ops
      refine NoPanic.normal ?_
      go_wp2_with fail
      (try simp only [Exit.inBlock, Exit.then])
      refine bodyPost_ret (results_cell_row rfl _ _ (w.heap.size + 1 + 1) 27 (wayC ⟨x.to, x.cost, hopsI x.hops y.hops⟩ (.slice na (hopsI x.hops y.hops).length nc)) (0, 0) _ rfl FF.out Try.underlying27 rfl (by kernel_rfl)) rfl ?_
      exact ⟨_, rfl, O3.out, BF.out⟩
    · have hDe : D = y := by rw [HD.out]; unfold togI; rw [← HF1.out, ← HF2.out]; rfl
      subst hDe
      clear HW1 HHB HB1 HB2 HD
      go_wp2_with fail
      refine (HW2.out _ BQ).mono ?_
      rintro e w4 ⟨v1, rfl, hn2, b2⟩
      obtain ⟨na, nc, rfl⟩ := owns_lenS hn2
      have hz2 := (b2.block _ (lt_of_heap m2)).trans m2
      have u0 := cells_at hz2 0
      have u1 := cells_at hz2 1
      have u2 := cells_at hz2 2
      simp at u0 u1 u2
      have fu := frozen_at hz2
      have FF := hide (finW3 D (.slice na D.hops.length nc) hz2)
      have G8 := grownW3 w4 (w.heap.size + 1 + 1) D (.slice na D.hops.length nc)
      have hsz := lt_of_heap m2
      have O3 := hide (owns_baseS (b0 := w.heap.size) (hn2.kept G8 (by
        cases hv : (Value.slice na D.hops.length nc).ownBlock with
        | none => exact .inl rfl
        | some g => exact .inr (fun e => by have := (hn2.lt g hv).1; simp at e; omega))) (by omega))
      have B2 : Below w.heap.size w w4 := BQ.trans (b2.mono BQ.size)
      have BF := hide (B2.grown G8 B2.size (fun k hk => by simp at hk; omega))
      clear hz2 hn2 b2 G8 m2 m0 m1
      go_wp2_with fail
      (try simp only [Exit.inBlock, Exit.then])
      refine bodyPost_ret (results_cell_row rfl _ _ (w.heap.size + 1 + 1) 27 (wayC D (.slice na D.hops.length nc)) (0, 0) _ rfl FF.out Try.underlying27 rfl (by kernel_rfl)) rfl ?_
      exact ⟨_, rfl, O3.out, BF.out⟩
  · have hDe : D = x := by rw [HD.out]; unfold togI; rw [← HF1.out]; rfl
    subst hDe
    clear HW2 HHB HB1 HB2 HD
    go_wp2_with fail
    refine (HW1.out _ BQ).mono ?_
    rintro e w4 ⟨v1, rfl, hn2, b2⟩
    obtain ⟨na, nc, rfl⟩ := owns_lenS hn2
    have hz2 := (b2.block _ (lt_of_heap m2)).trans m2
    have u0 := cells_at hz2 0
    have u1 := cells_at hz2 1
    have u2 := cells_at hz2 2
    simp at u0 u1 u2
    have fu := frozen_at hz2
    have FF := hide (finW3 D (.slice na D.hops.length nc) hz2)
    have G8 := grownW3 w4 (w.heap.size + 1 + 1) D (.slice na D.hops.length nc)
    have hsz := lt_of_heap m2
    have O3 := hide (owns_baseS (b0 := w.heap.size) (hn2.kept G8 (by
      cases hv : (Value.slice na D.hops.length nc).ownBlock with
      | none => exact .inl rfl
      | some g => exact .inr (fun e => by have := (hn2.lt g hv).1; simp at e; omega))) (by omega))
    have B2 : Below w.heap.size w w4 := BQ.trans (b2.mono BQ.size)
    have BF := hide (B2.grown G8 B2.size (fun k hk => by simp at hk; omega))
    clear hz2 hn2 b2 G8 m2 m0 m1
    go_wp2_with fail
    (try simp only [Exit.inBlock, Exit.then])
    refine bodyPost_ret (results_cell_row rfl _ _ (w.heap.size + 1 + 1) 27 (wayC D (.slice na D.hops.length nc)) (0, 0) _ rfl FF.out Try.underlying27 rfl (by kernel_rfl)) rfl ?_
    exact ⟨_, rfl, O3.out, BF.out⟩
end Go.Proofs.Ytbmphbeocbgalaa
