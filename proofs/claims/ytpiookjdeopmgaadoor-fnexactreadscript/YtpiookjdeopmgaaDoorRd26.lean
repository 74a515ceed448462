/-
  spec.l14Part: a link put in.
-/
import Derived.Test.YtpiookjdeopmgaaDoorRd21
namespace Go.Proofs.YtpiookjdeopmgaaDoor
open Go.RowKit
set_option linter.unusedSimpArgs false
set_option linter.unusedVariables false

set_option maxRecDepth 100000 in
set_option maxHeartbeats 4000000 in
theorem spart_link (n : Int) (v1 v2 pv : Value) (ls : List Lk) (ts : List Th) (p0 : List UInt8) (ps : List (List UInt8)) (w : World) (h1 : LinksAt w v1 ls w.heap.size) (h2 : ThingsAt w v2 ts w.heap.size) (hls : ls.length ≤ 100) (hts : ts.length ≤ 100)
    (hp : StrsAt w pv (p0 :: ps) w.heap.size) (hn : ps.length ≤ 1000) (hl : ∀ l ∈ ps, l.length ≤ 1048576) (hcp : ∀ a n c, pv = .slice a n c → n ≤ c) (hA0 : p0 = wLink ∧ numsN 4 ps = true) :
    Calls Tryd.prog 23 #[.agg #[.int .i64 n, v1, v2], pv] w fun e w' => ∃ nx u1 u2, e = .returned (.tuple #[.agg #[.int .i64 nx, u1, u2], .bool (partF n ls ts p0 ps).isSome]) ∧ (∀ r, partF n ls ts p0 ps = some r → nx = n ∧ PartOwn w.heap.size v1 v2 ls ts w' u1 u2 r) ∧ Below w.heap.size w w' ∧ Sl u1 ∧ Sl u2 := by
  obtain ⟨G, hG⟩ : ∃ G, G = partF n ls ts p0 ps := ⟨_, rfl⟩
  rw [← hG]
  have G0 := hide hG
  clear hG
  obtain ⟨a1, c1, rfl⟩ := h1.shape
  obtain ⟨a2, c2, rfl⟩ := h2.shape
  obtain ⟨b, off, cap, rfl, hb, hc0⟩ := hp.cell 0 p0 rfl
  have hcp1 := hcp _ _ _ rfl
  have H1 := hide h1
  have H2 := hide h2
  have HP := hide hp
  have HL := hide hl
  simp only [Nat.add_zero] at hc0
  obtain ⟨t0, ht0⟩ : ∃ t, t = bs p0 := ⟨_, rfl⟩
  rw [← ht0] at hc0
  have T0 := hide ht0
  obtain ⟨N, hN⟩ : ∃ N, N = ps.length := ⟨_, rfl⟩
  have hN1 : (p0 :: ps).length = N + 1 := by simp [hN]
  rw [hN1] at hcp1 ⊢
  have HTW := hide (show ∀ (W : World) c2, Below w.heap.size w W → StrsAt W (.slice (some ⟨b, off + 1, none⟩) N c2) ps W.heap.size from fun W c2 hbW => by
    have hh : StrsAt w (.slice (some ⟨b, off, none⟩) (p0 :: ps).length cap) (p0 :: ps) w.heap.size := by rw [hN1]; rw [hN1] at hp; exact hp
    have h2 := StrsAt.then (StrsAt.tail hh (by simp) c2) hbW
    simpa [hN] using h2)
  have HT0W := hide (show ∀ (W : World) (a : Option Addr) (c2 : Nat), N = 0 → StrsAt W (.slice a N c2) ps W.heap.size from fun W a c2 h0 => by
    have : ps = [] := List.length_eq_zero_iff.1 (by omega)
    subst this
    exact ⟨a, c2, by simp [h0], .inl rfl⟩)
  have hN9 : N ≤ 1000 := by omega
  have HN := hide hN
  clear h1 h2 hp hl hcp ht0 hN hN1
  -- the boxes
  obtain ⟨w2, hw2⟩ : ∃ w2, w2 = (w.alloc (.cells #[.int .i64 n, .slice a1 ls.length c1, .slice a2 ts.length c2] 25)).alloc (.cells #[.int .i64 0, .slice none 0 0, .slice none 0 0] 25) := ⟨_, rfl⟩
  have bb : Below w.heap.size w w2 := by rw [hw2]; exact below_two _ _
  have q0 : w2.heap[w.heap.size]? = some (.cells #[.int .i64 n, .slice a1 ls.length c1, .slice a2 ts.length c2] 25) := by rw [hw2, Below.heap_alloc _ _ _ (by simp), heap_alloc_new]
  have q1 : w2.heap[w.heap.size + 1]? = some (.cells #[.int .i64 0, .slice none 0 0, .slice none 0 0] 25) := by
    have h := heap_alloc_new (w.alloc (.cells #[.int .i64 n, .slice a1 ls.length c1, .slice a2 ts.length c2] 25)) (.cells #[.int .i64 0, .slice none 0 0, .slice none 0 0] 25)
    rw [hw2]
    simpa using h
  have hs2 : w2.heap.size = w.heap.size + 2 := by rw [hw2]; simp
  have HS2 := hide hs2
  have HW2 := hide hw2
  have HQ0 := hide q0
  have HQ1 := hide q1
  have hb2 : b < w2.heap.size := by omega
  have d0 : w2.cell? ⟨b, off, none⟩ = some (.string t0) := by rw [bb.cell (p := ⟨b, off, none⟩) hb]; exact hc0
  have HD := hide d0
  clear q0 q1 hw2 hs2 d0
  have HC := fun (a : Option Addr) (c : Nat) (h : StrsAt w2 (.slice a N c) ps w2.heap.size) => snums_any (.slice a N c) ps w2 h (by omega) HL.out
  obtain ⟨B, hB⟩ : ∃ B, B = numsB ps := ⟨_, rfl⟩
  obtain ⟨zs, hzs⟩ : ∃ zs, zs = numsL ps := ⟨_, rfl⟩
  rw [← hB, ← hzs] at HC
  have HCC := hide HC
  have hzB := hide (show (B = true → zs = ps.map numI) ∧ (B = false → zs = []) from ⟨fun h => by rw [hzs, numsL_yes (by rw [← hB]; exact h)], fun h => by rw [hzs, numsL_no (by rw [← hB]; exact h)]⟩)
  have HBB := hide hB
  clear HC hB hzs
  -- what holds behind the numbers
  have K : ∀ (a : Option Addr) (c : Nat), StrsAt w2 (.slice a N c) ps w2.heap.size → Calls Tryd.prog 20 #[.slice a N c] w2 fun e w' => ∃ u, e = .returned (.tuple #[u, .bool B]) ∧ w'.ownsRow w2.heap.size 3 1 u zs.length (intsOf zs) ∧ Below w2.heap.size w2 w' := HCC.out
  have HK := hide K
  clear K
  have hw0 : w.heap.size + 1 < w2.heap.size := by rw [HS2.out]; omega
  have LEAF : ∀ (w3 : World), Below w2.heap.size w2 w3 → ∀ (o : Obj), G = none → (((((w3.setCell ⟨w.heap.size + 1, 0, none⟩ (.int .i64 0)).setCell ⟨w.heap.size + 1, 1, none⟩ (.slice none 0 0)).setCell ⟨w.heap.size + 1, 2, none⟩ (.slice none 0 0)).alloc o).heap[w.heap.size + 1]? = some (.cells #[.int .i64 0, .slice none 0 0, .slice none 0 0] 25) ∧ Below w.heap.size w ((((w3.setCell ⟨w.heap.size + 1, 0, none⟩ (.int .i64 0)).setCell ⟨w.heap.size + 1, 1, none⟩ (.slice none 0 0)).setCell ⟨w.heap.size + 1, 2, none⟩ (.slice none 0 0)).alloc o)) := fun w3 b3 o _ => by
    have r1 := (b3.block _ hw0).trans HQ1.out
    have n3 := bb.trans (b3.mono bb.size)
    have y := s3_same (.int .i64 0) (.slice none 0 0) (.slice none 0 0) r1
    have n4 := ((n3.setCell (p := ⟨w.heap.size + 1, 0, none⟩) (Nat.le_succ _) (.int .i64 0)).setCell (p := ⟨w.heap.size + 1, 1, none⟩) (Nat.le_succ _) (.slice none 0 0)).setCell (p := ⟨w.heap.size + 1, 2, none⟩) (Nat.le_succ _) (.slice none 0 0)
    exact ⟨by rw [Below.heap_alloc _ _ _ (lt_of_heap y)]; exact y, n4.alloc n4.size _⟩
  have HLEAF := hide LEAF
  clear LEAF
  have hlen : ps.length = 4 ∧ numsB ps = true := by
    have h := hA0.2
    simp only [numsN, Bool.and_eq_true, decide_eq_true_eq] at h
    exact ⟨by omega, h.2⟩
  have hN4 : N = 4 := by rw [HN.out]; exact hlen.1
  have hBt : B = true := by rw [HBB.out]; exact hlen.2
  subst hN4
  subst hBt
  have hzs := hzB.out.1 rfl
  have hw : t0.toList = wLink := by rw [T0.out, bs_toL]; exact hA0.1
  obtain ⟨y0, y1, y2, y3, rfl⟩ : ∃ y0 y1 y2 y3, ps = [y0, y1, y2, y3] := by
    match ps, hlen.1 with
    | [y0, y1, y2, y3], _ => exact ⟨_, _, _, _, rfl⟩
  obtain ⟨z0, hz0⟩ : ∃ z, z = numI y0 := ⟨_, rfl⟩
  obtain ⟨z1, hz1⟩ : ∃ z, z = numI y1 := ⟨_, rfl⟩
  obtain ⟨z2, hz2⟩ : ∃ z, z = numI y2 := ⟨_, rfl⟩
  obtain ⟨z3, hz3⟩ : ∃ z, z = numI y3 := ⟨_, rfl⟩
  have GG := hide (show G = if (putLk ls ⟨z0, z1, z2, z3⟩).length = ls.length then none else if netOkI ⟨n, putLk ls ⟨z0, z1, z2, z3⟩, ts⟩ = true then some (putLk ls ⟨z0, z1, z2, z3⟩, ts) else none by
    rw [G0.out, partF, if_pos hA0, hz0, hz1, hz2, hz3]
    simp only [List.getD_cons_zero, List.getD_cons_succ])
  simp only [List.map_cons, List.map_nil, ← hz0, ← hz1, ← hz2, ← hz3] at hzs
  subst hzs
  have hwq : (t0.toList == [108, 105, 110, 107]) = true := by rw [hw]; rfl
  clear hz0 hz1 hz2 hz3 hlen hA0 hw hzB
  have hcap : ¬ (cap : Int) = 1 := by omega
  have hcap2 : ((4 + 1 : Nat) : Int) ≤ (cap : Int) := by omega
  go_enter Tryd.func23, Tryd.ntmps23
  go_wp2_with fail
  rw [← HW2.out]
  refine (HK.out _ _ (HTW.out _ _ bb)).mono ?_
  rintro e w3 ⟨u, rfl, hou, b3⟩
  obtain ⟨ua, uc, rfl⟩ := owns_len hou
  have r0 := (b3.block _ (by omega)).trans HQ0.out
  have r1 := (b3.block _ hw0).trans HQ1.out
  have hd3 : w3.cell? ⟨b, off, none⟩ = some (.string t0) := by rw [b3.cell (p := ⟨b, off, none⟩) hb2]; exact HD.out
  have hs3 := b3.size
  have hz3 : w.heap.size < w3.heap.size := by omega
  have hb3 : b < w3.heap.size := by omega
  have hz4 : w.heap.size + 1 < w3.heap.size := by omega
  have HB3 := hide b3
  have x0 := cells_at r0 0
  have x1 := cells_at r0 1
  have x2 := cells_at r0 2
  have y0 := cells_at r1 0
  have y1 := cells_at r1 1
  have y2 := cells_at r1 2
  have fy := frozen_at r1
  simp only [List.getElem?_toArray, List.getElem?_cons_succ, List.getElem?_cons_zero] at x0 x1 x2 y0 y1 y2
  clear r0 b3
  obtain ⟨g, gc, hsl, hg1, hgl⟩ := owns_shape hou (by simp)
  obtain ⟨rfl, rfl⟩ : ua = some ⟨g, 0, none⟩ ∧ uc = gc := by cases hsl; exact ⟨rfl, rfl⟩
  have i0 := hou.cellAt 0 (by simp)
  have i1 := hou.cellAt 1 (by simp)
  have i2 := hou.cellAt 2 (by simp)
  have i3 := hou.cellAt 3 (by simp)
  simp [intsOf] at i0 i1 i2 i3
  have e4 : ([z0, z1, z2, z3] : List Int).length = 4 := rfl
  simp only [e4]
  clear e4 hou hsl hcap hcap2
  go_upto_region 5 with fail
  obtain ⟨w4, hw4⟩ : ∃ w4, w4 = w3.alloc (.cells #[.int .i64 n, .slice a1 ls.length c1, .slice a2 ts.length c2] 25) := ⟨_, rfl⟩
  have b4 : Below w3.heap.size w3 w4 := by rw [hw4]; exact (Below.refl _ _).alloc (Nat.le_refl _) _
  have q9 := heap_alloc_new w3 (.cells #[.int .i64 n, .slice a1 ls.length c1, .slice a2 ts.length c2] 25)
  have s4 : w4.heap.size = w3.heap.size + 1 := by rw [hw4]; simp
  rw [← hw4] at q9 ⊢
  have HS4 := hide s4
  have HQ9 := hide q9
  have HB4 := hide (HB3.out.trans (b4.mono hs3))
  have HR0 := hide ((b4.block _ hz3).trans ((HB3.out.block _ (by rw [HS2.out]; omega)).trans HQ0.out))
  have hgl4 : g < w4.drew.heap.size := by show g < w4.heap.size; omega
  have hc := hide (show w4.drew.cell? ⟨g, 0, none⟩ = some (.int .i64 z0) ∧ w4.drew.cell? ⟨g, 1, none⟩ = some (.int .i64 z1) ∧ w4.drew.cell? ⟨g, 2, none⟩ = some (.int .i64 z2) ∧ w4.drew.cell? ⟨g, 3, none⟩ = some (.int .i64 z3) from
    ⟨(b4.cell (p := ⟨g, 0, none⟩) hgl).trans i0, (b4.cell (p := ⟨g, 1, none⟩) hgl).trans i1, (b4.cell (p := ⟨g, 2, none⟩) hgl).trans i2, (b4.cell (p := ⟨g, 3, none⟩) hgl).trans i3⟩)
  have hz9 : w3.heap.size < w4.heap.size := by omega
  clear hw4 b4 q9 s4 i0 i1 i2 i3 x0 x1 x2 y0 y1 y2 fy r1 hd3
  refine wp_region_noPanic ?_
  refine wp_region_startL 14 (fun W => W.cell? ⟨g, 0, none⟩ = some (.int .i64 z0) ∧ W.cell? ⟨g, 1, none⟩ = some (.int .i64 z1) ∧ W.cell? ⟨g, 2, none⟩ = some (.int .i64 z2) ∧ W.cell? ⟨g, 3, none⟩ = some (.int .i64 z3)) (by kernel_rfl) 15 rfl (fun ops hops => ?_)
  refine takeL_do 0 (oi := ?_) (v := ?_) ?_ (by rw [hops.out]; kernel_rfl) ?_ ?_ ?_ rfl hc.out ?_
  rotate_left 2
  · rw [hops.out]; simp only [List.getElem?_toArray, List.getElem?_cons_succ, List.getElem?_cons_zero]; rfl
  · rw [hops.out]; kernel_rfl
  · intro W; go_simp <;> with_reducible rfl
  · exact fun _ _ _ h => h
  try simp only [Act.put, List.setIfInBounds_toArray, List.set_cons_zero, List.set_cons_succ]
  refine takeL_do 1 (oi := ?_) (v := ?_) ?_ (by rw [hops.out]; kernel_rfl) ?_ ?_ ?_ rfl hc.out ?_
  rotate_left 2
  · rw [hops.out]; simp only [List.getElem?_toArray, List.getElem?_cons_succ, List.getElem?_cons_zero]; rfl
  · rw [hops.out]; kernel_rfl
  · intro W; go_simp <;> with_reducible rfl
  · exact fun _ _ _ h => h
  try simp only [Act.put, List.setIfInBounds_toArray, List.set_cons_zero, List.set_cons_succ]
  refine takeL_do 3 (oi := ?_) (v := ?_) ?_ (by rw [hops.out]; kernel_rfl) ?_ ?_ ?_ rfl hc.out ?_
  rotate_left 2
  · rw [hops.out]; simp only [List.getElem?_toArray, List.getElem?_cons_succ, List.getElem?_cons_zero]; rfl
  · rw [hops.out]; kernel_rfl
  · intro W; go_simp <;> with_reducible rfl
  · exact fun _ _ _ h => h
  try simp only [Act.put, List.setIfInBounds_toArray, List.set_cons_zero, List.set_cons_succ]
  refine takeL_do 4 (oi := ?_) (v := ?_) ?_ (by rw [hops.out]; kernel_rfl) ?_ ?_ ?_ rfl hc.out ?_
  rotate_left 2
  · rw [hops.out]; simp only [List.getElem?_toArray, List.getElem?_cons_succ, List.getElem?_cons_zero]; rfl
  · rw [hops.out]; kernel_rfl
  · intro W; go_simp <;> with_reducible rfl
  · exact fun _ _ _ h => h
  try simp only [Act.put, List.setIfInBounds_toArray, List.set_cons_zero, List.set_cons_succ]
  refine takeL_do 6 (oi := ?_) (v := ?_) ?_ (by rw [hops.out]; kernel_rfl) ?_ ?_ ?_ rfl hc.out ?_
  rotate_left 2
  · rw [hops.out]; simp only [List.getElem?_toArray, List.getElem?_cons_succ, List.getElem?_cons_zero]; rfl
  · rw [hops.out]; kernel_rfl
  · intro W; go_simp <;> with_reducible rfl
  · exact fun _ _ _ h => h
  try simp only [Act.put, List.setIfInBounds_toArray, List.set_cons_zero, List.set_cons_succ]
  refine takeL_do 7 (oi := ?_) (v := ?_) ?_ (by rw [hops.out]; kernel_rfl) ?_ ?_ ?_ rfl hc.out ?_
  rotate_left 2
  · rw [hops.out]; simp only [List.getElem?_toArray, List.getElem?_cons_succ, List.getElem?_cons_zero]; rfl
  · rw [hops.out]; kernel_rfl
  · intro W; go_simp <;> with_reducible rfl
  · exact fun _ _ _ h => h
  try simp only [Act.put, List.setIfInBounds_toArray, List.set_cons_zero, List.set_cons_succ]
  refine takeL_do 9 (oi := ?_) (v := ?_) ?_ (by rw [hops.out]; kernel_rfl) ?_ ?_ ?_ rfl hc.out ?_
  rotate_left 2
  · rw [hops.out]; simp only [List.getElem?_toArray, List.getElem?_cons_succ, List.getElem?_cons_zero]; rfl
  · rw [hops.out]; kernel_rfl
  · intro W; go_simp <;> with_reducible rfl
  · exact fun _ _ _ h => h
  try simp only [Act.put, List.setIfInBounds_toArray, List.set_cons_zero, List.set_cons_succ]
  refine takeL_do 10 (oi := ?_) (v := ?_) ?_ (by rw [hops.out]; kernel_rfl) ?_ ?_ ?_ rfl hc.out ?_
  rotate_left 2
  · rw [hops.out]; simp only [List.getElem?_toArray, List.getElem?_cons_succ, List.getElem?_cons_zero]; rfl
  · rw [hops.out]; kernel_rfl
  · intro W; go_simp <;> with_reducible rfl
  · exact fun _ _ _ h => h
  try simp only [Act.put, List.setIfInBounds_toArray, List.set_cons_zero, List.set_cons_succ]
  refine takeL_held 2 [12, 14] (oi := ?_) (v := ?_) ?_ (by rw [hops.out]; kernel_rfl) (by rw [hops.out]; kernel_rfl) ?_ ?_ ?_ hc.out ?_
  rotate_left 2
  · rw [hops.out]; simp only [List.getElem?_toArray, List.getElem?_cons_succ, List.getElem?_cons_zero]; rfl
  · rw [hops.out]; kernel_rfl
  · intro W hW; obtain ⟨j0, j1, j2, j3⟩ := hW; go_simp <;> with_reducible rfl
  · exact fun _ _ _ h => h
  try simp only [Act.put, List.setIfInBounds_toArray, List.set_cons_zero, List.set_cons_succ]
  refine takeL_held 5 [12, 14] (oi := ?_) (v := ?_) ?_ (by rw [hops.out]; kernel_rfl) (by rw [hops.out]; kernel_rfl) ?_ ?_ ?_ hc.out ?_
  rotate_left 2
  · rw [hops.out]; simp only [List.getElem?_toArray, List.getElem?_cons_succ, List.getElem?_cons_zero]; rfl
  · rw [hops.out]; kernel_rfl
  · intro W hW; obtain ⟨j0, j1, j2, j3⟩ := hW; go_simp <;> with_reducible rfl
  · exact fun _ _ _ h => h
  try simp only [Act.put, List.setIfInBounds_toArray, List.set_cons_zero, List.set_cons_succ]
  refine takeL_held 8 [12, 14] (oi := ?_) (v := ?_) ?_ (by rw [hops.out]; kernel_rfl) (by rw [hops.out]; kernel_rfl) ?_ ?_ ?_ hc.out ?_
  rotate_left 2
  · rw [hops.out]; simp only [List.getElem?_toArray, List.getElem?_cons_succ, List.getElem?_cons_zero]; rfl
  · rw [hops.out]; kernel_rfl
  · intro W hW; obtain ⟨j0, j1, j2, j3⟩ := hW; go_simp <;> with_reducible rfl
  · exact fun _ _ _ h => h
  try simp only [Act.put, List.setIfInBounds_toArray, List.set_cons_zero, List.set_cons_succ]
  refine takeL_held 11 [12, 14] (oi := ?_) (v := ?_) ?_ (by rw [hops.out]; kernel_rfl) (by rw [hops.out]; kernel_rfl) ?_ ?_ ?_ hc.out ?_
  rotate_left 2
  · rw [hops.out]; simp only [List.getElem?_toArray, List.getElem?_cons_succ, List.getElem?_cons_zero]; rfl
  · rw [hops.out]; kernel_rfl
  · intro W hW; obtain ⟨j0, j1, j2, j3⟩ := hW; go_simp <;> with_reducible rfl
  · exact fun _ _ _ h => h
  try simp only [Act.put, List.setIfInBounds_toArray, List.set_cons_zero, List.set_cons_succ]
  refine takeL_do 12 (oi := ?_) (v := ?_) ?_ (by rw [hops.out]; kernel_rfl) ?_ ?_ ?_ rfl hc.out ?_
  rotate_left 2
  · rw [hops.out]; simp only [List.getElem?_toArray, List.getElem?_cons_succ, List.getElem?_cons_zero]; rfl
  · rw [hops.out]; kernel_rfl
  · intro W; go_simp <;> with_reducible rfl
  · exact fun _ _ _ h => h
  try simp only [Act.put, List.setIfInBounds_toArray, List.set_cons_zero, List.set_cons_succ]
  refine takeL_call 13 (oi := ?_) ?_ (by rw [hops.out]; kernel_rfl) ?_ ?_
  rotate_left 1
  · rw [hops.out]; simp only [List.getElem?_toArray, List.getElem?_cons_succ, List.getElem?_cons_zero]; rfl
  · rw [hops.out]; kernel_rfl
  intro K hK
  go_simp
  have bA := (Below.refl w4.drew.heap.size w4.drew).alloc (Nat.le_refl _) (.cells #[.int .i64 0, .int .i64 0, .int .i64 0, .int .i64 0] 77)
  have hc2 := hide (show (w4.drew.alloc (.cells #[.int .i64 0, .int .i64 0, .int .i64 0, .int .i64 0] 77)).cell? ⟨g, 0, none⟩ = some (.int .i64 z0) ∧ (w4.drew.alloc (.cells #[.int .i64 0, .int .i64 0, .int .i64 0, .int .i64 0] 77)).cell? ⟨g, 1, none⟩ = some (.int .i64 z1) ∧ (w4.drew.alloc (.cells #[.int .i64 0, .int .i64 0, .int .i64 0, .int .i64 0] 77)).cell? ⟨g, 2, none⟩ = some (.int .i64 z2) ∧ (w4.drew.alloc (.cells #[.int .i64 0, .int .i64 0, .int .i64 0, .int .i64 0] 77)).cell? ⟨g, 3, none⟩ = some (.int .i64 z3) from ⟨(bA.cell (p := ⟨g, 0, none⟩) hgl4).trans hc.out.1, (bA.cell (p := ⟨g, 1, none⟩) hgl4).trans hc.out.2.1, (bA.cell (p := ⟨g, 2, none⟩) hgl4).trans hc.out.2.2.1, (bA.cell (p := ⟨g, 3, none⟩) hgl4).trans hc.out.2.2.2⟩)
  refine hK.out _ _ (fun _ => hc2.out) ?_
  clear hK K
  try simp only [Act.put, List.setIfInBounds_toArray, List.set_cons_zero, List.set_cons_succ]
  have hb9 := heap_alloc_new w4.drew (.cells #[.int .i64 0, .int .i64 0, .int .i64 0, .int .i64 0] 77)
  have fz9 := frozen_at hb9
  have k0 := cells_at hb9 0
  have k1 := cells_at hb9 1
  have k2 := cells_at hb9 2
  have k3 := cells_at hb9 3
  simp only [List.getElem?_toArray, List.getElem?_cons_succ, List.getElem?_cons_zero] at k0 k1 k2 k3
  refine takeL_call 14 (oi := ?_) ?_ (by rw [hops.out]; kernel_rfl) ?_ ?_
  rotate_left 1
  · rw [hops.out]; simp only [List.getElem?_toArray, List.getElem?_cons_succ, List.getElem?_cons_zero]; rfl
  · rw [hops.out]; kernel_rfl
  intro K hK
  go_simp
  refine hK.out _ _ (fun h => by simp at h) ?_
  clear hK K
  try simp only [Act.put, List.setIfInBounds_toArray, List.set_cons_zero, List.set_cons_succ]
  refine wpAnyL_done (by rw [hops.out]; kernel_rfl) (NoPanic.normal ?_) _
  clear hops ops
  obtain ⟨W6, hW6⟩ : ∃ W6, W6 = (w4.alloc (.cells #[.int .i64 z0, .int .i64 z1, .int .i64 z2, .int .i64 z3] 77)).drew := ⟨_, rfl⟩
  have b6 : Below w4.heap.size w4 W6 := by rw [hW6]; exact ((Below.refl _ _).alloc (Nat.le_refl _) _).drew
  have l6 : W6.heap[w4.heap.size]? = some (.cells #[.int .i64 z0, .int .i64 z1, .int .i64 z2, .int .i64 z3] 77) := by rw [hW6]; exact heap_alloc_new w4 _
  rw [← hW6]
  have r6 := (b6.block _ (by omega)).trans HR0.out
  have x1 := cells_at r6 1
  have k0 := cells_at l6 0
  have k1 := cells_at l6 1
  have k2 := cells_at l6 2
  have k3 := cells_at l6 3
  simp only [List.getElem?_toArray, List.getElem?_cons_succ, List.getElem?_cons_zero] at x1 k0 k1 k2 k3
  have HB6 := hide (bb.trans ((HB4.out.trans (b6.mono (by have := HB4.out.size; omega))).mono bb.size))
  have HQ6 := hide ((b6.block _ hz9).trans HQ9.out)
  have HR6 := hide r6
  have HE6 := hide ((b6.block (w.heap.size + 1) (by omega)).trans ((HB4.out.block _ hw0).trans HQ1.out))
  have s6 := b6.size
  have HPL := hide (putL_any (.slice a1 ls.length c1) ls ⟨z0, z1, z2, z3⟩ W6 (by omega) (StructsAt_then H1.out HB6.out))
  obtain ⟨PL, hPL⟩ : ∃ PL, PL = putLk ls ⟨z0, z1, z2, z3⟩ := ⟨_, rfl⟩
  rw [← hPL] at HPL GG
  obtain ⟨M, hM⟩ : ∃ M, M = PL.length := ⟨_, rfl⟩
  rw [← hM] at HPL GG
  have HMM := hide hM
  have hM2 : M ≤ 101 := by rw [hM, hPL]; have := putL_len ls ⟨z0, z1, z2, z3⟩; omega
  clear hW6 b6 l6 r6 hc hPL hM
  go_wp2_with fail
  refine HPL.out.mono ?_
  rintro e w7 ⟨x, rfl, ox, b7⟩
  obtain ⟨xa, xc, rfl⟩ := owns_lenS ox
  have OX := hide ox
  have s7 := b7.size
  have q7 := (b7.block _ (lt_of_heap HQ6.out)).trans HQ6.out
  have r7 := (b7.block _ (lt_of_heap HR6.out)).trans HR6.out
  have e7 := (b7.block _ (lt_of_heap HE6.out)).trans HE6.out
  have f1 := cells_at q7 1
  have ff := frozen_at q7
  have x1 := cells_at r7 1
  have y0 := cells_at e7 0
  have y1 := cells_at e7 1
  have y2 := cells_at e7 2
  have fy := frozen_at e7
  simp only [List.getElem?_toArray, List.getElem?_cons_succ, List.getElem?_cons_zero] at f1 x1 y0 y1 y2
  have HB7 := hide (HB6.out.trans (b7.mono HB6.out.size))
  have HQ7 := hide q7
  have HE7 := hide e7
  have hzz : w3.heap.size ≠ w.heap.size := by omega
  have hzy : w3.heap.size ≠ w.heap.size + 1 := by omega
  clear b7 q7 r7 e7 ox k0 k1 k2 k3
  generalize hZ : w3.heap.size = Z at *
  have hZ1 : w.heap.size ≤ Z := by omega
  clear hZ
  have y := heap_setCell_same _ _ 1 _ _ (Value.slice xa M xc) HQ7.out
  simp only [List.setIfInBounds_toArray, List.set_cons_zero, List.set_cons_succ] at y
  have n8 := HB7.out.setCell (p := ⟨Z, 1, none⟩) hZ1 (.slice xa M xc)
  have e8 : (w7.setCell ⟨Z, 1, none⟩ (.slice xa M xc)).heap[w.heap.size + 1]? = some (.cells #[.int .i64 0, .slice none 0 0, .slice none 0 0] 25) := by
    rw [heap_setCell_other _ ⟨Z, 1, none⟩ _ _ (fun e => hzy e.symm)]
    exact HE7.out
  by_cases hML : M = ls.length
  · have g := hide (show G = none by rw [GG.out, if_pos hML])
    have hMi : (M : Int) = (ls.length : Int) := by omega
    have hMb : ((M : Int) == (ls.length : Int)) = true := by simp [hML]
    have HY := hide e8
    have HN8 := hide n8
    clear y n8 e8 hML hMi
    go_wp2
    refine bodyPost_ret (results_cell_row_tmp14 rfl _ _ (w.heap.size + 1) 25 #[.int .i64 0, .slice none 0 0, .slice none 0 0] (0, 0) _ rfl (s3_same (.int .i64 0) (.slice none 0 0) (.slice none 0 0) HY.out) Tryd.underlying25 rfl (by kernel_rfl)) rfl ?_
    exact ⟨_, _, _, by rw [g.out]; rfl, (fun r h => by rw [g.out] at h; cases h), ((HN8.out.setCell (p := ⟨w.heap.size + 1, 0, none⟩) (Nat.le_succ _) _).setCell (p := ⟨w.heap.size + 1, 1, none⟩) (Nat.le_succ _) _).setCell (p := ⟨w.heap.size + 1, 2, none⟩) (Nat.le_succ _) _, ⟨_, _, _, rfl⟩, ⟨_, _, _, rfl⟩⟩
  · have hMb : ((M : Int) == (ls.length : Int)) = false := by simp; omega
    have hMi : ¬ (M : Int) = (ls.length : Int) := by omega
    have GN := hide (show G = if netOkI ⟨n, PL, ts⟩ = true then some (PL, ts) else none by rw [GG.out, if_neg hML])
    obtain ⟨W8, hW8⟩ : ∃ W8, W8 = w7.setCell ⟨Z, 1, none⟩ (.slice xa M xc) := ⟨_, rfl⟩
    have HX8 := hide (show W8.ownsRow (W6.heap.size + 1) 77 4 (.slice xa M xc) PL.length (flat lkE PL) by
      rw [hW8]
      have h := OX.out
      have h2 := owns_set (p := Z) (j := 1) (u := .slice xa M xc) h (by omega)
      rw [HMM.out] at h2 ⊢
      exact h2)
    go_upto_region 13 with fail
    rw [← hW8] at y n8 e8 ⊢
    clear hW8
    have HE8 := hide (show W8.drew.heap[w.heap.size + 1]? = some (.cells #[.int .i64 0, .slice none 0 0, .slice none 0 0] 25) from e8)
    have hZ8 : Z < W8.drew.heap.size := lt_of_heap y
    have t0 := cells_at y 0
    have t1 := cells_at y 1
    have t2 := cells_at y 2
    simp only [List.getElem?_toArray, List.getElem?_cons_succ, List.getElem?_cons_zero] at t0 t1 t2
    have hq := hide (And.intro t0 (And.intro t1 t2))
    have n8d := n8.drew
    have hPl : PL.length ≤ 101 := by rw [← HMM.out]; exact hM2
    have HNO := hide (snetOk_any (.agg #[.int .i64 n, .slice xa M xc, .slice a2 ts.length c2]) ⟨n, PL, ts⟩ W8.drew (by simp only []; omega) (by simp only []; omega) ⟨_, _, rfl, owns_rowAt HX8.out.drew, ThingsAt.then H2.out n8d⟩)
    obtain ⟨q, hqq⟩ : ∃ q, q = netOkI ⟨n, PL, ts⟩ := ⟨_, rfl⟩
    rw [← hqq] at HNO GN
    have HN8 := hide n8
    clear y n8 e8 t0 t1 t2 n8d hqq y0 y1 y2 fy f1 ff x1
    refine wp_region_noPanic ?_
    refine wp_region_startL 3 (fun W => W.cell? ⟨Z, 0, none⟩ = some (.int .i64 n) ∧ W.cell? ⟨Z, 1, none⟩ = some (.slice xa M xc) ∧ W.cell? ⟨Z, 2, none⟩ = some (.slice a2 ts.length c2)) (by kernel_rfl) 5 rfl (fun ops hops => ?_)
    refine takeL_held 0 [3] (oi := ?_) (v := ?_) ?_ (by rw [hops.out]; kernel_rfl) (by rw [hops.out]; kernel_rfl) ?_ ?_ ?_ hq.out ?_
    rotate_left 2
    · rw [hops.out]; simp only [List.getElem?_toArray, List.getElem?_cons_succ, List.getElem?_cons_zero]; rfl
    · rw [hops.out]; kernel_rfl
    · intro W hW; obtain ⟨j0, j1, j2⟩ := hW; go_simp <;> with_reducible rfl
    · exact fun _ _ _ h => h
    try simp only [Act.put, List.setIfInBounds_toArray, List.set_cons_zero, List.set_cons_succ]
    refine takeL_held 1 [2, 3] (oi := ?_) (v := ?_) ?_ (by rw [hops.out]; kernel_rfl) (by rw [hops.out]; kernel_rfl) ?_ ?_ ?_ hq.out ?_
    rotate_left 2
    · rw [hops.out]; simp only [List.getElem?_toArray, List.getElem?_cons_succ, List.getElem?_cons_zero]; rfl
    · rw [hops.out]; kernel_rfl
    · intro W hW; obtain ⟨j0, j1, j2⟩ := hW; go_simp <;> with_reducible rfl
    · exact fun _ _ _ h => h
    try simp only [Act.put, List.setIfInBounds_toArray, List.set_cons_zero, List.set_cons_succ]
    refine takeL_call 2 (oi := ?_) ?_ (by rw [hops.out]; kernel_rfl) ?_ ?_
    rotate_left 1
    · rw [hops.out]; simp only [List.getElem?_toArray, List.getElem?_cons_succ, List.getElem?_cons_zero]; rfl
    · rw [hops.out]; kernel_rfl
    intro K hK
    go_simp
    refine HNO.out.mono ?_
    rintro e w9 ⟨rfl, bc⟩
    have hq9 := hide (show w9.cell? ⟨Z, 0, none⟩ = some (.int .i64 n) ∧ w9.cell? ⟨Z, 1, none⟩ = some (.slice xa M xc) ∧ w9.cell? ⟨Z, 2, none⟩ = some (.slice a2 ts.length c2) from ⟨(bc.cell (p := ⟨Z, 0, none⟩) hZ8).trans hq.out.1, (bc.cell (p := ⟨Z, 1, none⟩) hZ8).trans hq.out.2.1, (bc.cell (p := ⟨Z, 2, none⟩) hZ8).trans hq.out.2.2⟩)
    have e9 := (bc.block _ (lt_of_heap HE8.out)).trans HE8.out
    have B9 := hide (Below.trans (show Below W8.heap.size W8 W8.drew from (Below.refl _ _).drew) bc)
    have HE9 := hide e9
    have y0 := cells_at e9 0
    have y1 := cells_at e9 1
    have y2 := cells_at e9 2
    have fy := frozen_at e9
    simp only [List.getElem?_toArray, List.getElem?_cons_succ, List.getElem?_cons_zero] at y0 y1 y2
    clear bc e9
    refine hK.out _ _ (fun _ => hq9.out) ?_
    clear hK K
    try simp only [Act.put, List.setIfInBounds_toArray, List.set_cons_zero, List.set_cons_succ]
    refine takeL_call 3 (oi := ?_) ?_ (by rw [hops.out]; kernel_rfl) ?_ ?_
    rotate_left 1
    · rw [hops.out]; simp only [List.getElem?_toArray, List.getElem?_cons_succ, List.getElem?_cons_zero]; rfl
    · rw [hops.out]; kernel_rfl
    intro K hK
    go_simp
    refine hK.out _ _ (fun h => by simp at h) ?_
    clear hK K
    try simp only [Act.put, List.setIfInBounds_toArray, List.set_cons_zero, List.set_cons_succ]
    refine takeL_call 4 (oi := ?_) ?_ (by rw [hops.out]; kernel_rfl) ?_ ?_
    rotate_left 1
    · rw [hops.out]; simp only [List.getElem?_toArray, List.getElem?_cons_succ, List.getElem?_cons_zero]; rfl
    · rw [hops.out]; kernel_rfl
    intro K hK
    go_simp
    refine hK.out _ _ (fun h => by simp at h) ?_
    clear hK K
    try simp only [Act.put, List.setIfInBounds_toArray, List.set_cons_zero, List.set_cons_succ]
    refine wpAnyL_done (by rw [hops.out]; kernel_rfl) (NoPanic.normal ?_) _
    clear hops ops
    have yy := s3_same (.int .i64 n) (.slice xa M xc) (.slice a2 ts.length c2) HE9.out
    have nn := HN8.out.trans (B9.out.mono HN8.out.size)
    have n9 := ((nn.setCell (p := ⟨w.heap.size + 1, 0, none⟩) (Nat.le_succ _) (.int .i64 n)).setCell (p := ⟨w.heap.size + 1, 1, none⟩) (Nat.le_succ _) (.slice xa M xc)).setCell (p := ⟨w.heap.size + 1, 2, none⟩) (Nat.le_succ _) (.slice a2 ts.length c2)
    have o9 := owns_set (p := w.heap.size + 1) (j := 2) (u := .slice a2 ts.length c2) (owns_set (p := w.heap.size + 1) (j := 1) (u := .slice xa M xc) (owns_set (p := w.heap.size + 1) (j := 0) (u := .int .i64 n) (owns_below HX8.out B9.out (Nat.le_refl _)) (by omega)) (by omega)) (by omega)
    have FIN := hide (And.intro yy (And.intro n9 o9))
    clear yy nn n9 o9
    go_wp2
    try simp only [Exit.inBlock, Exit.then]
    refine bodyPost_ret (results_cell_row_tmp14 rfl _ _ (w.heap.size + 1) 25 #[.int .i64 n, .slice xa M xc, .slice a2 ts.length c2] (0, 0) _ rfl FIN.out.1 Tryd.underlying25 rfl (by kernel_rfl)) rfl ?_
    refine ⟨_, _, _, by rw [GN.out]; cases q <;> rfl, (fun r h => ?_), FIN.out.2.1, ⟨_, _, _, rfl⟩, ⟨_, _, _, rfl⟩⟩
    rw [GN.out] at h
    cases q
    · cases h
    · cases h
      exact ⟨rfl, .inl ⟨rfl, rfl, owns_baseS FIN.out.2.2 (by have := HB6.out.size; omega)⟩⟩
end Go.Proofs.YtpiookjdeopmgaaDoor
