/-
  spec.l14Part: where no part comes of it.
-/
import Derived.Test.YtpiookjdeopmgaaDoorRd21
namespace Go.Proofs.YtpiookjdeopmgaaDoor
open Go.RowKit
set_option linter.unusedSimpArgs false
set_option linter.unusedVariables false

set_option maxRecDepth 100000 in
set_option maxHeartbeats 4000000 in
theorem spart_no (n : Int) (v1 v2 pv : Value) (ls : List Lk) (ts : List Th) (p0 : List UInt8) (ps : List (List UInt8)) (w : World) (h1 : LinksAt w v1 ls w.heap.size) (h2 : ThingsAt w v2 ts w.heap.size) (hls : ls.length ≤ 100) (hts : ts.length ≤ 100)
    (hp : StrsAt w pv (p0 :: ps) w.heap.size) (hn : ps.length ≤ 1000) (hl : ∀ l ∈ ps, l.length ≤ 1048576) (hcp : ∀ a n c, pv = .slice a n c → n ≤ c) (hA0 : ¬ (p0 = wLink ∧ numsN 4 ps = true)) (hB0 : ¬ ((p0 = wThing ∨ p0 = wFar) ∧ numsN 3 ps = true)) :
    Calls Tryd.prog 23 #[.agg #[.int .i64 n, v1, v2], pv] w fun e w' => ∃ nx u1 u2, e = .returned (.tuple #[.agg #[.int .i64 nx, u1, u2], .bool (partF n ls ts p0 ps).isSome]) ∧ (∀ r, partF n ls ts p0 ps = some r → nx = n ∧ PartOwn w.heap.size v1 v2 ls ts w' u1 u2 r) ∧ Below w.heap.size w w' ∧ Sl u1 ∧ Sl u2 := by
  obtain ⟨G, hG⟩ : ∃ G, G = partF n ls ts p0 ps := ⟨_, rfl⟩
  rw [← hG]
  have G0 := hide hG
  clear hG
  obtain ⟨a1, c1, rfl⟩ := h1.shape
  obtain ⟨a2, c2, rfl⟩ := h2.shape
  obtain ⟨b, off, cap, rfl, hb, hc0⟩ := hp.cell 0 p0 rfl
  have hcp1 := hcp _ _ _ rfl
  have H1 := hide h1
  have H2 := hide h2
  have HP := hide hp
  have HL := hide hl
  simp only [Nat.add_zero] at hc0
  obtain ⟨t0, ht0⟩ : ∃ t, t = bs p0 := ⟨_, rfl⟩
  rw [← ht0] at hc0
  have T0 := hide ht0
  obtain ⟨N, hN⟩ : ∃ N, N = ps.length := ⟨_, rfl⟩
  have hN1 : (p0 :: ps).length = N + 1 := by simp [hN]
  rw [hN1] at hcp1 ⊢
  have HTW := hide (show ∀ (W : World) c2, Below w.heap.size w W → StrsAt W (.slice (some ⟨b, off + 1, none⟩) N c2) ps W.heap.size from fun W c2 hbW => by
    have hh : StrsAt w (.slice (some ⟨b, off, none⟩) (p0 :: ps).length cap) (p0 :: ps) w.heap.size := by rw [hN1]; rw [hN1] at hp; exact hp
    have h2 := StrsAt.then (StrsAt.tail hh (by simp) c2) hbW
    simpa [hN] using h2)
  have HT0W := hide (show ∀ (W : World) (a : Option Addr) (c2 : Nat), N = 0 → StrsAt W (.slice a N c2) ps W.heap.size from fun W a c2 h0 => by
    have : ps = [] := List.length_eq_zero_iff.1 (by omega)
    subst this
    exact ⟨a, c2, by simp [h0], .inl rfl⟩)
  have hN9 : N ≤ 1000 := by omega
  have HN := hide hN
  clear h1 h2 hp hl hcp ht0 hN hN1
  -- the boxes
  obtain ⟨w2, hw2⟩ : ∃ w2, w2 = (w.alloc (.cells #[.int .i64 n, .slice a1 ls.length c1, .slice a2 ts.length c2] 25)).alloc (.cells #[.int .i64 0, .slice none 0 0, .slice none 0 0] 25) := ⟨_, rfl⟩
  have bb : Below w.heap.size w w2 := by rw [hw2]; exact below_two _ _
  have q0 : w2.heap[w.heap.size]? = some (.cells #[.int .i64 n, .slice a1 ls.length c1, .slice a2 ts.length c2] 25) := by rw [hw2, Below.heap_alloc _ _ _ (by simp), heap_alloc_new]
  have q1 : w2.heap[w.heap.size + 1]? = some (.cells #[.int .i64 0, .slice none 0 0, .slice none 0 0] 25) := by
    have h := heap_alloc_new (w.alloc (.cells #[.int .i64 n, .slice a1 ls.length c1, .slice a2 ts.length c2] 25)) (.cells #[.int .i64 0, .slice none 0 0, .slice none 0 0] 25)
    rw [hw2]
    simpa using h
  have hs2 : w2.heap.size = w.heap.size + 2 := by rw [hw2]; simp
  have HS2 := hide hs2
  have HW2 := hide hw2
  have HQ0 := hide q0
  have HQ1 := hide q1
  have hb2 : b < w2.heap.size := by omega
  have d0 : w2.cell? ⟨b, off, none⟩ = some (.string t0) := by rw [bb.cell (p := ⟨b, off, none⟩) hb]; exact hc0
  have HD := hide d0
  clear q0 q1 hw2 hs2 d0
  have HC := fun (a : Option Addr) (c : Nat) (h : StrsAt w2 (.slice a N c) ps w2.heap.size) => snums_any (.slice a N c) ps w2 h (by omega) HL.out
  obtain ⟨B, hB⟩ : ∃ B, B = numsB ps := ⟨_, rfl⟩
  obtain ⟨zs, hzs⟩ : ∃ zs, zs = numsL ps := ⟨_, rfl⟩
  rw [← hB, ← hzs] at HC
  have HCC := hide HC
  have hzB := hide (show (B = true → zs = ps.map numI) ∧ (B = false → zs = []) from ⟨fun h => by rw [hzs, numsL_yes (by rw [← hB]; exact h)], fun h => by rw [hzs, numsL_no (by rw [← hB]; exact h)]⟩)
  have HBB := hide hB
  clear HC hB hzs
  -- what holds behind the numbers
  have K : ∀ (a : Option Addr) (c : Nat), StrsAt w2 (.slice a N c) ps w2.heap.size → Calls Tryd.prog 20 #[.slice a N c] w2 fun e w' => ∃ u, e = .returned (.tuple #[u, .bool B]) ∧ w'.ownsRow w2.heap.size 3 1 u zs.length (intsOf zs) ∧ Below w2.heap.size w2 w' := HCC.out
  have HK := hide K
  clear K
  have hw0 : w.heap.size + 1 < w2.heap.size := by rw [HS2.out]; omega
  have LEAF : ∀ (w3 : World), Below w2.heap.size w2 w3 → ∀ (o : Obj), G = none → (((((w3.setCell ⟨w.heap.size + 1, 0, none⟩ (.int .i64 0)).setCell ⟨w.heap.size + 1, 1, none⟩ (.slice none 0 0)).setCell ⟨w.heap.size + 1, 2, none⟩ (.slice none 0 0)).alloc o).heap[w.heap.size + 1]? = some (.cells #[.int .i64 0, .slice none 0 0, .slice none 0 0] 25) ∧ Below w.heap.size w ((((w3.setCell ⟨w.heap.size + 1, 0, none⟩ (.int .i64 0)).setCell ⟨w.heap.size + 1, 1, none⟩ (.slice none 0 0)).setCell ⟨w.heap.size + 1, 2, none⟩ (.slice none 0 0)).alloc o)) := fun w3 b3 o _ => by
    have r1 := (b3.block _ hw0).trans HQ1.out
    have n3 := bb.trans (b3.mono bb.size)
    have y := s3_same (.int .i64 0) (.slice none 0 0) (.slice none 0 0) r1
    have n4 := ((n3.setCell (p := ⟨w.heap.size + 1, 0, none⟩) (Nat.le_succ _) (.int .i64 0)).setCell (p := ⟨w.heap.size + 1, 1, none⟩) (Nat.le_succ _) (.slice none 0 0)).setCell (p := ⟨w.heap.size + 1, 2, none⟩) (Nat.le_succ _) (.slice none 0 0)
    exact ⟨by rw [Below.heap_alloc _ _ _ (lt_of_heap y)]; exact y, n4.alloc n4.size _⟩
  have HLEAF := hide LEAF
  clear LEAF
  by_cases hc1 : cap = 1
  · subst hc1
    have hN0 : N = 0 := by omega
    subst hN0
    have hps : ps = [] := List.length_eq_zero_iff.1 (by rw [← HN.out])
    have g := hide (show G = none by rw [G0.out, hps]; simp [partF, numsN])
    have hz0 : zs.length = 0 := by
      cases B
      · rw [hzB.out.2 rfl]; rfl
      · rw [hzB.out.1 rfl, hps]; rfl
    have hzs0 : zs = [] := List.length_eq_zero_iff.1 hz0
    subst hzs0
    clear hps hz0
    go_enter Tryd.func23, Tryd.ntmps23
    go_wp2_with fail
    rw [← HW2.out]
    refine (HK.out _ _ (by have h := HT0W.out w2; simp only [true_implies, forall_const] at h; exact h _ _)).mono ?_
    rintro e w3 ⟨u, rfl, hou, b3⟩
    obtain ⟨ua, uc, rfl⟩ := owns_len hou
    have r0 := (b3.block _ (by omega)).trans HQ0.out
    have r1 := (b3.block _ hw0).trans HQ1.out
    have hd3 : w3.cell? ⟨b, off, none⟩ = some (.string t0) := by rw [b3.cell (p := ⟨b, off, none⟩) hb2]; exact HD.out
    have hs3 := b3.size
    have hz3 : w.heap.size < w3.heap.size := by omega
    have hb3 : b < w3.heap.size := by omega
    have hz4 : w.heap.size + 1 < w3.heap.size := by omega
    have HB3 := hide b3
    have x0 := cells_at r0 0
    have x1 := cells_at r0 1
    have x2 := cells_at r0 2
    have y0 := cells_at r1 0
    have y1 := cells_at r1 1
    have y2 := cells_at r1 2
    have fy := frozen_at r1
    simp only [List.getElem?_toArray, List.getElem?_cons_succ, List.getElem?_cons_zero] at x0 x1 x2 y0 y1 y2
    clear r0 b3
    go_wp2
    all_goals
      refine bodyPost_ret (results_cell_row_tmp14 rfl _ _ (w.heap.size + 1) 25 #[.int .i64 0, .slice none 0 0, .slice none 0 0] (0, 0) _ rfl (HLEAF.out w3 HB3.out _ g.out).1 Tryd.underlying25 rfl (by kernel_rfl)) rfl ?_
      exact ⟨_, _, _, by rw [g.out]; rfl, (fun r h => by rw [g.out] at h; cases h), (HLEAF.out w3 HB3.out _ g.out).2, ⟨_, _, _, rfl⟩, ⟨_, _, _, rfl⟩⟩
  · have hcap : ¬ (cap : Int) = 1 := by omega
    have hcap2 : ((N + 1 : Nat) : Int) ≤ (cap : Int) := by omega
    go_enter Tryd.func23, Tryd.ntmps23
    go_wp2_with fail
    rw [← HW2.out]
    refine (HK.out _ _ (HTW.out _ _ bb)).mono ?_
    rintro e w3 ⟨u, rfl, hou, b3⟩
    obtain ⟨ua, uc, rfl⟩ := owns_len hou
    have r0 := (b3.block _ (by omega)).trans HQ0.out
    have r1 := (b3.block _ hw0).trans HQ1.out
    have hd3 : w3.cell? ⟨b, off, none⟩ = some (.string t0) := by rw [b3.cell (p := ⟨b, off, none⟩) hb2]; exact HD.out
    have hs3 := b3.size
    have hz3 : w.heap.size < w3.heap.size := by omega
    have hb3 : b < w3.heap.size := by omega
    have hz4 : w.heap.size + 1 < w3.heap.size := by omega
    have HB3 := hide b3
    have x0 := cells_at r0 0
    have x1 := cells_at r0 1
    have x2 := cells_at r0 2
    have y0 := cells_at r1 0
    have y1 := cells_at r1 1
    have y2 := cells_at r1 2
    have fy := frozen_at r1
    simp only [List.getElem?_toArray, List.getElem?_cons_succ, List.getElem?_cons_zero] at x0 x1 x2 y0 y1 y2
    clear r0 b3
    have hA : ¬ (t0.toList = wLink ∧ numsN 4 ps = true) := by rw [T0.out, bs_toL]; exact hA0
    have hB3 : ¬ ((t0.toList = wThing ∨ t0.toList = wFar) ∧ numsN 3 ps = true) := by rw [T0.out, bs_toL]; exact hB0
    clear hA0 hB0
    have hp0 : t0.toList = p0 := by rw [T0.out, bs_toL]
    have g := hide (show G = none by
      rw [G0.out, partF, if_neg (fun h => hA ⟨by rw [hp0]; exact h.1, h.2⟩), if_neg (fun h => hB3 ⟨by rw [hp0]; exact h.1, h.2⟩)])
    clear hp0
    obtain ⟨L, hL⟩ : ∃ L, L = zs.length := ⟨_, rfl⟩
    have hLB : B = true → L = ps.length := fun h => by rw [hL, hzB.out.1 h]; simp
    have hcase : B = false ∨ (B = true ∧ ¬ (L : Int) = 4 ∧ ¬ (L : Int) = 3) ∨ (B = true ∧ (t0.toList == [108, 105, 110, 107]) = false ∧ L = 4) ∨ (B = true ∧ (t0.toList == [116, 104, 105, 110, 103]) = false ∧ (t0.toList == [102, 97, 114]) = false ∧ L = 3) := by
      cases hBv : B with
      | false => exact .inl rfl
      | true =>
        have e := hLB hBv
        have nb : numsB ps = true := by rw [← HBB.out]; exact hBv
        by_cases h4 : L = 4
        · refine .inr (.inr (.inl ⟨rfl, ?_, h4⟩))
          have : ¬ t0.toList = wLink := fun h => hA ⟨h, by simp only [numsN, nb, Bool.and_true, decide_eq_true_eq]; omega⟩
          simpa using this
        · by_cases h3 : L = 3
          · refine .inr (.inr (.inr ⟨rfl, ?_, ?_, h3⟩))
            · have : ¬ t0.toList = wThing := fun h => hB3 ⟨.inl h, by simp only [numsN, nb, Bool.and_true, decide_eq_true_eq]; omega⟩
              simpa using this
            · have : ¬ t0.toList = wFar := fun h => hB3 ⟨.inr h, by simp only [numsN, nb, Bool.and_true, decide_eq_true_eq]; omega⟩
              simpa using this
          · exact .inr (.inl ⟨rfl, by omega, by omega⟩)
    rw [← hL]
    clear hL hLB hou hA hB3
    rcases hcase with rfl | ⟨rfl, h4, h3⟩ | ⟨rfl, hw1, rfl⟩ | ⟨rfl, hw1, hw2, rfl⟩
    all_goals
      go_wp2
    all_goals
      refine bodyPost_ret (results_cell_row_tmp14 rfl _ _ (w.heap.size + 1) 25 #[.int .i64 0, .slice none 0 0, .slice none 0 0] (0, 0) _ rfl (HLEAF.out w3 HB3.out _ g.out).1 Tryd.underlying25 rfl (by kernel_rfl)) rfl ?_
      exact ⟨_, _, _, by rw [g.out]; rfl, (fun r h => by rw [g.out] at h; cases h), (HLEAF.out w3 HB3.out _ g.out).2, ⟨_, _, _, rfl⟩, ⟨_, _, _, rfl⟩⟩
end Go.Proofs.YtpiookjdeopmgaaDoor
