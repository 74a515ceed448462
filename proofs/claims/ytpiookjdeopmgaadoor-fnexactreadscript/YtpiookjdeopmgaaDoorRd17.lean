/-
  spec.NetOk: its contract.
-/
import Derived.Test.YtpiookjdeopmgaaDoorRd16
namespace Go.Proofs.YtpiookjdeopmgaaDoor
open Go.RowKit

theorem aheadB_eq (p l : Lk) : aheadB p l = decide (ordL p l < 0) := by
  simp only [aheadB, ordL, orN, cmpN]
  grind

theorem thingB_eq (p l : Th) : thingB p l = decide (ordT p l < 0) := by
  simp only [thingB, ordT, orN, cmpN]
  grind

set_option linter.unusedSimpArgs false

set_option maxRecDepth 100000 in
set_option maxHeartbeats 20000000 in
theorem snetOk_any (v : Value) (x : NetD) (w : World) (hl : x.ls.length ≤ 1048576) (ht : x.ts.length ≤ 1048576) (hv : NetAt w v x w.heap.size) :
    Calls Tryd.prog 47 #[v] w fun e w' => e = .returned (.bool (netOkI x)) ∧ Below w.heap.size w w' := by
  obtain ⟨n, ls, ts⟩ := x
  obtain ⟨v1, v2, rfl, h1, h2⟩ := hv
  simp only [] at h1 h2 hl ht ⊢
  obtain ⟨a1, c1, rfl⟩ := h1.shape
  obtain ⟨a2, c2, rfl⟩ := h2.shape
  obtain ⟨q, hq⟩ : ∃ q, q = inB n 1 6 := ⟨_, rfl⟩
  have hin := in_any n 1 6
  rw [← hq] at hin
  have HIN := hide hin
  have HQ := hide hq
  have H1 := hide h1
  have H2 := hide h2
  clear hin hq h1 h2
  cases q
  · have hno : netOkI ⟨n, ls, ts⟩ = false := by unfold netOkI; simp only []; rw [← HQ.out]; simp
    rw [hno]
    clear hno
    go_enter Tryd.func47, Tryd.ntmps47
    go_wp2_with fail
    refine (HIN.out _).mono ?_
    rintro e w1 ⟨rfl, rfl⟩
    go_wp2
    go_ret
    exact ⟨rfl, (Below.refl _ _).alloc (Nat.le_refl _) _⟩
  by_cases h12 : ls.length ≤ 12
  case neg =>
    have hno : netOkI ⟨n, ls, ts⟩ = false := by unfold netOkI linksB; simp only []; rw [decide_eq_false h12]; simp
    rw [hno]
    have h12' : (12 : Int) < (ls.length : Int) := by omega
    clear hno
    go_enter Tryd.func47, Tryd.ntmps47
    go_wp2_with fail
    refine (HIN.out _).mono ?_
    rintro e w1 ⟨rfl, rfl⟩
    go_wp2
    go_ret
    exact ⟨rfl, (Below.refl _ _).alloc (Nat.le_refl _) _⟩
  by_cases h4 : ts.length ≤ 4
  case neg =>
    have hno : netOkI ⟨n, ls, ts⟩ = false := by unfold netOkI thingsB; simp only []; rw [decide_eq_false h4]; simp
    rw [hno]
    have h4' : (4 : Int) < (ts.length : Int) := by omega
    clear hno
    go_enter Tryd.func47, Tryd.ntmps47
    go_wp2_with fail
    refine (HIN.out _).mono ?_
    rintro e w1 ⟨rfl, rfl⟩
    go_wp2
    go_ret
    exact ⟨rfl, (Below.refl _ _).alloc (Nat.le_refl _) _⟩
  have h12' : ¬ (12 : Int) < (ls.length : Int) := by omega
  have h4' : ¬ (4 : Int) < (ts.length : Int) := by omega
  have hnet : netOkI ⟨n, ls, ts⟩ = ((allOk (linkOkB n) ls && ascB ordL ls) && (allOk (thOkB n) ts && ascB ordT ts)) := by
    unfold netOkI linksB thingsB; simp only []; rw [← HQ.out, decide_eq_true h12, decide_eq_true h4]; simp
  have HNET := hide hnet
  clear hnet HQ h12 h4
  go_enter Tryd.func47, Tryd.ntmps47
  go_wp2_with fail
  refine (HIN.out _).mono ?_
  rintro e w1 ⟨rfl, rfl⟩
  go_wp2
  go_loopw [3] (fun i wr => ∃ k : Nat, k ≤ ls.length ∧ i = .int .i64 k ∧ (∀ j, j < k → okAt (linkOkB n) ls j = true) ∧ (∀ j, j < k → ascAt ordL ls j = true) ∧ Below w.heap.size w wr ∧ wr.heap[w.heap.size]? = some (.cells #[.int .i64 n, .slice a1 ls.length c1, .slice a2 ts.length c2] 25)) (fun i _ => ls.length - (intOf i).toNat)
  case atStart => exact ⟨0, by omega, rfl, by omega, by omega, (Below.refl _ _).alloc (Nat.le_refl _) _, heap_alloc_new w _⟩
  case round =>
    obtain ⟨k, hk, rfl, hall, hasc, hnx, hx⟩ := hrel
    have hxl := lt_of_heap hx
    have g0 := cells_at hx 0
    have g1 := cells_at hx 1
    have g2 := cells_at hx 2
    simp at g0 g1 g2
    have HALL := hide hall
    have HASC := hide hasc
    have HX := hide hx
    clear hall hasc hx
    by_cases hlt : k < ls.length
    · obtain ⟨l, hl⟩ : ∃ l, ls[k]? = some l := ⟨ls[k], List.getElem?_eq_getElem hlt⟩
      obtain ⟨b, off, cap', hve, hbb, s0, s1, s2, s3⟩ := H1.out.cells k l hl
      cases hve
      rw [← hnx.cell (p := ⟨b, off + k * 4, none⟩) hbb] at s0
      rw [← hnx.cell (p := ⟨b, off + k * 4 + 1, none⟩) hbb] at s1
      rw [← hnx.cell (p := ⟨b, off + k * 4 + 2, none⟩) hbb] at s2
      rw [← hnx.cell (p := ⟨b, off + k * 4 + 3, none⟩) hbb] at s3
      have hzr := hnx.size
      have hbr : b < wr.heap.size := by omega
      have hki : (0 : Int) ≤ (k : Int) := by omega
      have hkj : (k : Int) < (ls.length : Int) := by omega
      obtain ⟨q1, hq1⟩ : ∃ q1, q1 = linkOkB n l := ⟨_, rfl⟩
      have hok := slinkOk_any n l
      rw [← hq1] at hok
      unfold lkV at hok
      have HOK := hide hok
      have HAT1 := hide ((okAt_eq (ok := linkOkB n) hl).trans hq1.symm)
      have HL := hide hl
      clear hok hq1 hl
      cases q1
      · have hf : netOkI ⟨n, ls, ts⟩ = false := by rw [HNET.out]; unfold allOk; rw [all_false hlt HAT1.out]; rfl
        have HF := hide hf
        clear hf
        go_wp2
        refine wp_region_start (S := (fun W => W.cell? ⟨w.heap.size, 0, none⟩ = some (.int .i64 n) ∧ W.cell? ⟨w.heap.size, 1, none⟩ = some (.slice (some ⟨b, off, none⟩) ls.length c1) ∧ W.cell? ⟨b, off + k * 4, none⟩ = some (.int .i64 l.a) ∧ W.cell? ⟨b, off + k * 4 + 1, none⟩ = some (.int .i64 l.b) ∧ W.cell? ⟨b, off + k * 4 + 2, none⟩ = some (.int .i64 l.c) ∧ W.cell? ⟨b, off + k * 4 + 3, none⟩ = some (.int .i64 l.r))) (by kernel_rfl) 28 rfl ⟨g0, g1, s0, s1, s2, s3⟩ (fun ops hops hHeld => ?_)
        refine take_do 0 (oi := ?_) (v := ?_) ?_ (by rw [hops.out]; kernel_rfl) ?_ ?_ ?_ (by assumption) ?_
        rotate_left 2
        · rw [hops.out]; simp only [List.getElem?_toArray, List.getElem?_cons_succ, List.getElem?_cons_zero]; rfl
        · rw [hops.out]; kernel_rfl
        · intro W hW; (try dsimp only at hW); go_simp <;> with_reducible rfl
        · exact fun _ _ _ h => h
        try simp only [Act.put, List.setIfInBounds_toArray, List.set_cons_zero, List.set_cons_succ]
        refine take_do 1 (oi := ?_) (v := ?_) ?_ (by rw [hops.out]; kernel_rfl) ?_ ?_ ?_ (by assumption) ?_
        rotate_left 2
        · rw [hops.out]; simp only [List.getElem?_toArray, List.getElem?_cons_succ, List.getElem?_cons_zero]; rfl
        · rw [hops.out]; kernel_rfl
        · intro W hW; (try dsimp only at hW); go_simp <;> with_reducible rfl
        · exact fun _ _ _ h => h
        try simp only [Act.put, List.setIfInBounds_toArray, List.set_cons_zero, List.set_cons_succ]
        refine take_do 2 (oi := ?_) (v := ?_) ?_ (by rw [hops.out]; kernel_rfl) ?_ ?_ ?_ (by assumption) ?_
        rotate_left 2
        · rw [hops.out]; simp only [List.getElem?_toArray, List.getElem?_cons_succ, List.getElem?_cons_zero]; rfl
        · rw [hops.out]; kernel_rfl
        · intro W hW; (try dsimp only at hW); go_simp <;> with_reducible rfl
        · exact fun _ _ _ h => h
        try simp only [Act.put, List.setIfInBounds_toArray, List.set_cons_zero, List.set_cons_succ]
        refine take_do 3 (oi := ?_) (v := ?_) ?_ (by rw [hops.out]; kernel_rfl) ?_ ?_ ?_ (by assumption) ?_
        rotate_left 2
        · rw [hops.out]; simp only [List.getElem?_toArray, List.getElem?_cons_succ, List.getElem?_cons_zero]; rfl
        · rw [hops.out]; kernel_rfl
        · intro W hW; (try dsimp only at hW); go_simp <;> with_reducible rfl
        · exact fun _ _ _ h => h
        try simp only [Act.put, List.setIfInBounds_toArray, List.set_cons_zero, List.set_cons_succ]
        refine take_do 4 (oi := ?_) (v := ?_) ?_ (by rw [hops.out]; kernel_rfl) ?_ ?_ ?_ (by assumption) ?_
        rotate_left 2
        · rw [hops.out]; simp only [List.getElem?_toArray, List.getElem?_cons_succ, List.getElem?_cons_zero]; rfl
        · rw [hops.out]; kernel_rfl
        · intro W hW; (try dsimp only at hW); go_simp <;> with_reducible rfl
        · exact fun _ _ _ h => h
        try simp only [Act.put, List.setIfInBounds_toArray, List.set_cons_zero, List.set_cons_succ]
        refine take_do 5 (oi := ?_) (v := ?_) ?_ (by rw [hops.out]; kernel_rfl) ?_ ?_ ?_ (by assumption) ?_
        rotate_left 2
        · rw [hops.out]; simp only [List.getElem?_toArray, List.getElem?_cons_succ, List.getElem?_cons_zero]; rfl
        · rw [hops.out]; kernel_rfl
        · intro W hW; (try dsimp only at hW); go_simp <;> with_reducible rfl
        · exact fun _ _ _ h => h
        try simp only [Act.put, List.setIfInBounds_toArray, List.set_cons_zero, List.set_cons_succ]
        refine take_do 6 (oi := ?_) (v := ?_) ?_ (by rw [hops.out]; kernel_rfl) ?_ ?_ ?_ (by assumption) ?_
        rotate_left 2
        · rw [hops.out]; simp only [List.getElem?_toArray, List.getElem?_cons_succ, List.getElem?_cons_zero]; rfl
        · rw [hops.out]; kernel_rfl
        · intro W hW; (try dsimp only at hW); go_simp <;> with_reducible rfl
        · exact fun _ _ _ h => h
        try simp only [Act.put, List.setIfInBounds_toArray, List.set_cons_zero, List.set_cons_succ]
        refine take_call 7 (oi := ?_) ?_ (by rw [hops.out]; kernel_rfl) ?_ ?_
        rotate_left 1
        · rw [hops.out]; simp only [List.getElem?_toArray, List.getElem?_cons_succ, List.getElem?_cons_zero]; rfl
        · rw [hops.out]; kernel_rfl
        intro K hK
        go_simp
        refine (HOK.out _).mono ?_
        rintro e w1 ⟨rfl, hbc⟩
        refine hK.out _ _ ?_ (fun hHeld2 => ?_)
        · refine ⟨?_, ?_, ?_, ?_, ?_, ?_⟩ <;> (rw [hbc.cell (by assumption)]; assumption)
        clear hK K
        try simp only [Act.put, List.setIfInBounds_toArray, List.set_cons_zero, List.set_cons_succ]
        refine take_do 8 (oi := ?_) (v := ?_) ?_ (by rw [hops.out]; kernel_rfl) ?_ ?_ ?_ (by assumption) ?_
        rotate_left 2
        · rw [hops.out]; simp only [List.getElem?_toArray, List.getElem?_cons_succ, List.getElem?_cons_zero]; rfl
        · rw [hops.out]; kernel_rfl
        · intro W hW; (try dsimp only at hW); go_simp <;> with_reducible rfl
        · exact fun _ _ _ h => h
        try simp only [Act.put, List.setIfInBounds_toArray, List.set_cons_zero, List.set_cons_succ]
        refine take_do 9 (oi := ?_) (v := ?_) ?_ (by rw [hops.out]; kernel_rfl) ?_ ?_ ?_ (by assumption) ?_
        rotate_left 2
        · rw [hops.out]; simp only [List.getElem?_toArray, List.getElem?_cons_succ, List.getElem?_cons_zero]; rfl
        · rw [hops.out]; kernel_rfl
        · intro W hW; (try dsimp only at hW); go_simp <;> with_reducible rfl
        · exact fun _ _ _ h => h
        try simp only [Act.put, List.setIfInBounds_toArray, List.set_cons_zero, List.set_cons_succ]
        refine take_skip 10 39 (by rw [hops.out]; kernel_rfl) (by rw [hops.out]; kernel_rfl) (by rw [hops.out]; kernel_rfl) (fun _ _ _ h => h) (by assumption) ?_
        try simp only [Act.put, List.setIfInBounds_toArray, List.set_cons_zero, List.set_cons_succ]
        refine take_skip 11 40 (by rw [hops.out]; kernel_rfl) (by rw [hops.out]; kernel_rfl) (by rw [hops.out]; kernel_rfl) (fun _ _ _ h => h) (by assumption) ?_
        try simp only [Act.put, List.setIfInBounds_toArray, List.set_cons_zero, List.set_cons_succ]
        refine take_skip 12 41 (by rw [hops.out]; kernel_rfl) (by rw [hops.out]; kernel_rfl) (by rw [hops.out]; kernel_rfl) (fun _ _ _ h => h) (by assumption) ?_
        try simp only [Act.put, List.setIfInBounds_toArray, List.set_cons_zero, List.set_cons_succ]
        refine take_skip 13 42 (by rw [hops.out]; kernel_rfl) (by rw [hops.out]; kernel_rfl) (by rw [hops.out]; kernel_rfl) (fun _ _ _ h => h) (by assumption) ?_
        try simp only [Act.put, List.setIfInBounds_toArray, List.set_cons_zero, List.set_cons_succ]
        refine take_skip 14 43 (by rw [hops.out]; kernel_rfl) (by rw [hops.out]; kernel_rfl) (by rw [hops.out]; kernel_rfl) (fun _ _ _ h => h) (by assumption) ?_
        try simp only [Act.put, List.setIfInBounds_toArray, List.set_cons_zero, List.set_cons_succ]
        refine take_skip 15 44 (by rw [hops.out]; kernel_rfl) (by rw [hops.out]; kernel_rfl) (by rw [hops.out]; kernel_rfl) (fun _ _ _ h => h) (by assumption) ?_
        try simp only [Act.put, List.setIfInBounds_toArray, List.set_cons_zero, List.set_cons_succ]
        refine take_skip 16 45 (by rw [hops.out]; kernel_rfl) (by rw [hops.out]; kernel_rfl) (by rw [hops.out]; kernel_rfl) (fun _ _ _ h => h) (by assumption) ?_
        try simp only [Act.put, List.setIfInBounds_toArray, List.set_cons_zero, List.set_cons_succ]
        refine take_skip 17 46 (by rw [hops.out]; kernel_rfl) (by rw [hops.out]; kernel_rfl) (by rw [hops.out]; kernel_rfl) (fun _ _ _ h => h) (by assumption) ?_
        try simp only [Act.put, List.setIfInBounds_toArray, List.set_cons_zero, List.set_cons_succ]
        refine take_skip 18 47 (by rw [hops.out]; kernel_rfl) (by rw [hops.out]; kernel_rfl) (by rw [hops.out]; kernel_rfl) (fun _ _ _ h => h) (by assumption) ?_
        try simp only [Act.put, List.setIfInBounds_toArray, List.set_cons_zero, List.set_cons_succ]
        refine take_skip 19 48 (by rw [hops.out]; kernel_rfl) (by rw [hops.out]; kernel_rfl) (by rw [hops.out]; kernel_rfl) (fun _ _ _ h => h) (by assumption) ?_
        try simp only [Act.put, List.setIfInBounds_toArray, List.set_cons_zero, List.set_cons_succ]
        refine take_skip 20 49 (by rw [hops.out]; kernel_rfl) (by rw [hops.out]; kernel_rfl) (by rw [hops.out]; kernel_rfl) (fun _ _ _ h => h) (by assumption) ?_
        try simp only [Act.put, List.setIfInBounds_toArray, List.set_cons_zero, List.set_cons_succ]
        refine take_skip 21 50 (by rw [hops.out]; kernel_rfl) (by rw [hops.out]; kernel_rfl) (by rw [hops.out]; kernel_rfl) (fun _ _ _ h => h) (by assumption) ?_
        try simp only [Act.put, List.setIfInBounds_toArray, List.set_cons_zero, List.set_cons_succ]
        refine take_skip 22 51 (by rw [hops.out]; kernel_rfl) (by rw [hops.out]; kernel_rfl) (by rw [hops.out]; kernel_rfl) (fun _ _ _ h => h) (by assumption) ?_
        try simp only [Act.put, List.setIfInBounds_toArray, List.set_cons_zero, List.set_cons_succ]
        refine take_skip 23 52 (by rw [hops.out]; kernel_rfl) (by rw [hops.out]; kernel_rfl) (by rw [hops.out]; kernel_rfl) (fun _ _ _ h => h) (by assumption) ?_
        try simp only [Act.put, List.setIfInBounds_toArray, List.set_cons_zero, List.set_cons_succ]
        refine take_skip 24 53 (by rw [hops.out]; kernel_rfl) (by rw [hops.out]; kernel_rfl) (by rw [hops.out]; kernel_rfl) (fun _ _ _ h => h) (by assumption) ?_
        try simp only [Act.put, List.setIfInBounds_toArray, List.set_cons_zero, List.set_cons_succ]
        refine take_skip 25 54 (by rw [hops.out]; kernel_rfl) (by rw [hops.out]; kernel_rfl) (by rw [hops.out]; kernel_rfl) (fun _ _ _ h => h) (by assumption) ?_
        try simp only [Act.put, List.setIfInBounds_toArray, List.set_cons_zero, List.set_cons_succ]
        refine take_skip 26 55 (by rw [hops.out]; kernel_rfl) (by rw [hops.out]; kernel_rfl) (by rw [hops.out]; kernel_rfl) (fun _ _ _ h => h) (by assumption) ?_
        try simp only [Act.put, List.setIfInBounds_toArray, List.set_cons_zero, List.set_cons_succ]
        refine take_do 27 (oi := ?_) (v := ?_) ?_ (by rw [hops.out]; kernel_rfl) ?_ ?_ ?_ (by assumption) ?_
        rotate_left 2
        · rw [hops.out]; simp only [List.getElem?_toArray, List.getElem?_cons_succ, List.getElem?_cons_zero]; rfl
        · rw [hops.out]; kernel_rfl
        · intro W hW; (try dsimp only at hW); go_simp <;> with_reducible rfl
        · exact fun _ _ _ h => h
        try simp only [Act.put, List.setIfInBounds_toArray, List.set_cons_zero, List.set_cons_succ]
        refine wpAnyH_done (by rw [hops.out]; kernel_rfl) ?_ _
        clear hops ops
        go_wp2
        go_ret
        exact ⟨ret_bool HF.out, hnx.drew.trans (hbc.mono hnx.size)⟩
      by_cases hk0 : k = 0
      · have hk1 : ¬ (0 : Int) < (k : Int) := by omega
        have hat2 : ascAt ordL ls k = true := by rw [hk0]; rfl
        have HAT2 := hide hat2
        clear hat2 hk0
        go_wp2
        refine wp_region_start (S := (fun W => W.cell? ⟨w.heap.size, 0, none⟩ = some (.int .i64 n) ∧ W.cell? ⟨w.heap.size, 1, none⟩ = some (.slice (some ⟨b, off, none⟩) ls.length c1) ∧ W.cell? ⟨b, off + k * 4, none⟩ = some (.int .i64 l.a) ∧ W.cell? ⟨b, off + k * 4 + 1, none⟩ = some (.int .i64 l.b) ∧ W.cell? ⟨b, off + k * 4 + 2, none⟩ = some (.int .i64 l.c) ∧ W.cell? ⟨b, off + k * 4 + 3, none⟩ = some (.int .i64 l.r))) (by kernel_rfl) 28 rfl ⟨g0, g1, s0, s1, s2, s3⟩ (fun ops hops hHeld => ?_)
        refine take_do 0 (oi := ?_) (v := ?_) ?_ (by rw [hops.out]; kernel_rfl) ?_ ?_ ?_ (by assumption) ?_
        rotate_left 2
        · rw [hops.out]; simp only [List.getElem?_toArray, List.getElem?_cons_succ, List.getElem?_cons_zero]; rfl
        · rw [hops.out]; kernel_rfl
        · intro W hW; (try dsimp only at hW); go_simp <;> with_reducible rfl
        · exact fun _ _ _ h => h
        try simp only [Act.put, List.setIfInBounds_toArray, List.set_cons_zero, List.set_cons_succ]
        refine take_do 1 (oi := ?_) (v := ?_) ?_ (by rw [hops.out]; kernel_rfl) ?_ ?_ ?_ (by assumption) ?_
        rotate_left 2
        · rw [hops.out]; simp only [List.getElem?_toArray, List.getElem?_cons_succ, List.getElem?_cons_zero]; rfl
        · rw [hops.out]; kernel_rfl
        · intro W hW; (try dsimp only at hW); go_simp <;> with_reducible rfl
        · exact fun _ _ _ h => h
        try simp only [Act.put, List.setIfInBounds_toArray, List.set_cons_zero, List.set_cons_succ]
        refine take_do 2 (oi := ?_) (v := ?_) ?_ (by rw [hops.out]; kernel_rfl) ?_ ?_ ?_ (by assumption) ?_
        rotate_left 2
        · rw [hops.out]; simp only [List.getElem?_toArray, List.getElem?_cons_succ, List.getElem?_cons_zero]; rfl
        · rw [hops.out]; kernel_rfl
        · intro W hW; (try dsimp only at hW); go_simp <;> with_reducible rfl
        · exact fun _ _ _ h => h
        try simp only [Act.put, List.setIfInBounds_toArray, List.set_cons_zero, List.set_cons_succ]
        refine take_do 3 (oi := ?_) (v := ?_) ?_ (by rw [hops.out]; kernel_rfl) ?_ ?_ ?_ (by assumption) ?_
        rotate_left 2
        · rw [hops.out]; simp only [List.getElem?_toArray, List.getElem?_cons_succ, List.getElem?_cons_zero]; rfl
        · rw [hops.out]; kernel_rfl
        · intro W hW; (try dsimp only at hW); go_simp <;> with_reducible rfl
        · exact fun _ _ _ h => h
        try simp only [Act.put, List.setIfInBounds_toArray, List.set_cons_zero, List.set_cons_succ]
        refine take_do 4 (oi := ?_) (v := ?_) ?_ (by rw [hops.out]; kernel_rfl) ?_ ?_ ?_ (by assumption) ?_
        rotate_left 2
        · rw [hops.out]; simp only [List.getElem?_toArray, List.getElem?_cons_succ, List.getElem?_cons_zero]; rfl
        · rw [hops.out]; kernel_rfl
        · intro W hW; (try dsimp only at hW); go_simp <;> with_reducible rfl
        · exact fun _ _ _ h => h
        try simp only [Act.put, List.setIfInBounds_toArray, List.set_cons_zero, List.set_cons_succ]
        refine take_do 5 (oi := ?_) (v := ?_) ?_ (by rw [hops.out]; kernel_rfl) ?_ ?_ ?_ (by assumption) ?_
        rotate_left 2
        · rw [hops.out]; simp only [List.getElem?_toArray, List.getElem?_cons_succ, List.getElem?_cons_zero]; rfl
        · rw [hops.out]; kernel_rfl
        · intro W hW; (try dsimp only at hW); go_simp <;> with_reducible rfl
        · exact fun _ _ _ h => h
        try simp only [Act.put, List.setIfInBounds_toArray, List.set_cons_zero, List.set_cons_succ]
        refine take_do 6 (oi := ?_) (v := ?_) ?_ (by rw [hops.out]; kernel_rfl) ?_ ?_ ?_ (by assumption) ?_
        rotate_left 2
        · rw [hops.out]; simp only [List.getElem?_toArray, List.getElem?_cons_succ, List.getElem?_cons_zero]; rfl
        · rw [hops.out]; kernel_rfl
        · intro W hW; (try dsimp only at hW); go_simp <;> with_reducible rfl
        · exact fun _ _ _ h => h
        try simp only [Act.put, List.setIfInBounds_toArray, List.set_cons_zero, List.set_cons_succ]
        refine take_call 7 (oi := ?_) ?_ (by rw [hops.out]; kernel_rfl) ?_ ?_
        rotate_left 1
        · rw [hops.out]; simp only [List.getElem?_toArray, List.getElem?_cons_succ, List.getElem?_cons_zero]; rfl
        · rw [hops.out]; kernel_rfl
        intro K hK
        go_simp
        refine (HOK.out _).mono ?_
        rintro e w1 ⟨rfl, hbc⟩
        refine hK.out _ _ ?_ (fun hHeld2 => ?_)
        · refine ⟨?_, ?_, ?_, ?_, ?_, ?_⟩ <;> (rw [hbc.cell (by assumption)]; assumption)
        clear hK K
        try simp only [Act.put, List.setIfInBounds_toArray, List.set_cons_zero, List.set_cons_succ]
        refine take_do 8 (oi := ?_) (v := ?_) ?_ (by rw [hops.out]; kernel_rfl) ?_ ?_ ?_ (by assumption) ?_
        rotate_left 2
        · rw [hops.out]; simp only [List.getElem?_toArray, List.getElem?_cons_succ, List.getElem?_cons_zero]; rfl
        · rw [hops.out]; kernel_rfl
        · intro W hW; (try dsimp only at hW); go_simp <;> with_reducible rfl
        · exact fun _ _ _ h => h
        try simp only [Act.put, List.setIfInBounds_toArray, List.set_cons_zero, List.set_cons_succ]
        refine take_do 9 (oi := ?_) (v := ?_) ?_ (by rw [hops.out]; kernel_rfl) ?_ ?_ ?_ (by assumption) ?_
        rotate_left 2
        · rw [hops.out]; simp only [List.getElem?_toArray, List.getElem?_cons_succ, List.getElem?_cons_zero]; rfl
        · rw [hops.out]; kernel_rfl
        · intro W hW; (try dsimp only at hW); go_simp <;> with_reducible rfl
        · exact fun _ _ _ h => h
        try simp only [Act.put, List.setIfInBounds_toArray, List.set_cons_zero, List.set_cons_succ]
        refine take_do 10 (oi := ?_) (v := ?_) ?_ (by rw [hops.out]; kernel_rfl) ?_ ?_ ?_ (by assumption) ?_
        rotate_left 2
        · rw [hops.out]; simp only [List.getElem?_toArray, List.getElem?_cons_succ, List.getElem?_cons_zero]; rfl
        · rw [hops.out]; kernel_rfl
        · intro W hW; (try dsimp only at hW); go_simp <;> with_reducible rfl
        · exact fun _ _ _ h => h
        try simp only [Act.put, List.setIfInBounds_toArray, List.set_cons_zero, List.set_cons_succ]
        refine take_do 11 (oi := ?_) (v := .bool false) ?_ (by rw [hops.out]; kernel_rfl) ?_ ?_ ?_ (by assumption) ?_
        rotate_left 1
        · rw [hops.out]; simp only [List.getElem?_toArray, List.getElem?_cons_succ, List.getElem?_cons_zero]; rfl
        · rw [hops.out]; kernel_rfl
        · intro W hW; (try dsimp only at hW); go_simp <;> (first | with_reducible rfl | (simp; omega) | omega)
        · exact fun _ _ _ h => h
        try simp only [Act.put, List.setIfInBounds_toArray, List.set_cons_zero, List.set_cons_succ]
        refine take_do 12 (oi := ?_) (v := ?_) ?_ (by rw [hops.out]; kernel_rfl) ?_ ?_ ?_ (by assumption) ?_
        rotate_left 2
        · rw [hops.out]; simp only [List.getElem?_toArray, List.getElem?_cons_succ, List.getElem?_cons_zero]; rfl
        · rw [hops.out]; kernel_rfl
        · intro W hW; (try dsimp only at hW); go_simp <;> with_reducible rfl
        · exact fun _ _ _ h => h
        try simp only [Act.put, List.setIfInBounds_toArray, List.set_cons_zero, List.set_cons_succ]
        refine take_skip 13 42 (by rw [hops.out]; kernel_rfl) (by rw [hops.out]; kernel_rfl) (by rw [hops.out]; kernel_rfl) (fun _ _ _ h => h) (by assumption) ?_
        try simp only [Act.put, List.setIfInBounds_toArray, List.set_cons_zero, List.set_cons_succ]
        refine take_skip 14 43 (by rw [hops.out]; kernel_rfl) (by rw [hops.out]; kernel_rfl) (by rw [hops.out]; kernel_rfl) (fun _ _ _ h => h) (by assumption) ?_
        try simp only [Act.put, List.setIfInBounds_toArray, List.set_cons_zero, List.set_cons_succ]
        refine take_skip 15 44 (by rw [hops.out]; kernel_rfl) (by rw [hops.out]; kernel_rfl) (by rw [hops.out]; kernel_rfl) (fun _ _ _ h => h) (by assumption) ?_
        try simp only [Act.put, List.setIfInBounds_toArray, List.set_cons_zero, List.set_cons_succ]
        refine take_skip 16 45 (by rw [hops.out]; kernel_rfl) (by rw [hops.out]; kernel_rfl) (by rw [hops.out]; kernel_rfl) (fun _ _ _ h => h) (by assumption) ?_
        try simp only [Act.put, List.setIfInBounds_toArray, List.set_cons_zero, List.set_cons_succ]
        refine take_skip 17 46 (by rw [hops.out]; kernel_rfl) (by rw [hops.out]; kernel_rfl) (by rw [hops.out]; kernel_rfl) (fun _ _ _ h => h) (by assumption) ?_
        try simp only [Act.put, List.setIfInBounds_toArray, List.set_cons_zero, List.set_cons_succ]
        refine take_skip 18 47 (by rw [hops.out]; kernel_rfl) (by rw [hops.out]; kernel_rfl) (by rw [hops.out]; kernel_rfl) (fun _ _ _ h => h) (by assumption) ?_
        try simp only [Act.put, List.setIfInBounds_toArray, List.set_cons_zero, List.set_cons_succ]
        refine take_skip 19 48 (by rw [hops.out]; kernel_rfl) (by rw [hops.out]; kernel_rfl) (by rw [hops.out]; kernel_rfl) (fun _ _ _ h => h) (by assumption) ?_
        try simp only [Act.put, List.setIfInBounds_toArray, List.set_cons_zero, List.set_cons_succ]
        refine take_skip 20 49 (by rw [hops.out]; kernel_rfl) (by rw [hops.out]; kernel_rfl) (by rw [hops.out]; kernel_rfl) (fun _ _ _ h => h) (by assumption) ?_
        try simp only [Act.put, List.setIfInBounds_toArray, List.set_cons_zero, List.set_cons_succ]
        refine take_skip 21 50 (by rw [hops.out]; kernel_rfl) (by rw [hops.out]; kernel_rfl) (by rw [hops.out]; kernel_rfl) (fun _ _ _ h => h) (by assumption) ?_
        try simp only [Act.put, List.setIfInBounds_toArray, List.set_cons_zero, List.set_cons_succ]
        refine take_skip 22 51 (by rw [hops.out]; kernel_rfl) (by rw [hops.out]; kernel_rfl) (by rw [hops.out]; kernel_rfl) (fun _ _ _ h => h) (by assumption) ?_
        try simp only [Act.put, List.setIfInBounds_toArray, List.set_cons_zero, List.set_cons_succ]
        refine take_skip 23 52 (by rw [hops.out]; kernel_rfl) (by rw [hops.out]; kernel_rfl) (by rw [hops.out]; kernel_rfl) (fun _ _ _ h => h) (by assumption) ?_
        try simp only [Act.put, List.setIfInBounds_toArray, List.set_cons_zero, List.set_cons_succ]
        refine take_skip 24 53 (by rw [hops.out]; kernel_rfl) (by rw [hops.out]; kernel_rfl) (by rw [hops.out]; kernel_rfl) (fun _ _ _ h => h) (by assumption) ?_
        try simp only [Act.put, List.setIfInBounds_toArray, List.set_cons_zero, List.set_cons_succ]
        refine take_skip 25 54 (by rw [hops.out]; kernel_rfl) (by rw [hops.out]; kernel_rfl) (by rw [hops.out]; kernel_rfl) (fun _ _ _ h => h) (by assumption) ?_
        try simp only [Act.put, List.setIfInBounds_toArray, List.set_cons_zero, List.set_cons_succ]
        refine take_do 26 (oi := ?_) (v := ?_) ?_ (by rw [hops.out]; kernel_rfl) ?_ ?_ ?_ (by assumption) ?_
        rotate_left 2
        · rw [hops.out]; simp only [List.getElem?_toArray, List.getElem?_cons_succ, List.getElem?_cons_zero]; rfl
        · rw [hops.out]; kernel_rfl
        · intro W hW; (try dsimp only at hW); go_simp <;> with_reducible rfl
        · exact fun _ _ _ h => h
        try simp only [Act.put, List.setIfInBounds_toArray, List.set_cons_zero, List.set_cons_succ]
        refine take_do 27 (oi := ?_) (v := ?_) ?_ (by rw [hops.out]; kernel_rfl) ?_ ?_ ?_ (by assumption) ?_
        rotate_left 2
        · rw [hops.out]; simp only [List.getElem?_toArray, List.getElem?_cons_succ, List.getElem?_cons_zero]; rfl
        · rw [hops.out]; kernel_rfl
        · intro W hW; (try dsimp only at hW); go_simp <;> with_reducible rfl
        · exact fun _ _ _ h => h
        try simp only [Act.put, List.setIfInBounds_toArray, List.set_cons_zero, List.set_cons_succ]
        refine wpAnyH_done (by rw [hops.out]; kernel_rfl) ?_ _
        clear hops ops
        have B1 : Below w.heap.size w w1 := hnx.drew.trans (hbc.mono hnx.size)
        have hx1 : w1.heap[w.heap.size]? = some (.cells #[.int .i64 n, .slice (some ⟨b, off, none⟩) ls.length c1, .slice a2 ts.length c2] 25) := by rw [hbc.block _ hxl]; exact HX.out
        have HX1 := hide hx1
        clear hx1
        go_wp2
        exact ⟨⟨k + 1, by omega, by go_num, next_true HALL.out HAT1.out, next_true HASC.out HAT2.out, B1, HX1.out⟩, by simp [intOf]; omega⟩
      · obtain ⟨j, hj⟩ : ∃ j, k = j + 1 := ⟨k - 1, by omega⟩
        obtain ⟨p, hp⟩ : ∃ p, ls[j]? = some p := ⟨ls[j], List.getElem?_eq_getElem (by omega)⟩
        obtain ⟨b', off', cap2, hve2, hbb2, t0, t1, t2, t3⟩ := H1.out.cells j p hp
        cases hve2
        rw [← hnx.cell (p := ⟨b, off + j * 4, none⟩) hbb] at t0
        rw [← hnx.cell (p := ⟨b, off + j * 4 + 1, none⟩) hbb] at t1
        rw [← hnx.cell (p := ⟨b, off + j * 4 + 2, none⟩) hbb] at t2
        rw [← hnx.cell (p := ⟨b, off + j * 4 + 3, none⟩) hbb] at t3
        obtain ⟨q2, hq2⟩ : ∃ q2, q2 = aheadB p l := ⟨_, rfl⟩
        have hah := sahead_any p l
        rw [← hq2] at hah
        unfold lkV at hah
        have HAH := hide hah
        have hat2 : ascAt ordL ls k = q2 := by rw [hj, hq2, aheadB_eq]; exact ascAt_eq hp (by rw [← hj]; exact HL.out)
        have HAT2 := hide hat2
        have hj1 : (k : Int) - 1 = (j : Int) := by omega
        have hj2 : (0 : Int) ≤ (j : Int) := by omega
        have hj3 : (j : Int) < (ls.length : Int) := by omega
        have hj4 : (0 : Int) < (k : Int) := by omega
        have hj5 : IntKind.i64.wrap (j : Int) = (j : Int) := wrap_fit _ (by omega) (by omega)
        clear hah hq2 hp hat2 hj hk0 hbb2
        go_wp2
        refine wp_region_start (S := (fun W => W.cell? ⟨w.heap.size, 0, none⟩ = some (.int .i64 n) ∧ W.cell? ⟨w.heap.size, 1, none⟩ = some (.slice (some ⟨b, off, none⟩) ls.length c1) ∧ W.cell? ⟨b, off + k * 4, none⟩ = some (.int .i64 l.a) ∧ W.cell? ⟨b, off + k * 4 + 1, none⟩ = some (.int .i64 l.b) ∧ W.cell? ⟨b, off + k * 4 + 2, none⟩ = some (.int .i64 l.c) ∧ W.cell? ⟨b, off + k * 4 + 3, none⟩ = some (.int .i64 l.r) ∧ W.cell? ⟨b, off + j * 4, none⟩ = some (.int .i64 p.a) ∧ W.cell? ⟨b, off + j * 4 + 1, none⟩ = some (.int .i64 p.b) ∧ W.cell? ⟨b, off + j * 4 + 2, none⟩ = some (.int .i64 p.c) ∧ W.cell? ⟨b, off + j * 4 + 3, none⟩ = some (.int .i64 p.r))) (by kernel_rfl) 28 rfl ⟨g0, g1, s0, s1, s2, s3, t0, t1, t2, t3⟩ (fun ops hops hHeld => ?_)
        refine take_do 0 (oi := ?_) (v := ?_) ?_ (by rw [hops.out]; kernel_rfl) ?_ ?_ ?_ (by assumption) ?_
        rotate_left 2
        · rw [hops.out]; simp only [List.getElem?_toArray, List.getElem?_cons_succ, List.getElem?_cons_zero]; rfl
        · rw [hops.out]; kernel_rfl
        · intro W hW; (try dsimp only at hW); go_simp <;> with_reducible rfl
        · exact fun _ _ _ h => h
        try simp only [Act.put, List.setIfInBounds_toArray, List.set_cons_zero, List.set_cons_succ]
        refine take_do 1 (oi := ?_) (v := ?_) ?_ (by rw [hops.out]; kernel_rfl) ?_ ?_ ?_ (by assumption) ?_
        rotate_left 2
        · rw [hops.out]; simp only [List.getElem?_toArray, List.getElem?_cons_succ, List.getElem?_cons_zero]; rfl
        · rw [hops.out]; kernel_rfl
        · intro W hW; (try dsimp only at hW); go_simp <;> with_reducible rfl
        · exact fun _ _ _ h => h
        try simp only [Act.put, List.setIfInBounds_toArray, List.set_cons_zero, List.set_cons_succ]
        refine take_do 2 (oi := ?_) (v := ?_) ?_ (by rw [hops.out]; kernel_rfl) ?_ ?_ ?_ (by assumption) ?_
        rotate_left 2
        · rw [hops.out]; simp only [List.getElem?_toArray, List.getElem?_cons_succ, List.getElem?_cons_zero]; rfl
        · rw [hops.out]; kernel_rfl
        · intro W hW; (try dsimp only at hW); go_simp <;> with_reducible rfl
        · exact fun _ _ _ h => h
        try simp only [Act.put, List.setIfInBounds_toArray, List.set_cons_zero, List.set_cons_succ]
        refine take_do 3 (oi := ?_) (v := ?_) ?_ (by rw [hops.out]; kernel_rfl) ?_ ?_ ?_ (by assumption) ?_
        rotate_left 2
        · rw [hops.out]; simp only [List.getElem?_toArray, List.getElem?_cons_succ, List.getElem?_cons_zero]; rfl
        · rw [hops.out]; kernel_rfl
        · intro W hW; (try dsimp only at hW); go_simp <;> with_reducible rfl
        · exact fun _ _ _ h => h
        try simp only [Act.put, List.setIfInBounds_toArray, List.set_cons_zero, List.set_cons_succ]
        refine take_do 4 (oi := ?_) (v := ?_) ?_ (by rw [hops.out]; kernel_rfl) ?_ ?_ ?_ (by assumption) ?_
        rotate_left 2
        · rw [hops.out]; simp only [List.getElem?_toArray, List.getElem?_cons_succ, List.getElem?_cons_zero]; rfl
        · rw [hops.out]; kernel_rfl
        · intro W hW; (try dsimp only at hW); go_simp <;> with_reducible rfl
        · exact fun _ _ _ h => h
        try simp only [Act.put, List.setIfInBounds_toArray, List.set_cons_zero, List.set_cons_succ]
        refine take_do 5 (oi := ?_) (v := ?_) ?_ (by rw [hops.out]; kernel_rfl) ?_ ?_ ?_ (by assumption) ?_
        rotate_left 2
        · rw [hops.out]; simp only [List.getElem?_toArray, List.getElem?_cons_succ, List.getElem?_cons_zero]; rfl
        · rw [hops.out]; kernel_rfl
        · intro W hW; (try dsimp only at hW); go_simp <;> with_reducible rfl
        · exact fun _ _ _ h => h
        try simp only [Act.put, List.setIfInBounds_toArray, List.set_cons_zero, List.set_cons_succ]
        refine take_do 6 (oi := ?_) (v := ?_) ?_ (by rw [hops.out]; kernel_rfl) ?_ ?_ ?_ (by assumption) ?_
        rotate_left 2
        · rw [hops.out]; simp only [List.getElem?_toArray, List.getElem?_cons_succ, List.getElem?_cons_zero]; rfl
        · rw [hops.out]; kernel_rfl
        · intro W hW; (try dsimp only at hW); go_simp <;> with_reducible rfl
        · exact fun _ _ _ h => h
        try simp only [Act.put, List.setIfInBounds_toArray, List.set_cons_zero, List.set_cons_succ]
        refine take_call 7 (oi := ?_) ?_ (by rw [hops.out]; kernel_rfl) ?_ ?_
        rotate_left 1
        · rw [hops.out]; simp only [List.getElem?_toArray, List.getElem?_cons_succ, List.getElem?_cons_zero]; rfl
        · rw [hops.out]; kernel_rfl
        intro K hK
        go_simp
        refine (HOK.out _).mono ?_
        rintro e w1 ⟨rfl, hbc⟩
        refine hK.out _ _ ?_ (fun hHeld2 => ?_)
        · refine ⟨?_, ?_, ?_, ?_, ?_, ?_, ?_, ?_, ?_, ?_⟩ <;> (rw [hbc.cell (by assumption)]; assumption)
        clear hK K
        try simp only [Act.put, List.setIfInBounds_toArray, List.set_cons_zero, List.set_cons_succ]
        refine take_do 8 (oi := ?_) (v := ?_) ?_ (by rw [hops.out]; kernel_rfl) ?_ ?_ ?_ (by assumption) ?_
        rotate_left 2
        · rw [hops.out]; simp only [List.getElem?_toArray, List.getElem?_cons_succ, List.getElem?_cons_zero]; rfl
        · rw [hops.out]; kernel_rfl
        · intro W hW; (try dsimp only at hW); go_simp <;> with_reducible rfl
        · exact fun _ _ _ h => h
        try simp only [Act.put, List.setIfInBounds_toArray, List.set_cons_zero, List.set_cons_succ]
        refine take_do 9 (oi := ?_) (v := ?_) ?_ (by rw [hops.out]; kernel_rfl) ?_ ?_ ?_ (by assumption) ?_
        rotate_left 2
        · rw [hops.out]; simp only [List.getElem?_toArray, List.getElem?_cons_succ, List.getElem?_cons_zero]; rfl
        · rw [hops.out]; kernel_rfl
        · intro W hW; (try dsimp only at hW); go_simp <;> with_reducible rfl
        · exact fun _ _ _ h => h
        try simp only [Act.put, List.setIfInBounds_toArray, List.set_cons_zero, List.set_cons_succ]
        refine take_do 10 (oi := ?_) (v := ?_) ?_ (by rw [hops.out]; kernel_rfl) ?_ ?_ ?_ (by assumption) ?_
        rotate_left 2
        · rw [hops.out]; simp only [List.getElem?_toArray, List.getElem?_cons_succ, List.getElem?_cons_zero]; rfl
        · rw [hops.out]; kernel_rfl
        · intro W hW; (try dsimp only at hW); go_simp <;> with_reducible rfl
        · exact fun _ _ _ h => h
        try simp only [Act.put, List.setIfInBounds_toArray, List.set_cons_zero, List.set_cons_succ]
        refine take_do 11 (oi := ?_) (v := .bool true) ?_ (by rw [hops.out]; kernel_rfl) ?_ ?_ ?_ (by assumption) ?_
        rotate_left 1
        · rw [hops.out]; simp only [List.getElem?_toArray, List.getElem?_cons_succ, List.getElem?_cons_zero]; rfl
        · rw [hops.out]; kernel_rfl
        · intro W hW; (try dsimp only at hW); go_simp <;> (first | with_reducible rfl | (simp; omega) | omega)
        · exact fun _ _ _ h => h
        try simp only [Act.put, List.setIfInBounds_toArray, List.set_cons_zero, List.set_cons_succ]
        refine take_do 12 (oi := ?_) (v := ?_) ?_ (by rw [hops.out]; kernel_rfl) ?_ ?_ ?_ (by assumption) ?_
        rotate_left 2
        · rw [hops.out]; simp only [List.getElem?_toArray, List.getElem?_cons_succ, List.getElem?_cons_zero]; rfl
        · rw [hops.out]; kernel_rfl
        · intro W hW; (try dsimp only at hW); go_simp <;> with_reducible rfl
        · exact fun _ _ _ h => h
        try simp only [Act.put, List.setIfInBounds_toArray, List.set_cons_zero, List.set_cons_succ]
        refine take_do 13 (oi := ?_) (v := ?_) ?_ (by rw [hops.out]; kernel_rfl) ?_ ?_ ?_ (by assumption) ?_
        rotate_left 2
        · rw [hops.out]; simp only [List.getElem?_toArray, List.getElem?_cons_succ, List.getElem?_cons_zero]; rfl
        · rw [hops.out]; kernel_rfl
        · intro W hW; (try dsimp only at hW); go_simp <;> with_reducible rfl
        · exact fun _ _ _ h => h
        try simp only [Act.put, List.setIfInBounds_toArray, List.set_cons_zero, List.set_cons_succ]
        refine take_do 14 (oi := ?_) (v := ?_) ?_ (by rw [hops.out]; kernel_rfl) ?_ ?_ ?_ (by assumption) ?_
        rotate_left 2
        · rw [hops.out]; simp only [List.getElem?_toArray, List.getElem?_cons_succ, List.getElem?_cons_zero]; rfl
        · rw [hops.out]; kernel_rfl
        · intro W hW; (try dsimp only at hW); go_simp <;> with_reducible rfl
        · exact fun _ _ _ h => h
        try simp only [Act.put, List.setIfInBounds_toArray, List.set_cons_zero, List.set_cons_succ]
        refine take_do 15 (oi := ?_) (v := ?_) ?_ (by rw [hops.out]; kernel_rfl) ?_ ?_ ?_ (by assumption) ?_
        rotate_left 2
        · rw [hops.out]; simp only [List.getElem?_toArray, List.getElem?_cons_succ, List.getElem?_cons_zero]; rfl
        · rw [hops.out]; kernel_rfl
        · intro W hW; (try dsimp only at hW); go_simp <;> with_reducible rfl
        · exact fun _ _ _ h => h
        try simp only [Act.put, List.setIfInBounds_toArray, List.set_cons_zero, List.set_cons_succ]
        refine take_do 16 (oi := ?_) (v := ?_) ?_ (by rw [hops.out]; kernel_rfl) ?_ ?_ ?_ (by assumption) ?_
        rotate_left 2
        · rw [hops.out]; simp only [List.getElem?_toArray, List.getElem?_cons_succ, List.getElem?_cons_zero]; rfl
        · rw [hops.out]; kernel_rfl
        · intro W hW; (try dsimp only at hW); go_simp <;> with_reducible rfl
        · exact fun _ _ _ h => h
        try simp only [Act.put, List.setIfInBounds_toArray, List.set_cons_zero, List.set_cons_succ]
        refine take_do 17 (oi := ?_) (v := ?_) ?_ (by rw [hops.out]; kernel_rfl) ?_ ?_ ?_ (by assumption) ?_
        rotate_left 2
        · rw [hops.out]; simp only [List.getElem?_toArray, List.getElem?_cons_succ, List.getElem?_cons_zero]; rfl
        · rw [hops.out]; kernel_rfl
        · intro W hW; (try dsimp only at hW); go_simp <;> with_reducible rfl
        · exact fun _ _ _ h => h
        try simp only [Act.put, List.setIfInBounds_toArray, List.set_cons_zero, List.set_cons_succ]
        refine take_do 18 (oi := ?_) (v := ?_) ?_ (by rw [hops.out]; kernel_rfl) ?_ ?_ ?_ (by assumption) ?_
        rotate_left 2
        · rw [hops.out]; simp only [List.getElem?_toArray, List.getElem?_cons_succ, List.getElem?_cons_zero]; rfl
        · rw [hops.out]; kernel_rfl
        · intro W hW; (try dsimp only at hW); go_simp <;> with_reducible rfl
        · exact fun _ _ _ h => h
        try simp only [Act.put, List.setIfInBounds_toArray, List.set_cons_zero, List.set_cons_succ]
        refine take_do 19 (oi := ?_) (v := ?_) ?_ (by rw [hops.out]; kernel_rfl) ?_ ?_ ?_ (by assumption) ?_
        rotate_left 2
        · rw [hops.out]; simp only [List.getElem?_toArray, List.getElem?_cons_succ, List.getElem?_cons_zero]; rfl
        · rw [hops.out]; kernel_rfl
        · intro W hW; (try dsimp only at hW); go_simp <;> with_reducible rfl
        · exact fun _ _ _ h => h
        try simp only [Act.put, List.setIfInBounds_toArray, List.set_cons_zero, List.set_cons_succ]
        refine take_do 20 (oi := ?_) (v := ?_) ?_ (by rw [hops.out]; kernel_rfl) ?_ ?_ ?_ (by assumption) ?_
        rotate_left 2
        · rw [hops.out]; simp only [List.getElem?_toArray, List.getElem?_cons_succ, List.getElem?_cons_zero]; rfl
        · rw [hops.out]; kernel_rfl
        · intro W hW; (try dsimp only at hW); go_simp <;> with_reducible rfl
        · exact fun _ _ _ h => h
        try simp only [Act.put, List.setIfInBounds_toArray, List.set_cons_zero, List.set_cons_succ]
        refine take_do 21 (oi := ?_) (v := ?_) ?_ (by rw [hops.out]; kernel_rfl) ?_ ?_ ?_ (by assumption) ?_
        rotate_left 2
        · rw [hops.out]; simp only [List.getElem?_toArray, List.getElem?_cons_succ, List.getElem?_cons_zero]; rfl
        · rw [hops.out]; kernel_rfl
        · intro W hW; (try dsimp only at hW); go_simp <;> with_reducible rfl
        · exact fun _ _ _ h => h
        try simp only [Act.put, List.setIfInBounds_toArray, List.set_cons_zero, List.set_cons_succ]
        refine take_do 22 (oi := ?_) (v := ?_) ?_ (by rw [hops.out]; kernel_rfl) ?_ ?_ ?_ (by assumption) ?_
        rotate_left 2
        · rw [hops.out]; simp only [List.getElem?_toArray, List.getElem?_cons_succ, List.getElem?_cons_zero]; rfl
        · rw [hops.out]; kernel_rfl
        · intro W hW; (try dsimp only at hW); go_simp <;> with_reducible rfl
        · exact fun _ _ _ h => h
        try simp only [Act.put, List.setIfInBounds_toArray, List.set_cons_zero, List.set_cons_succ]
        refine take_do 23 (oi := ?_) (v := ?_) ?_ (by rw [hops.out]; kernel_rfl) ?_ ?_ ?_ (by assumption) ?_
        rotate_left 2
        · rw [hops.out]; simp only [List.getElem?_toArray, List.getElem?_cons_succ, List.getElem?_cons_zero]; rfl
        · rw [hops.out]; kernel_rfl
        · intro W hW; (try dsimp only at hW); go_simp <;> with_reducible rfl
        · exact fun _ _ _ h => h
        try simp only [Act.put, List.setIfInBounds_toArray, List.set_cons_zero, List.set_cons_succ]
        refine take_call 24 (oi := ?_) ?_ (by rw [hops.out]; kernel_rfl) ?_ ?_
        rotate_left 1
        · rw [hops.out]; simp only [List.getElem?_toArray, List.getElem?_cons_succ, List.getElem?_cons_zero]; rfl
        · rw [hops.out]; kernel_rfl
        intro K hK
        go_simp
        refine (HAH.out _).mono ?_
        rintro e w2 ⟨rfl, hbc2⟩
        refine hK.out _ _ ?_ (fun hHeld3 => ?_)
        · refine ⟨?_, ?_, ?_, ?_, ?_, ?_, ?_, ?_, ?_, ?_⟩ <;> (rw [hbc2.cell (Nat.lt_of_lt_of_le (by assumption) hbc.size), hbc.cell (by assumption)]; assumption)
        clear hK K
        try simp only [Act.put, List.setIfInBounds_toArray, List.set_cons_zero, List.set_cons_succ]
        refine take_do 25 (oi := ?_) (v := ?_) ?_ (by rw [hops.out]; kernel_rfl) ?_ ?_ ?_ (by assumption) ?_
        rotate_left 2
        · rw [hops.out]; simp only [List.getElem?_toArray, List.getElem?_cons_succ, List.getElem?_cons_zero]; rfl
        · rw [hops.out]; kernel_rfl
        · intro W hW; (try dsimp only at hW); go_simp <;> with_reducible rfl
        · exact fun _ _ _ h => h
        try simp only [Act.put, List.setIfInBounds_toArray, List.set_cons_zero, List.set_cons_succ]
        refine take_do 26 (oi := ?_) (v := ?_) ?_ (by rw [hops.out]; kernel_rfl) ?_ ?_ ?_ (by assumption) ?_
        rotate_left 2
        · rw [hops.out]; simp only [List.getElem?_toArray, List.getElem?_cons_succ, List.getElem?_cons_zero]; rfl
        · rw [hops.out]; kernel_rfl
        · intro W hW; (try dsimp only at hW); go_simp <;> with_reducible rfl
        · exact fun _ _ _ h => h
        try simp only [Act.put, List.setIfInBounds_toArray, List.set_cons_zero, List.set_cons_succ]
        refine take_do 27 (oi := ?_) (v := ?_) ?_ (by rw [hops.out]; kernel_rfl) ?_ ?_ ?_ (by assumption) ?_
        rotate_left 2
        · rw [hops.out]; simp only [List.getElem?_toArray, List.getElem?_cons_succ, List.getElem?_cons_zero]; rfl
        · rw [hops.out]; kernel_rfl
        · intro W hW; (try dsimp only at hW); go_simp <;> with_reducible rfl
        · exact fun _ _ _ h => h
        try simp only [Act.put, List.setIfInBounds_toArray, List.set_cons_zero, List.set_cons_succ]
        refine wpAnyH_done (by rw [hops.out]; kernel_rfl) ?_ _
        clear hops ops
        have B1 : Below w.heap.size w w1 := hnx.drew.trans (hbc.mono hnx.size)
        have B2 : Below w.heap.size w w2 := B1.trans (hbc2.mono B1.size)
        have hx2 : w2.heap[w.heap.size]? = some (.cells #[.int .i64 n, .slice (some ⟨b, off, none⟩) ls.length c1, .slice a2 ts.length c2] 25) := by rw [hbc2.block _ (Nat.lt_of_lt_of_le hxl hbc.size), hbc.block _ hxl]; exact HX.out
        have HX2 := hide hx2
        clear hx2
        cases q2
        · have hf : netOkI ⟨n, ls, ts⟩ = false := by rw [HNET.out]; unfold ascB; rw [all_false hlt HAT2.out]; simp
          have HF := hide hf
          clear hf
          go_wp2
          go_ret
          exact ⟨ret_bool HF.out, B2⟩
        · go_wp2
          exact ⟨⟨k + 1, by omega, by go_num, next_true HALL.out HAT1.out, next_true HASC.out HAT2.out, B2, HX2.out⟩, by simp [intOf]; omega⟩
    · have hnet2 : netOkI ⟨n, ls, ts⟩ = (allOk (thOkB n) ts && ascB ordT ts) := by
        have e1 : allOk (linkOkB n) ls = true := all_true fun i hi => HALL.out i (by omega)
        have e2 : ascB ordL ls = true := all_true fun i hi => HASC.out i (by omega)
        rw [HNET.out, e1, e2]; simp
      have HNET2 := hide hnet2
      clear hnet2 HNET HALL HASC
      obtain ⟨wo, rfl⟩ : ∃ wo : World, wo = wr := ⟨_, rfl⟩
      go_wp2
      clear hlt hk
      go_loopw [4] (fun i wr => ∃ k : Nat, k ≤ ts.length ∧ i = .int .i64 k ∧ (∀ j, j < k → okAt (thOkB n) ts j = true) ∧ (∀ j, j < k → ascAt ordT ts j = true) ∧ Below w.heap.size w wr ∧ wr.heap[w.heap.size]? = some (.cells #[.int .i64 n, .slice a1 ls.length c1, .slice a2 ts.length c2] 25)) (fun i _ => ts.length - (intOf i).toNat)
      case atStart => exact ⟨0, by omega, rfl, by omega, by omega, hnx, HX.out⟩
      case round =>
        clear hnx HX g0 g1 g2 hxl
        obtain ⟨k, hk, rfl, hall, hasc, hnx, hx⟩ := hrel
        have hxl := lt_of_heap hx
        have g0 := cells_at hx 0
        have g2 := cells_at hx 2
        simp at g0 g2
        have HALL := hide hall
        have HASC := hide hasc
        have HX := hide hx
        clear hall hasc hx
        by_cases hlt : k < ts.length
        · obtain ⟨l, hl⟩ : ∃ l, ts[k]? = some l := ⟨ts[k], List.getElem?_eq_getElem hlt⟩
          obtain ⟨b, off, cap', hve, hbb, s0, s1, s2, s3⟩ := H2.out.cells k l hl
          cases hve
          rw [← hnx.cell (p := ⟨b, off + k * 4, none⟩) hbb] at s0
          rw [← hnx.cell (p := ⟨b, off + k * 4 + 1, none⟩) hbb] at s1
          rw [← hnx.cell (p := ⟨b, off + k * 4 + 2, none⟩) hbb] at s2
          rw [← hnx.cell (p := ⟨b, off + k * 4 + 3, none⟩) hbb] at s3
          have hzr := hnx.size
          have hbr : b < wr.heap.size := by omega
          have hki : (0 : Int) ≤ (k : Int) := by omega
          have hkj : (k : Int) < (ts.length : Int) := by omega
          obtain ⟨qk, hqk⟩ : ∃ q, q = inB l.k 1 9 := ⟨_, rfl⟩
          obtain ⟨qo, hqo⟩ : ∃ q, q = inB l.o 1 n := ⟨_, rfl⟩
          obtain ⟨qc, hqc⟩ : ∃ q, q = inB l.c 1 1000 := ⟨_, rfl⟩
          have hok : thOkB n l = (qk && qo && qc) := by unfold thOkB; rw [hqk, hqo, hqc]
          have HIK := hide (in_any l.k 1 9)
          have HIO := hide (in_any l.o 1 n)
          have HIC := hide (in_any l.c 1 1000)
          rw [← hqk] at HIK
          rw [← hqo] at HIO
          rw [← hqc] at HIC
          have HAT1 := hide ((okAt_eq (ok := thOkB n) hl).trans hok)
          have HL := hide hl
          clear hqk hqo hqc hok hl
          obtain ⟨wq, hwq⟩ : ∃ wq : World, wq = wr.alloc (.cells #[.int .i64 l.o, .int .i64 l.k, .int .i64 l.c, .bool l.f] 81) := ⟨_, rfl⟩
          have BW : Below w.heap.size w wq := by rw [hwq]; exact hnx.alloc hnx.size _
          have BR : Below wr.heap.size wr wq := by rw [hwq]; exact (Below.refl _ _).alloc (Nat.le_refl _) _
          have hb0 : wq.heap[wr.heap.size]? = some (.cells #[.int .i64 l.o, .int .i64 l.k, .int .i64 l.c, .bool l.f] 81) := by rw [hwq]; exact heap_alloc_new wr _
          have hx9 : wq.heap[w.heap.size]? = some (.cells #[.int .i64 n, .slice a1 ls.length c1, .slice (some ⟨b, off, none⟩) ts.length c2] 25) := by rw [hwq, Below.heap_alloc _ _ _ hxl]; exact HX.out
          go_wp2
          rw [← hwq]
          have g0 := cells_at hx9 0
          have g2 := cells_at hx9 2
          have e0 := cells_at hb0 0
          have e1 := cells_at hb0 1
          have e2 := cells_at hb0 2
          have e3 := cells_at hb0 3
          have hxq := lt_of_heap hx9
          have hzq := lt_of_heap hb0
          have hbq : b < wq.heap.size := by omega
          simp at g0 g2 e0 e1 e2 e3
          have HX9 := hide hx9
          obtain ⟨z, hz⟩ : ∃ z, z = wr.heap.size := ⟨_, rfl⟩
          rw [← hz] at e0 e1 e2 e3 hzq ⊢
          have HBR := hide BR
          clear hb0 hx9 hwq hz BR s0 s1 s2 s3
          cases qo
          · have hf : netOkI ⟨n, ls, ts⟩ = false := by rw [HNET2.out]; unfold allOk; rw [all_false hlt (HAT1.out.trans (by simp))]; rfl
            have HF := hide hf
            clear hf
            refine wp_region_start (S := (fun W => W.cell? ⟨w.heap.size, 0, none⟩ = some (.int .i64 n) ∧ W.cell? ⟨w.heap.size, 2, none⟩ = some (.slice (some ⟨b, off, none⟩) ts.length c2) ∧ W.cell? ⟨z, 0, none⟩ = some (.int .i64 l.o) ∧ W.cell? ⟨z, 1, none⟩ = some (.int .i64 l.k) ∧ W.cell? ⟨z, 2, none⟩ = some (.int .i64 l.c) ∧ W.cell? ⟨z, 3, none⟩ = some (.bool l.f))) (by kernel_rfl) 33 rfl ⟨g0, g2, e0, e1, e2, e3⟩ (fun ops hops hHeld => ?_)
            refine take_do 0 (oi := ?_) (v := ?_) ?_ (by rw [hops.out]; kernel_rfl) ?_ ?_ ?_ (by assumption) ?_
            rotate_left 2
            · rw [hops.out]; simp only [List.getElem?_toArray, List.getElem?_cons_succ, List.getElem?_cons_zero]; rfl
            · rw [hops.out]; kernel_rfl
            · intro W hW; (try dsimp only at hW); go_simp <;> with_reducible rfl
            · exact fun _ _ _ h => h
            try simp only [Act.put, List.setIfInBounds_toArray, List.set_cons_zero, List.set_cons_succ]
            refine take_do 1 (oi := ?_) (v := ?_) ?_ (by rw [hops.out]; kernel_rfl) ?_ ?_ ?_ (by assumption) ?_
            rotate_left 2
            · rw [hops.out]; simp only [List.getElem?_toArray, List.getElem?_cons_succ, List.getElem?_cons_zero]; rfl
            · rw [hops.out]; kernel_rfl
            · intro W hW; (try dsimp only at hW); go_simp <;> with_reducible rfl
            · exact fun _ _ _ h => h
            try simp only [Act.put, List.setIfInBounds_toArray, List.set_cons_zero, List.set_cons_succ]
            refine take_do 2 (oi := ?_) (v := ?_) ?_ (by rw [hops.out]; kernel_rfl) ?_ ?_ ?_ (by assumption) ?_
            rotate_left 2
            · rw [hops.out]; simp only [List.getElem?_toArray, List.getElem?_cons_succ, List.getElem?_cons_zero]; rfl
            · rw [hops.out]; kernel_rfl
            · intro W hW; (try dsimp only at hW); go_simp <;> with_reducible rfl
            · exact fun _ _ _ h => h
            try simp only [Act.put, List.setIfInBounds_toArray, List.set_cons_zero, List.set_cons_succ]
            refine take_do 3 (oi := ?_) (v := ?_) ?_ (by rw [hops.out]; kernel_rfl) ?_ ?_ ?_ (by assumption) ?_
            rotate_left 2
            · rw [hops.out]; simp only [List.getElem?_toArray, List.getElem?_cons_succ, List.getElem?_cons_zero]; rfl
            · rw [hops.out]; kernel_rfl
            · intro W hW; (try dsimp only at hW); go_simp <;> with_reducible rfl
            · exact fun _ _ _ h => h
            try simp only [Act.put, List.setIfInBounds_toArray, List.set_cons_zero, List.set_cons_succ]
            refine take_call 4 (oi := ?_) ?_ (by rw [hops.out]; kernel_rfl) ?_ ?_
            rotate_left 1
            · rw [hops.out]; simp only [List.getElem?_toArray, List.getElem?_cons_succ, List.getElem?_cons_zero]; rfl
            · rw [hops.out]; kernel_rfl
            intro K hK
            go_simp
            refine (HIO.out _).mono ?_
            rintro e w1 ⟨rfl, rfl⟩
            refine hK.out _ _ hHeld (fun _ => ?_)
            clear hK K
            try simp only [Act.put, List.setIfInBounds_toArray, List.set_cons_zero, List.set_cons_succ]
            refine take_do 5 (oi := ?_) (v := ?_) ?_ (by rw [hops.out]; kernel_rfl) ?_ ?_ ?_ (by assumption) ?_
            rotate_left 2
            · rw [hops.out]; simp only [List.getElem?_toArray, List.getElem?_cons_succ, List.getElem?_cons_zero]; rfl
            · rw [hops.out]; kernel_rfl
            · intro W hW; (try dsimp only at hW); go_simp <;> with_reducible rfl
            · exact fun _ _ _ h => h
            try simp only [Act.put, List.setIfInBounds_toArray, List.set_cons_zero, List.set_cons_succ]
            refine take_do 6 (oi := ?_) (v := ?_) ?_ (by rw [hops.out]; kernel_rfl) ?_ ?_ ?_ (by assumption) ?_
            rotate_left 2
            · rw [hops.out]; simp only [List.getElem?_toArray, List.getElem?_cons_succ, List.getElem?_cons_zero]; rfl
            · rw [hops.out]; kernel_rfl
            · intro W hW; (try dsimp only at hW); go_simp <;> with_reducible rfl
            · exact fun _ _ _ h => h
            try simp only [Act.put, List.setIfInBounds_toArray, List.set_cons_zero, List.set_cons_succ]
            refine take_skip 7 76 (by rw [hops.out]; kernel_rfl) (by rw [hops.out]; kernel_rfl) (by rw [hops.out]; kernel_rfl) (fun _ _ _ h => h) (by assumption) ?_
            try simp only [Act.put, List.setIfInBounds_toArray, List.set_cons_zero, List.set_cons_succ]
            refine take_skip 8 77 (by rw [hops.out]; kernel_rfl) (by rw [hops.out]; kernel_rfl) (by rw [hops.out]; kernel_rfl) (fun _ _ _ h => h) (by assumption) ?_
            try simp only [Act.put, List.setIfInBounds_toArray, List.set_cons_zero, List.set_cons_succ]
            refine take_skip 9 78 (by rw [hops.out]; kernel_rfl) (by rw [hops.out]; kernel_rfl) (by rw [hops.out]; kernel_rfl) (fun _ _ _ h => h) (by assumption) ?_
            try simp only [Act.put, List.setIfInBounds_toArray, List.set_cons_zero, List.set_cons_succ]
            refine take_skip 10 79 (by rw [hops.out]; kernel_rfl) (by rw [hops.out]; kernel_rfl) (by rw [hops.out]; kernel_rfl) (fun _ _ _ h => h) (by assumption) ?_
            try simp only [Act.put, List.setIfInBounds_toArray, List.set_cons_zero, List.set_cons_succ]
            refine take_do 11 (oi := ?_) (v := ?_) ?_ (by rw [hops.out]; kernel_rfl) ?_ ?_ ?_ (by assumption) ?_
            rotate_left 2
            · rw [hops.out]; simp only [List.getElem?_toArray, List.getElem?_cons_succ, List.getElem?_cons_zero]; rfl
            · rw [hops.out]; kernel_rfl
            · intro W hW; (try dsimp only at hW); go_simp <;> with_reducible rfl
            · exact fun _ _ _ h => h
            try simp only [Act.put, List.setIfInBounds_toArray, List.set_cons_zero, List.set_cons_succ]
            refine take_do 12 (oi := ?_) (v := ?_) ?_ (by rw [hops.out]; kernel_rfl) ?_ ?_ ?_ (by assumption) ?_
            rotate_left 2
            · rw [hops.out]; simp only [List.getElem?_toArray, List.getElem?_cons_succ, List.getElem?_cons_zero]; rfl
            · rw [hops.out]; kernel_rfl
            · intro W hW; (try dsimp only at hW); go_simp <;> with_reducible rfl
            · exact fun _ _ _ h => h
            try simp only [Act.put, List.setIfInBounds_toArray, List.set_cons_zero, List.set_cons_succ]
            refine take_skip 13 82 (by rw [hops.out]; kernel_rfl) (by rw [hops.out]; kernel_rfl) (by rw [hops.out]; kernel_rfl) (fun _ _ _ h => h) (by assumption) ?_
            try simp only [Act.put, List.setIfInBounds_toArray, List.set_cons_zero, List.set_cons_succ]
            refine take_skip 14 83 (by rw [hops.out]; kernel_rfl) (by rw [hops.out]; kernel_rfl) (by rw [hops.out]; kernel_rfl) (fun _ _ _ h => h) (by assumption) ?_
            try simp only [Act.put, List.setIfInBounds_toArray, List.set_cons_zero, List.set_cons_succ]
            refine take_skip 15 84 (by rw [hops.out]; kernel_rfl) (by rw [hops.out]; kernel_rfl) (by rw [hops.out]; kernel_rfl) (fun _ _ _ h => h) (by assumption) ?_
            try simp only [Act.put, List.setIfInBounds_toArray, List.set_cons_zero, List.set_cons_succ]
            refine take_skip 16 85 (by rw [hops.out]; kernel_rfl) (by rw [hops.out]; kernel_rfl) (by rw [hops.out]; kernel_rfl) (fun _ _ _ h => h) (by assumption) ?_
            try simp only [Act.put, List.setIfInBounds_toArray, List.set_cons_zero, List.set_cons_succ]
            refine take_do 17 (oi := ?_) (v := ?_) ?_ (by rw [hops.out]; kernel_rfl) ?_ ?_ ?_ (by assumption) ?_
            rotate_left 2
            · rw [hops.out]; simp only [List.getElem?_toArray, List.getElem?_cons_succ, List.getElem?_cons_zero]; rfl
            · rw [hops.out]; kernel_rfl
            · intro W hW; (try dsimp only at hW); go_simp <;> with_reducible rfl
            · exact fun _ _ _ h => h
            try simp only [Act.put, List.setIfInBounds_toArray, List.set_cons_zero, List.set_cons_succ]
            refine take_do 18 (oi := ?_) (v := ?_) ?_ (by rw [hops.out]; kernel_rfl) ?_ ?_ ?_ (by assumption) ?_
            rotate_left 2
            · rw [hops.out]; simp only [List.getElem?_toArray, List.getElem?_cons_succ, List.getElem?_cons_zero]; rfl
            · rw [hops.out]; kernel_rfl
            · intro W hW; (try dsimp only at hW); go_simp <;> with_reducible rfl
            · exact fun _ _ _ h => h
            try simp only [Act.put, List.setIfInBounds_toArray, List.set_cons_zero, List.set_cons_succ]
            refine take_skip 19 88 (by rw [hops.out]; kernel_rfl) (by rw [hops.out]; kernel_rfl) (by rw [hops.out]; kernel_rfl) (fun _ _ _ h => h) (by assumption) ?_
            try simp only [Act.put, List.setIfInBounds_toArray, List.set_cons_zero, List.set_cons_succ]
            refine take_skip 20 89 (by rw [hops.out]; kernel_rfl) (by rw [hops.out]; kernel_rfl) (by rw [hops.out]; kernel_rfl) (fun _ _ _ h => h) (by assumption) ?_
            try simp only [Act.put, List.setIfInBounds_toArray, List.set_cons_zero, List.set_cons_succ]
            refine take_skip 21 90 (by rw [hops.out]; kernel_rfl) (by rw [hops.out]; kernel_rfl) (by rw [hops.out]; kernel_rfl) (fun _ _ _ h => h) (by assumption) ?_
            try simp only [Act.put, List.setIfInBounds_toArray, List.set_cons_zero, List.set_cons_succ]
            refine take_skip 22 91 (by rw [hops.out]; kernel_rfl) (by rw [hops.out]; kernel_rfl) (by rw [hops.out]; kernel_rfl) (fun _ _ _ h => h) (by assumption) ?_
            try simp only [Act.put, List.setIfInBounds_toArray, List.set_cons_zero, List.set_cons_succ]
            refine take_skip 23 92 (by rw [hops.out]; kernel_rfl) (by rw [hops.out]; kernel_rfl) (by rw [hops.out]; kernel_rfl) (fun _ _ _ h => h) (by assumption) ?_
            try simp only [Act.put, List.setIfInBounds_toArray, List.set_cons_zero, List.set_cons_succ]
            refine take_skip 24 93 (by rw [hops.out]; kernel_rfl) (by rw [hops.out]; kernel_rfl) (by rw [hops.out]; kernel_rfl) (fun _ _ _ h => h) (by assumption) ?_
            try simp only [Act.put, List.setIfInBounds_toArray, List.set_cons_zero, List.set_cons_succ]
            refine take_skip 25 94 (by rw [hops.out]; kernel_rfl) (by rw [hops.out]; kernel_rfl) (by rw [hops.out]; kernel_rfl) (fun _ _ _ h => h) (by assumption) ?_
            try simp only [Act.put, List.setIfInBounds_toArray, List.set_cons_zero, List.set_cons_succ]
            refine take_skip 26 95 (by rw [hops.out]; kernel_rfl) (by rw [hops.out]; kernel_rfl) (by rw [hops.out]; kernel_rfl) (fun _ _ _ h => h) (by assumption) ?_
            try simp only [Act.put, List.setIfInBounds_toArray, List.set_cons_zero, List.set_cons_succ]
            refine take_skip 27 96 (by rw [hops.out]; kernel_rfl) (by rw [hops.out]; kernel_rfl) (by rw [hops.out]; kernel_rfl) (fun _ _ _ h => h) (by assumption) ?_
            try simp only [Act.put, List.setIfInBounds_toArray, List.set_cons_zero, List.set_cons_succ]
            refine take_skip 28 97 (by rw [hops.out]; kernel_rfl) (by rw [hops.out]; kernel_rfl) (by rw [hops.out]; kernel_rfl) (fun _ _ _ h => h) (by assumption) ?_
            try simp only [Act.put, List.setIfInBounds_toArray, List.set_cons_zero, List.set_cons_succ]
            refine take_skip 29 98 (by rw [hops.out]; kernel_rfl) (by rw [hops.out]; kernel_rfl) (by rw [hops.out]; kernel_rfl) (fun _ _ _ h => h) (by assumption) ?_
            try simp only [Act.put, List.setIfInBounds_toArray, List.set_cons_zero, List.set_cons_succ]
            refine take_skip 30 99 (by rw [hops.out]; kernel_rfl) (by rw [hops.out]; kernel_rfl) (by rw [hops.out]; kernel_rfl) (fun _ _ _ h => h) (by assumption) ?_
            try simp only [Act.put, List.setIfInBounds_toArray, List.set_cons_zero, List.set_cons_succ]
            refine take_skip 31 100 (by rw [hops.out]; kernel_rfl) (by rw [hops.out]; kernel_rfl) (by rw [hops.out]; kernel_rfl) (fun _ _ _ h => h) (by assumption) ?_
            try simp only [Act.put, List.setIfInBounds_toArray, List.set_cons_zero, List.set_cons_succ]
            refine take_do 32 (oi := ?_) (v := ?_) ?_ (by rw [hops.out]; kernel_rfl) ?_ ?_ ?_ (by assumption) ?_
            rotate_left 2
            · rw [hops.out]; simp only [List.getElem?_toArray, List.getElem?_cons_succ, List.getElem?_cons_zero]; rfl
            · rw [hops.out]; kernel_rfl
            · intro W hW; (try dsimp only at hW); go_simp <;> with_reducible rfl
            · exact fun _ _ _ h => h
            try simp only [Act.put, List.setIfInBounds_toArray, List.set_cons_zero, List.set_cons_succ]
            refine wpAnyH_done (by rw [hops.out]; kernel_rfl) ?_ _
            clear hops ops
            go_wp2
            go_ret
            exact ⟨ret_bool HF.out, BW.drew⟩
          cases qk
          · have hf : netOkI ⟨n, ls, ts⟩ = false := by rw [HNET2.out]; unfold allOk; rw [all_false hlt (HAT1.out.trans (by simp))]; rfl
            have HF := hide hf
            clear hf
            refine wp_region_start (S := (fun W => W.cell? ⟨w.heap.size, 0, none⟩ = some (.int .i64 n) ∧ W.cell? ⟨w.heap.size, 2, none⟩ = some (.slice (some ⟨b, off, none⟩) ts.length c2) ∧ W.cell? ⟨z, 0, none⟩ = some (.int .i64 l.o) ∧ W.cell? ⟨z, 1, none⟩ = some (.int .i64 l.k) ∧ W.cell? ⟨z, 2, none⟩ = some (.int .i64 l.c) ∧ W.cell? ⟨z, 3, none⟩ = some (.bool l.f))) (by kernel_rfl) 33 rfl ⟨g0, g2, e0, e1, e2, e3⟩ (fun ops hops hHeld => ?_)
            refine take_do 0 (oi := ?_) (v := ?_) ?_ (by rw [hops.out]; kernel_rfl) ?_ ?_ ?_ (by assumption) ?_
            rotate_left 2
            · rw [hops.out]; simp only [List.getElem?_toArray, List.getElem?_cons_succ, List.getElem?_cons_zero]; rfl
            · rw [hops.out]; kernel_rfl
            · intro W hW; (try dsimp only at hW); go_simp <;> with_reducible rfl
            · exact fun _ _ _ h => h
            try simp only [Act.put, List.setIfInBounds_toArray, List.set_cons_zero, List.set_cons_succ]
            refine take_do 1 (oi := ?_) (v := ?_) ?_ (by rw [hops.out]; kernel_rfl) ?_ ?_ ?_ (by assumption) ?_
            rotate_left 2
            · rw [hops.out]; simp only [List.getElem?_toArray, List.getElem?_cons_succ, List.getElem?_cons_zero]; rfl
            · rw [hops.out]; kernel_rfl
            · intro W hW; (try dsimp only at hW); go_simp <;> with_reducible rfl
            · exact fun _ _ _ h => h
            try simp only [Act.put, List.setIfInBounds_toArray, List.set_cons_zero, List.set_cons_succ]
            refine take_do 2 (oi := ?_) (v := ?_) ?_ (by rw [hops.out]; kernel_rfl) ?_ ?_ ?_ (by assumption) ?_
            rotate_left 2
            · rw [hops.out]; simp only [List.getElem?_toArray, List.getElem?_cons_succ, List.getElem?_cons_zero]; rfl
            · rw [hops.out]; kernel_rfl
            · intro W hW; (try dsimp only at hW); go_simp <;> with_reducible rfl
            · exact fun _ _ _ h => h
            try simp only [Act.put, List.setIfInBounds_toArray, List.set_cons_zero, List.set_cons_succ]
            refine take_do 3 (oi := ?_) (v := ?_) ?_ (by rw [hops.out]; kernel_rfl) ?_ ?_ ?_ (by assumption) ?_
            rotate_left 2
            · rw [hops.out]; simp only [List.getElem?_toArray, List.getElem?_cons_succ, List.getElem?_cons_zero]; rfl
            · rw [hops.out]; kernel_rfl
            · intro W hW; (try dsimp only at hW); go_simp <;> with_reducible rfl
            · exact fun _ _ _ h => h
            try simp only [Act.put, List.setIfInBounds_toArray, List.set_cons_zero, List.set_cons_succ]
            refine take_call 4 (oi := ?_) ?_ (by rw [hops.out]; kernel_rfl) ?_ ?_
            rotate_left 1
            · rw [hops.out]; simp only [List.getElem?_toArray, List.getElem?_cons_succ, List.getElem?_cons_zero]; rfl
            · rw [hops.out]; kernel_rfl
            intro K hK
            go_simp
            refine (HIO.out _).mono ?_
            rintro e w1 ⟨rfl, rfl⟩
            refine hK.out _ _ hHeld (fun _ => ?_)
            clear hK K
            try simp only [Act.put, List.setIfInBounds_toArray, List.set_cons_zero, List.set_cons_succ]
            refine take_do 5 (oi := ?_) (v := ?_) ?_ (by rw [hops.out]; kernel_rfl) ?_ ?_ ?_ (by assumption) ?_
            rotate_left 2
            · rw [hops.out]; simp only [List.getElem?_toArray, List.getElem?_cons_succ, List.getElem?_cons_zero]; rfl
            · rw [hops.out]; kernel_rfl
            · intro W hW; (try dsimp only at hW); go_simp <;> with_reducible rfl
            · exact fun _ _ _ h => h
            try simp only [Act.put, List.setIfInBounds_toArray, List.set_cons_zero, List.set_cons_succ]
            refine take_do 6 (oi := ?_) (v := ?_) ?_ (by rw [hops.out]; kernel_rfl) ?_ ?_ ?_ (by assumption) ?_
            rotate_left 2
            · rw [hops.out]; simp only [List.getElem?_toArray, List.getElem?_cons_succ, List.getElem?_cons_zero]; rfl
            · rw [hops.out]; kernel_rfl
            · intro W hW; (try dsimp only at hW); go_simp <;> with_reducible rfl
            · exact fun _ _ _ h => h
            try simp only [Act.put, List.setIfInBounds_toArray, List.set_cons_zero, List.set_cons_succ]
            refine take_do 7 (oi := ?_) (v := ?_) ?_ (by rw [hops.out]; kernel_rfl) ?_ ?_ ?_ (by assumption) ?_
            rotate_left 2
            · rw [hops.out]; simp only [List.getElem?_toArray, List.getElem?_cons_succ, List.getElem?_cons_zero]; rfl
            · rw [hops.out]; kernel_rfl
            · intro W hW; (try dsimp only at hW); go_simp <;> with_reducible rfl
            · exact fun _ _ _ h => h
            try simp only [Act.put, List.setIfInBounds_toArray, List.set_cons_zero, List.set_cons_succ]
            refine take_do 8 (oi := ?_) (v := ?_) ?_ (by rw [hops.out]; kernel_rfl) ?_ ?_ ?_ (by assumption) ?_
            rotate_left 2
            · rw [hops.out]; simp only [List.getElem?_toArray, List.getElem?_cons_succ, List.getElem?_cons_zero]; rfl
            · rw [hops.out]; kernel_rfl
            · intro W hW; (try dsimp only at hW); go_simp <;> with_reducible rfl
            · exact fun _ _ _ h => h
            try simp only [Act.put, List.setIfInBounds_toArray, List.set_cons_zero, List.set_cons_succ]
            refine take_call 9 (oi := ?_) ?_ (by rw [hops.out]; kernel_rfl) ?_ ?_
            rotate_left 1
            · rw [hops.out]; simp only [List.getElem?_toArray, List.getElem?_cons_succ, List.getElem?_cons_zero]; rfl
            · rw [hops.out]; kernel_rfl
            intro K hK
            go_simp
            refine (HIK.out _).mono ?_
            rintro e w1 ⟨rfl, rfl⟩
            refine hK.out _ _ hHeld (fun _ => ?_)
            clear hK K
            try simp only [Act.put, List.setIfInBounds_toArray, List.set_cons_zero, List.set_cons_succ]
            refine take_do 10 (oi := ?_) (v := ?_) ?_ (by rw [hops.out]; kernel_rfl) ?_ ?_ ?_ (by assumption) ?_
            rotate_left 2
            · rw [hops.out]; simp only [List.getElem?_toArray, List.getElem?_cons_succ, List.getElem?_cons_zero]; rfl
            · rw [hops.out]; kernel_rfl
            · intro W hW; (try dsimp only at hW); go_simp <;> with_reducible rfl
            · exact fun _ _ _ h => h
            try simp only [Act.put, List.setIfInBounds_toArray, List.set_cons_zero, List.set_cons_succ]
            refine take_do 11 (oi := ?_) (v := ?_) ?_ (by rw [hops.out]; kernel_rfl) ?_ ?_ ?_ (by assumption) ?_
            rotate_left 2
            · rw [hops.out]; simp only [List.getElem?_toArray, List.getElem?_cons_succ, List.getElem?_cons_zero]; rfl
            · rw [hops.out]; kernel_rfl
            · intro W hW; (try dsimp only at hW); go_simp <;> with_reducible rfl
            · exact fun _ _ _ h => h
            try simp only [Act.put, List.setIfInBounds_toArray, List.set_cons_zero, List.set_cons_succ]
            refine take_do 12 (oi := ?_) (v := ?_) ?_ (by rw [hops.out]; kernel_rfl) ?_ ?_ ?_ (by assumption) ?_
            rotate_left 2
            · rw [hops.out]; simp only [List.getElem?_toArray, List.getElem?_cons_succ, List.getElem?_cons_zero]; rfl
            · rw [hops.out]; kernel_rfl
            · intro W hW; (try dsimp only at hW); go_simp <;> with_reducible rfl
            · exact fun _ _ _ h => h
            try simp only [Act.put, List.setIfInBounds_toArray, List.set_cons_zero, List.set_cons_succ]
            refine take_skip 13 82 (by rw [hops.out]; kernel_rfl) (by rw [hops.out]; kernel_rfl) (by rw [hops.out]; kernel_rfl) (fun _ _ _ h => h) (by assumption) ?_
            try simp only [Act.put, List.setIfInBounds_toArray, List.set_cons_zero, List.set_cons_succ]
            refine take_skip 14 83 (by rw [hops.out]; kernel_rfl) (by rw [hops.out]; kernel_rfl) (by rw [hops.out]; kernel_rfl) (fun _ _ _ h => h) (by assumption) ?_
            try simp only [Act.put, List.setIfInBounds_toArray, List.set_cons_zero, List.set_cons_succ]
            refine take_skip 15 84 (by rw [hops.out]; kernel_rfl) (by rw [hops.out]; kernel_rfl) (by rw [hops.out]; kernel_rfl) (fun _ _ _ h => h) (by assumption) ?_
            try simp only [Act.put, List.setIfInBounds_toArray, List.set_cons_zero, List.set_cons_succ]
            refine take_skip 16 85 (by rw [hops.out]; kernel_rfl) (by rw [hops.out]; kernel_rfl) (by rw [hops.out]; kernel_rfl) (fun _ _ _ h => h) (by assumption) ?_
            try simp only [Act.put, List.setIfInBounds_toArray, List.set_cons_zero, List.set_cons_succ]
            refine take_do 17 (oi := ?_) (v := ?_) ?_ (by rw [hops.out]; kernel_rfl) ?_ ?_ ?_ (by assumption) ?_
            rotate_left 2
            · rw [hops.out]; simp only [List.getElem?_toArray, List.getElem?_cons_succ, List.getElem?_cons_zero]; rfl
            · rw [hops.out]; kernel_rfl
            · intro W hW; (try dsimp only at hW); go_simp <;> with_reducible rfl
            · exact fun _ _ _ h => h
            try simp only [Act.put, List.setIfInBounds_toArray, List.set_cons_zero, List.set_cons_succ]
            refine take_do 18 (oi := ?_) (v := ?_) ?_ (by rw [hops.out]; kernel_rfl) ?_ ?_ ?_ (by assumption) ?_
            rotate_left 2
            · rw [hops.out]; simp only [List.getElem?_toArray, List.getElem?_cons_succ, List.getElem?_cons_zero]; rfl
            · rw [hops.out]; kernel_rfl
            · intro W hW; (try dsimp only at hW); go_simp <;> with_reducible rfl
            · exact fun _ _ _ h => h
            try simp only [Act.put, List.setIfInBounds_toArray, List.set_cons_zero, List.set_cons_succ]
            refine take_skip 19 88 (by rw [hops.out]; kernel_rfl) (by rw [hops.out]; kernel_rfl) (by rw [hops.out]; kernel_rfl) (fun _ _ _ h => h) (by assumption) ?_
            try simp only [Act.put, List.setIfInBounds_toArray, List.set_cons_zero, List.set_cons_succ]
            refine take_skip 20 89 (by rw [hops.out]; kernel_rfl) (by rw [hops.out]; kernel_rfl) (by rw [hops.out]; kernel_rfl) (fun _ _ _ h => h) (by assumption) ?_
            try simp only [Act.put, List.setIfInBounds_toArray, List.set_cons_zero, List.set_cons_succ]
            refine take_skip 21 90 (by rw [hops.out]; kernel_rfl) (by rw [hops.out]; kernel_rfl) (by rw [hops.out]; kernel_rfl) (fun _ _ _ h => h) (by assumption) ?_
            try simp only [Act.put, List.setIfInBounds_toArray, List.set_cons_zero, List.set_cons_succ]
            refine take_skip 22 91 (by rw [hops.out]; kernel_rfl) (by rw [hops.out]; kernel_rfl) (by rw [hops.out]; kernel_rfl) (fun _ _ _ h => h) (by assumption) ?_
            try simp only [Act.put, List.setIfInBounds_toArray, List.set_cons_zero, List.set_cons_succ]
            refine take_skip 23 92 (by rw [hops.out]; kernel_rfl) (by rw [hops.out]; kernel_rfl) (by rw [hops.out]; kernel_rfl) (fun _ _ _ h => h) (by assumption) ?_
            try simp only [Act.put, List.setIfInBounds_toArray, List.set_cons_zero, List.set_cons_succ]
            refine take_skip 24 93 (by rw [hops.out]; kernel_rfl) (by rw [hops.out]; kernel_rfl) (by rw [hops.out]; kernel_rfl) (fun _ _ _ h => h) (by assumption) ?_
            try simp only [Act.put, List.setIfInBounds_toArray, List.set_cons_zero, List.set_cons_succ]
            refine take_skip 25 94 (by rw [hops.out]; kernel_rfl) (by rw [hops.out]; kernel_rfl) (by rw [hops.out]; kernel_rfl) (fun _ _ _ h => h) (by assumption) ?_
            try simp only [Act.put, List.setIfInBounds_toArray, List.set_cons_zero, List.set_cons_succ]
            refine take_skip 26 95 (by rw [hops.out]; kernel_rfl) (by rw [hops.out]; kernel_rfl) (by rw [hops.out]; kernel_rfl) (fun _ _ _ h => h) (by assumption) ?_
            try simp only [Act.put, List.setIfInBounds_toArray, List.set_cons_zero, List.set_cons_succ]
            refine take_skip 27 96 (by rw [hops.out]; kernel_rfl) (by rw [hops.out]; kernel_rfl) (by rw [hops.out]; kernel_rfl) (fun _ _ _ h => h) (by assumption) ?_
            try simp only [Act.put, List.setIfInBounds_toArray, List.set_cons_zero, List.set_cons_succ]
            refine take_skip 28 97 (by rw [hops.out]; kernel_rfl) (by rw [hops.out]; kernel_rfl) (by rw [hops.out]; kernel_rfl) (fun _ _ _ h => h) (by assumption) ?_
            try simp only [Act.put, List.setIfInBounds_toArray, List.set_cons_zero, List.set_cons_succ]
            refine take_skip 29 98 (by rw [hops.out]; kernel_rfl) (by rw [hops.out]; kernel_rfl) (by rw [hops.out]; kernel_rfl) (fun _ _ _ h => h) (by assumption) ?_
            try simp only [Act.put, List.setIfInBounds_toArray, List.set_cons_zero, List.set_cons_succ]
            refine take_skip 30 99 (by rw [hops.out]; kernel_rfl) (by rw [hops.out]; kernel_rfl) (by rw [hops.out]; kernel_rfl) (fun _ _ _ h => h) (by assumption) ?_
            try simp only [Act.put, List.setIfInBounds_toArray, List.set_cons_zero, List.set_cons_succ]
            refine take_skip 31 100 (by rw [hops.out]; kernel_rfl) (by rw [hops.out]; kernel_rfl) (by rw [hops.out]; kernel_rfl) (fun _ _ _ h => h) (by assumption) ?_
            try simp only [Act.put, List.setIfInBounds_toArray, List.set_cons_zero, List.set_cons_succ]
            refine take_do 32 (oi := ?_) (v := ?_) ?_ (by rw [hops.out]; kernel_rfl) ?_ ?_ ?_ (by assumption) ?_
            rotate_left 2
            · rw [hops.out]; simp only [List.getElem?_toArray, List.getElem?_cons_succ, List.getElem?_cons_zero]; rfl
            · rw [hops.out]; kernel_rfl
            · intro W hW; (try dsimp only at hW); go_simp <;> with_reducible rfl
            · exact fun _ _ _ h => h
            try simp only [Act.put, List.setIfInBounds_toArray, List.set_cons_zero, List.set_cons_succ]
            refine wpAnyH_done (by rw [hops.out]; kernel_rfl) ?_ _
            clear hops ops
            go_wp2
            go_ret
            exact ⟨ret_bool HF.out, BW.drew⟩
          cases qc
          · have hf : netOkI ⟨n, ls, ts⟩ = false := by rw [HNET2.out]; unfold allOk; rw [all_false hlt (HAT1.out.trans (by simp))]; rfl
            have HF := hide hf
            clear hf
            refine wp_region_start (S := (fun W => W.cell? ⟨w.heap.size, 0, none⟩ = some (.int .i64 n) ∧ W.cell? ⟨w.heap.size, 2, none⟩ = some (.slice (some ⟨b, off, none⟩) ts.length c2) ∧ W.cell? ⟨z, 0, none⟩ = some (.int .i64 l.o) ∧ W.cell? ⟨z, 1, none⟩ = some (.int .i64 l.k) ∧ W.cell? ⟨z, 2, none⟩ = some (.int .i64 l.c) ∧ W.cell? ⟨z, 3, none⟩ = some (.bool l.f))) (by kernel_rfl) 33 rfl ⟨g0, g2, e0, e1, e2, e3⟩ (fun ops hops hHeld => ?_)
            refine take_do 0 (oi := ?_) (v := ?_) ?_ (by rw [hops.out]; kernel_rfl) ?_ ?_ ?_ (by assumption) ?_
            rotate_left 2
            · rw [hops.out]; simp only [List.getElem?_toArray, List.getElem?_cons_succ, List.getElem?_cons_zero]; rfl
            · rw [hops.out]; kernel_rfl
            · intro W hW; (try dsimp only at hW); go_simp <;> with_reducible rfl
            · exact fun _ _ _ h => h
            try simp only [Act.put, List.setIfInBounds_toArray, List.set_cons_zero, List.set_cons_succ]
            refine take_do 1 (oi := ?_) (v := ?_) ?_ (by rw [hops.out]; kernel_rfl) ?_ ?_ ?_ (by assumption) ?_
            rotate_left 2
            · rw [hops.out]; simp only [List.getElem?_toArray, List.getElem?_cons_succ, List.getElem?_cons_zero]; rfl
            · rw [hops.out]; kernel_rfl
            · intro W hW; (try dsimp only at hW); go_simp <;> with_reducible rfl
            · exact fun _ _ _ h => h
            try simp only [Act.put, List.setIfInBounds_toArray, List.set_cons_zero, List.set_cons_succ]
            refine take_do 2 (oi := ?_) (v := ?_) ?_ (by rw [hops.out]; kernel_rfl) ?_ ?_ ?_ (by assumption) ?_
            rotate_left 2
            · rw [hops.out]; simp only [List.getElem?_toArray, List.getElem?_cons_succ, List.getElem?_cons_zero]; rfl
            · rw [hops.out]; kernel_rfl
            · intro W hW; (try dsimp only at hW); go_simp <;> with_reducible rfl
            · exact fun _ _ _ h => h
            try simp only [Act.put, List.setIfInBounds_toArray, List.set_cons_zero, List.set_cons_succ]
            refine take_do 3 (oi := ?_) (v := ?_) ?_ (by rw [hops.out]; kernel_rfl) ?_ ?_ ?_ (by assumption) ?_
            rotate_left 2
            · rw [hops.out]; simp only [List.getElem?_toArray, List.getElem?_cons_succ, List.getElem?_cons_zero]; rfl
            · rw [hops.out]; kernel_rfl
            · intro W hW; (try dsimp only at hW); go_simp <;> with_reducible rfl
            · exact fun _ _ _ h => h
            try simp only [Act.put, List.setIfInBounds_toArray, List.set_cons_zero, List.set_cons_succ]
            refine take_call 4 (oi := ?_) ?_ (by rw [hops.out]; kernel_rfl) ?_ ?_
            rotate_left 1
            · rw [hops.out]; simp only [List.getElem?_toArray, List.getElem?_cons_succ, List.getElem?_cons_zero]; rfl
            · rw [hops.out]; kernel_rfl
            intro K hK
            go_simp
            refine (HIO.out _).mono ?_
            rintro e w1 ⟨rfl, rfl⟩
            refine hK.out _ _ hHeld (fun _ => ?_)
            clear hK K
            try simp only [Act.put, List.setIfInBounds_toArray, List.set_cons_zero, List.set_cons_succ]
            refine take_do 5 (oi := ?_) (v := ?_) ?_ (by rw [hops.out]; kernel_rfl) ?_ ?_ ?_ (by assumption) ?_
            rotate_left 2
            · rw [hops.out]; simp only [List.getElem?_toArray, List.getElem?_cons_succ, List.getElem?_cons_zero]; rfl
            · rw [hops.out]; kernel_rfl
            · intro W hW; (try dsimp only at hW); go_simp <;> with_reducible rfl
            · exact fun _ _ _ h => h
            try simp only [Act.put, List.setIfInBounds_toArray, List.set_cons_zero, List.set_cons_succ]
            refine take_do 6 (oi := ?_) (v := ?_) ?_ (by rw [hops.out]; kernel_rfl) ?_ ?_ ?_ (by assumption) ?_
            rotate_left 2
            · rw [hops.out]; simp only [List.getElem?_toArray, List.getElem?_cons_succ, List.getElem?_cons_zero]; rfl
            · rw [hops.out]; kernel_rfl
            · intro W hW; (try dsimp only at hW); go_simp <;> with_reducible rfl
            · exact fun _ _ _ h => h
            try simp only [Act.put, List.setIfInBounds_toArray, List.set_cons_zero, List.set_cons_succ]
            refine take_do 7 (oi := ?_) (v := ?_) ?_ (by rw [hops.out]; kernel_rfl) ?_ ?_ ?_ (by assumption) ?_
            rotate_left 2
            · rw [hops.out]; simp only [List.getElem?_toArray, List.getElem?_cons_succ, List.getElem?_cons_zero]; rfl
            · rw [hops.out]; kernel_rfl
            · intro W hW; (try dsimp only at hW); go_simp <;> with_reducible rfl
            · exact fun _ _ _ h => h
            try simp only [Act.put, List.setIfInBounds_toArray, List.set_cons_zero, List.set_cons_succ]
            refine take_do 8 (oi := ?_) (v := ?_) ?_ (by rw [hops.out]; kernel_rfl) ?_ ?_ ?_ (by assumption) ?_
            rotate_left 2
            · rw [hops.out]; simp only [List.getElem?_toArray, List.getElem?_cons_succ, List.getElem?_cons_zero]; rfl
            · rw [hops.out]; kernel_rfl
            · intro W hW; (try dsimp only at hW); go_simp <;> with_reducible rfl
            · exact fun _ _ _ h => h
            try simp only [Act.put, List.setIfInBounds_toArray, List.set_cons_zero, List.set_cons_succ]
            refine take_call 9 (oi := ?_) ?_ (by rw [hops.out]; kernel_rfl) ?_ ?_
            rotate_left 1
            · rw [hops.out]; simp only [List.getElem?_toArray, List.getElem?_cons_succ, List.getElem?_cons_zero]; rfl
            · rw [hops.out]; kernel_rfl
            intro K hK
            go_simp
            refine (HIK.out _).mono ?_
            rintro e w1 ⟨rfl, rfl⟩
            refine hK.out _ _ hHeld (fun _ => ?_)
            clear hK K
            try simp only [Act.put, List.setIfInBounds_toArray, List.set_cons_zero, List.set_cons_succ]
            refine take_do 10 (oi := ?_) (v := ?_) ?_ (by rw [hops.out]; kernel_rfl) ?_ ?_ ?_ (by assumption) ?_
            rotate_left 2
            · rw [hops.out]; simp only [List.getElem?_toArray, List.getElem?_cons_succ, List.getElem?_cons_zero]; rfl
            · rw [hops.out]; kernel_rfl
            · intro W hW; (try dsimp only at hW); go_simp <;> with_reducible rfl
            · exact fun _ _ _ h => h
            try simp only [Act.put, List.setIfInBounds_toArray, List.set_cons_zero, List.set_cons_succ]
            refine take_do 11 (oi := ?_) (v := ?_) ?_ (by rw [hops.out]; kernel_rfl) ?_ ?_ ?_ (by assumption) ?_
            rotate_left 2
            · rw [hops.out]; simp only [List.getElem?_toArray, List.getElem?_cons_succ, List.getElem?_cons_zero]; rfl
            · rw [hops.out]; kernel_rfl
            · intro W hW; (try dsimp only at hW); go_simp <;> with_reducible rfl
            · exact fun _ _ _ h => h
            try simp only [Act.put, List.setIfInBounds_toArray, List.set_cons_zero, List.set_cons_succ]
            refine take_do 12 (oi := ?_) (v := ?_) ?_ (by rw [hops.out]; kernel_rfl) ?_ ?_ ?_ (by assumption) ?_
            rotate_left 2
            · rw [hops.out]; simp only [List.getElem?_toArray, List.getElem?_cons_succ, List.getElem?_cons_zero]; rfl
            · rw [hops.out]; kernel_rfl
            · intro W hW; (try dsimp only at hW); go_simp <;> with_reducible rfl
            · exact fun _ _ _ h => h
            try simp only [Act.put, List.setIfInBounds_toArray, List.set_cons_zero, List.set_cons_succ]
            refine take_do 13 (oi := ?_) (v := ?_) ?_ (by rw [hops.out]; kernel_rfl) ?_ ?_ ?_ (by assumption) ?_
            rotate_left 2
            · rw [hops.out]; simp only [List.getElem?_toArray, List.getElem?_cons_succ, List.getElem?_cons_zero]; rfl
            · rw [hops.out]; kernel_rfl
            · intro W hW; (try dsimp only at hW); go_simp <;> with_reducible rfl
            · exact fun _ _ _ h => h
            try simp only [Act.put, List.setIfInBounds_toArray, List.set_cons_zero, List.set_cons_succ]
            refine take_do 14 (oi := ?_) (v := ?_) ?_ (by rw [hops.out]; kernel_rfl) ?_ ?_ ?_ (by assumption) ?_
            rotate_left 2
            · rw [hops.out]; simp only [List.getElem?_toArray, List.getElem?_cons_succ, List.getElem?_cons_zero]; rfl
            · rw [hops.out]; kernel_rfl
            · intro W hW; (try dsimp only at hW); go_simp <;> with_reducible rfl
            · exact fun _ _ _ h => h
            try simp only [Act.put, List.setIfInBounds_toArray, List.set_cons_zero, List.set_cons_succ]
            refine take_call 15 (oi := ?_) ?_ (by rw [hops.out]; kernel_rfl) ?_ ?_
            rotate_left 1
            · rw [hops.out]; simp only [List.getElem?_toArray, List.getElem?_cons_succ, List.getElem?_cons_zero]; rfl
            · rw [hops.out]; kernel_rfl
            intro K hK
            go_simp
            refine (HIC.out _).mono ?_
            rintro e w1 ⟨rfl, rfl⟩
            refine hK.out _ _ hHeld (fun _ => ?_)
            clear hK K
            try simp only [Act.put, List.setIfInBounds_toArray, List.set_cons_zero, List.set_cons_succ]
            refine take_do 16 (oi := ?_) (v := ?_) ?_ (by rw [hops.out]; kernel_rfl) ?_ ?_ ?_ (by assumption) ?_
            rotate_left 2
            · rw [hops.out]; simp only [List.getElem?_toArray, List.getElem?_cons_succ, List.getElem?_cons_zero]; rfl
            · rw [hops.out]; kernel_rfl
            · intro W hW; (try dsimp only at hW); go_simp <;> with_reducible rfl
            · exact fun _ _ _ h => h
            try simp only [Act.put, List.setIfInBounds_toArray, List.set_cons_zero, List.set_cons_succ]
            refine take_do 17 (oi := ?_) (v := ?_) ?_ (by rw [hops.out]; kernel_rfl) ?_ ?_ ?_ (by assumption) ?_
            rotate_left 2
            · rw [hops.out]; simp only [List.getElem?_toArray, List.getElem?_cons_succ, List.getElem?_cons_zero]; rfl
            · rw [hops.out]; kernel_rfl
            · intro W hW; (try dsimp only at hW); go_simp <;> with_reducible rfl
            · exact fun _ _ _ h => h
            try simp only [Act.put, List.setIfInBounds_toArray, List.set_cons_zero, List.set_cons_succ]
            refine take_do 18 (oi := ?_) (v := ?_) ?_ (by rw [hops.out]; kernel_rfl) ?_ ?_ ?_ (by assumption) ?_
            rotate_left 2
            · rw [hops.out]; simp only [List.getElem?_toArray, List.getElem?_cons_succ, List.getElem?_cons_zero]; rfl
            · rw [hops.out]; kernel_rfl
            · intro W hW; (try dsimp only at hW); go_simp <;> with_reducible rfl
            · exact fun _ _ _ h => h
            try simp only [Act.put, List.setIfInBounds_toArray, List.set_cons_zero, List.set_cons_succ]
            refine take_skip 19 88 (by rw [hops.out]; kernel_rfl) (by rw [hops.out]; kernel_rfl) (by rw [hops.out]; kernel_rfl) (fun _ _ _ h => h) (by assumption) ?_
            try simp only [Act.put, List.setIfInBounds_toArray, List.set_cons_zero, List.set_cons_succ]
            refine take_skip 20 89 (by rw [hops.out]; kernel_rfl) (by rw [hops.out]; kernel_rfl) (by rw [hops.out]; kernel_rfl) (fun _ _ _ h => h) (by assumption) ?_
            try simp only [Act.put, List.setIfInBounds_toArray, List.set_cons_zero, List.set_cons_succ]
            refine take_skip 21 90 (by rw [hops.out]; kernel_rfl) (by rw [hops.out]; kernel_rfl) (by rw [hops.out]; kernel_rfl) (fun _ _ _ h => h) (by assumption) ?_
            try simp only [Act.put, List.setIfInBounds_toArray, List.set_cons_zero, List.set_cons_succ]
            refine take_skip 22 91 (by rw [hops.out]; kernel_rfl) (by rw [hops.out]; kernel_rfl) (by rw [hops.out]; kernel_rfl) (fun _ _ _ h => h) (by assumption) ?_
            try simp only [Act.put, List.setIfInBounds_toArray, List.set_cons_zero, List.set_cons_succ]
            refine take_skip 23 92 (by rw [hops.out]; kernel_rfl) (by rw [hops.out]; kernel_rfl) (by rw [hops.out]; kernel_rfl) (fun _ _ _ h => h) (by assumption) ?_
            try simp only [Act.put, List.setIfInBounds_toArray, List.set_cons_zero, List.set_cons_succ]
            refine take_skip 24 93 (by rw [hops.out]; kernel_rfl) (by rw [hops.out]; kernel_rfl) (by rw [hops.out]; kernel_rfl) (fun _ _ _ h => h) (by assumption) ?_
            try simp only [Act.put, List.setIfInBounds_toArray, List.set_cons_zero, List.set_cons_succ]
            refine take_skip 25 94 (by rw [hops.out]; kernel_rfl) (by rw [hops.out]; kernel_rfl) (by rw [hops.out]; kernel_rfl) (fun _ _ _ h => h) (by assumption) ?_
            try simp only [Act.put, List.setIfInBounds_toArray, List.set_cons_zero, List.set_cons_succ]
            refine take_skip 26 95 (by rw [hops.out]; kernel_rfl) (by rw [hops.out]; kernel_rfl) (by rw [hops.out]; kernel_rfl) (fun _ _ _ h => h) (by assumption) ?_
            try simp only [Act.put, List.setIfInBounds_toArray, List.set_cons_zero, List.set_cons_succ]
            refine take_skip 27 96 (by rw [hops.out]; kernel_rfl) (by rw [hops.out]; kernel_rfl) (by rw [hops.out]; kernel_rfl) (fun _ _ _ h => h) (by assumption) ?_
            try simp only [Act.put, List.setIfInBounds_toArray, List.set_cons_zero, List.set_cons_succ]
            refine take_skip 28 97 (by rw [hops.out]; kernel_rfl) (by rw [hops.out]; kernel_rfl) (by rw [hops.out]; kernel_rfl) (fun _ _ _ h => h) (by assumption) ?_
            try simp only [Act.put, List.setIfInBounds_toArray, List.set_cons_zero, List.set_cons_succ]
            refine take_skip 29 98 (by rw [hops.out]; kernel_rfl) (by rw [hops.out]; kernel_rfl) (by rw [hops.out]; kernel_rfl) (fun _ _ _ h => h) (by assumption) ?_
            try simp only [Act.put, List.setIfInBounds_toArray, List.set_cons_zero, List.set_cons_succ]
            refine take_skip 30 99 (by rw [hops.out]; kernel_rfl) (by rw [hops.out]; kernel_rfl) (by rw [hops.out]; kernel_rfl) (fun _ _ _ h => h) (by assumption) ?_
            try simp only [Act.put, List.setIfInBounds_toArray, List.set_cons_zero, List.set_cons_succ]
            refine take_skip 31 100 (by rw [hops.out]; kernel_rfl) (by rw [hops.out]; kernel_rfl) (by rw [hops.out]; kernel_rfl) (fun _ _ _ h => h) (by assumption) ?_
            try simp only [Act.put, List.setIfInBounds_toArray, List.set_cons_zero, List.set_cons_succ]
            refine take_do 32 (oi := ?_) (v := ?_) ?_ (by rw [hops.out]; kernel_rfl) ?_ ?_ ?_ (by assumption) ?_
            rotate_left 2
            · rw [hops.out]; simp only [List.getElem?_toArray, List.getElem?_cons_succ, List.getElem?_cons_zero]; rfl
            · rw [hops.out]; kernel_rfl
            · intro W hW; (try dsimp only at hW); go_simp <;> with_reducible rfl
            · exact fun _ _ _ h => h
            try simp only [Act.put, List.setIfInBounds_toArray, List.set_cons_zero, List.set_cons_succ]
            refine wpAnyH_done (by rw [hops.out]; kernel_rfl) ?_ _
            clear hops ops
            go_wp2
            go_ret
            exact ⟨ret_bool HF.out, BW.drew⟩
          by_cases hk0 : k = 0
          · have hk1 : ¬ (0 : Int) < (k : Int) := by omega
            have hat2 : ascAt ordT ts k = true := by rw [hk0]; rfl
            have HAT2 := hide hat2
            clear hat2 hk0
            refine wp_region_start (S := (fun W => W.cell? ⟨w.heap.size, 0, none⟩ = some (.int .i64 n) ∧ W.cell? ⟨w.heap.size, 2, none⟩ = some (.slice (some ⟨b, off, none⟩) ts.length c2) ∧ W.cell? ⟨z, 0, none⟩ = some (.int .i64 l.o) ∧ W.cell? ⟨z, 1, none⟩ = some (.int .i64 l.k) ∧ W.cell? ⟨z, 2, none⟩ = some (.int .i64 l.c) ∧ W.cell? ⟨z, 3, none⟩ = some (.bool l.f))) (by kernel_rfl) 33 rfl ⟨g0, g2, e0, e1, e2, e3⟩ (fun ops hops hHeld => ?_)
            refine take_do 0 (oi := ?_) (v := ?_) ?_ (by rw [hops.out]; kernel_rfl) ?_ ?_ ?_ (by assumption) ?_
            rotate_left 2
            · rw [hops.out]; simp only [List.getElem?_toArray, List.getElem?_cons_succ, List.getElem?_cons_zero]; rfl
            · rw [hops.out]; kernel_rfl
            · intro W hW; (try dsimp only at hW); go_simp <;> with_reducible rfl
            · exact fun _ _ _ h => h
            try simp only [Act.put, List.setIfInBounds_toArray, List.set_cons_zero, List.set_cons_succ]
            refine take_do 1 (oi := ?_) (v := ?_) ?_ (by rw [hops.out]; kernel_rfl) ?_ ?_ ?_ (by assumption) ?_
            rotate_left 2
            · rw [hops.out]; simp only [List.getElem?_toArray, List.getElem?_cons_succ, List.getElem?_cons_zero]; rfl
            · rw [hops.out]; kernel_rfl
            · intro W hW; (try dsimp only at hW); go_simp <;> with_reducible rfl
            · exact fun _ _ _ h => h
            try simp only [Act.put, List.setIfInBounds_toArray, List.set_cons_zero, List.set_cons_succ]
            refine take_do 2 (oi := ?_) (v := ?_) ?_ (by rw [hops.out]; kernel_rfl) ?_ ?_ ?_ (by assumption) ?_
            rotate_left 2
            · rw [hops.out]; simp only [List.getElem?_toArray, List.getElem?_cons_succ, List.getElem?_cons_zero]; rfl
            · rw [hops.out]; kernel_rfl
            · intro W hW; (try dsimp only at hW); go_simp <;> with_reducible rfl
            · exact fun _ _ _ h => h
            try simp only [Act.put, List.setIfInBounds_toArray, List.set_cons_zero, List.set_cons_succ]
            refine take_do 3 (oi := ?_) (v := ?_) ?_ (by rw [hops.out]; kernel_rfl) ?_ ?_ ?_ (by assumption) ?_
            rotate_left 2
            · rw [hops.out]; simp only [List.getElem?_toArray, List.getElem?_cons_succ, List.getElem?_cons_zero]; rfl
            · rw [hops.out]; kernel_rfl
            · intro W hW; (try dsimp only at hW); go_simp <;> with_reducible rfl
            · exact fun _ _ _ h => h
            try simp only [Act.put, List.setIfInBounds_toArray, List.set_cons_zero, List.set_cons_succ]
            refine take_call 4 (oi := ?_) ?_ (by rw [hops.out]; kernel_rfl) ?_ ?_
            rotate_left 1
            · rw [hops.out]; simp only [List.getElem?_toArray, List.getElem?_cons_succ, List.getElem?_cons_zero]; rfl
            · rw [hops.out]; kernel_rfl
            intro K hK
            go_simp
            refine (HIO.out _).mono ?_
            rintro e w1 ⟨rfl, rfl⟩
            refine hK.out _ _ hHeld (fun _ => ?_)
            clear hK K
            try simp only [Act.put, List.setIfInBounds_toArray, List.set_cons_zero, List.set_cons_succ]
            refine take_do 5 (oi := ?_) (v := ?_) ?_ (by rw [hops.out]; kernel_rfl) ?_ ?_ ?_ (by assumption) ?_
            rotate_left 2
            · rw [hops.out]; simp only [List.getElem?_toArray, List.getElem?_cons_succ, List.getElem?_cons_zero]; rfl
            · rw [hops.out]; kernel_rfl
            · intro W hW; (try dsimp only at hW); go_simp <;> with_reducible rfl
            · exact fun _ _ _ h => h
            try simp only [Act.put, List.setIfInBounds_toArray, List.set_cons_zero, List.set_cons_succ]
            refine take_do 6 (oi := ?_) (v := ?_) ?_ (by rw [hops.out]; kernel_rfl) ?_ ?_ ?_ (by assumption) ?_
            rotate_left 2
            · rw [hops.out]; simp only [List.getElem?_toArray, List.getElem?_cons_succ, List.getElem?_cons_zero]; rfl
            · rw [hops.out]; kernel_rfl
            · intro W hW; (try dsimp only at hW); go_simp <;> with_reducible rfl
            · exact fun _ _ _ h => h
            try simp only [Act.put, List.setIfInBounds_toArray, List.set_cons_zero, List.set_cons_succ]
            refine take_do 7 (oi := ?_) (v := ?_) ?_ (by rw [hops.out]; kernel_rfl) ?_ ?_ ?_ (by assumption) ?_
            rotate_left 2
            · rw [hops.out]; simp only [List.getElem?_toArray, List.getElem?_cons_succ, List.getElem?_cons_zero]; rfl
            · rw [hops.out]; kernel_rfl
            · intro W hW; (try dsimp only at hW); go_simp <;> with_reducible rfl
            · exact fun _ _ _ h => h
            try simp only [Act.put, List.setIfInBounds_toArray, List.set_cons_zero, List.set_cons_succ]
            refine take_do 8 (oi := ?_) (v := ?_) ?_ (by rw [hops.out]; kernel_rfl) ?_ ?_ ?_ (by assumption) ?_
            rotate_left 2
            · rw [hops.out]; simp only [List.getElem?_toArray, List.getElem?_cons_succ, List.getElem?_cons_zero]; rfl
            · rw [hops.out]; kernel_rfl
            · intro W hW; (try dsimp only at hW); go_simp <;> with_reducible rfl
            · exact fun _ _ _ h => h
            try simp only [Act.put, List.setIfInBounds_toArray, List.set_cons_zero, List.set_cons_succ]
            refine take_call 9 (oi := ?_) ?_ (by rw [hops.out]; kernel_rfl) ?_ ?_
            rotate_left 1
            · rw [hops.out]; simp only [List.getElem?_toArray, List.getElem?_cons_succ, List.getElem?_cons_zero]; rfl
            · rw [hops.out]; kernel_rfl
            intro K hK
            go_simp
            refine (HIK.out _).mono ?_
            rintro e w1 ⟨rfl, rfl⟩
            refine hK.out _ _ hHeld (fun _ => ?_)
            clear hK K
            try simp only [Act.put, List.setIfInBounds_toArray, List.set_cons_zero, List.set_cons_succ]
            refine take_do 10 (oi := ?_) (v := ?_) ?_ (by rw [hops.out]; kernel_rfl) ?_ ?_ ?_ (by assumption) ?_
            rotate_left 2
            · rw [hops.out]; simp only [List.getElem?_toArray, List.getElem?_cons_succ, List.getElem?_cons_zero]; rfl
            · rw [hops.out]; kernel_rfl
            · intro W hW; (try dsimp only at hW); go_simp <;> with_reducible rfl
            · exact fun _ _ _ h => h
            try simp only [Act.put, List.setIfInBounds_toArray, List.set_cons_zero, List.set_cons_succ]
            refine take_do 11 (oi := ?_) (v := ?_) ?_ (by rw [hops.out]; kernel_rfl) ?_ ?_ ?_ (by assumption) ?_
            rotate_left 2
            · rw [hops.out]; simp only [List.getElem?_toArray, List.getElem?_cons_succ, List.getElem?_cons_zero]; rfl
            · rw [hops.out]; kernel_rfl
            · intro W hW; (try dsimp only at hW); go_simp <;> with_reducible rfl
            · exact fun _ _ _ h => h
            try simp only [Act.put, List.setIfInBounds_toArray, List.set_cons_zero, List.set_cons_succ]
            refine take_do 12 (oi := ?_) (v := ?_) ?_ (by rw [hops.out]; kernel_rfl) ?_ ?_ ?_ (by assumption) ?_
            rotate_left 2
            · rw [hops.out]; simp only [List.getElem?_toArray, List.getElem?_cons_succ, List.getElem?_cons_zero]; rfl
            · rw [hops.out]; kernel_rfl
            · intro W hW; (try dsimp only at hW); go_simp <;> with_reducible rfl
            · exact fun _ _ _ h => h
            try simp only [Act.put, List.setIfInBounds_toArray, List.set_cons_zero, List.set_cons_succ]
            refine take_do 13 (oi := ?_) (v := ?_) ?_ (by rw [hops.out]; kernel_rfl) ?_ ?_ ?_ (by assumption) ?_
            rotate_left 2
            · rw [hops.out]; simp only [List.getElem?_toArray, List.getElem?_cons_succ, List.getElem?_cons_zero]; rfl
            · rw [hops.out]; kernel_rfl
            · intro W hW; (try dsimp only at hW); go_simp <;> with_reducible rfl
            · exact fun _ _ _ h => h
            try simp only [Act.put, List.setIfInBounds_toArray, List.set_cons_zero, List.set_cons_succ]
            refine take_do 14 (oi := ?_) (v := ?_) ?_ (by rw [hops.out]; kernel_rfl) ?_ ?_ ?_ (by assumption) ?_
            rotate_left 2
            · rw [hops.out]; simp only [List.getElem?_toArray, List.getElem?_cons_succ, List.getElem?_cons_zero]; rfl
            · rw [hops.out]; kernel_rfl
            · intro W hW; (try dsimp only at hW); go_simp <;> with_reducible rfl
            · exact fun _ _ _ h => h
            try simp only [Act.put, List.setIfInBounds_toArray, List.set_cons_zero, List.set_cons_succ]
            refine take_call 15 (oi := ?_) ?_ (by rw [hops.out]; kernel_rfl) ?_ ?_
            rotate_left 1
            · rw [hops.out]; simp only [List.getElem?_toArray, List.getElem?_cons_succ, List.getElem?_cons_zero]; rfl
            · rw [hops.out]; kernel_rfl
            intro K hK
            go_simp
            refine (HIC.out _).mono ?_
            rintro e w1 ⟨rfl, rfl⟩
            refine hK.out _ _ hHeld (fun _ => ?_)
            clear hK K
            try simp only [Act.put, List.setIfInBounds_toArray, List.set_cons_zero, List.set_cons_succ]
            refine take_do 16 (oi := ?_) (v := ?_) ?_ (by rw [hops.out]; kernel_rfl) ?_ ?_ ?_ (by assumption) ?_
            rotate_left 2
            · rw [hops.out]; simp only [List.getElem?_toArray, List.getElem?_cons_succ, List.getElem?_cons_zero]; rfl
            · rw [hops.out]; kernel_rfl
            · intro W hW; (try dsimp only at hW); go_simp <;> with_reducible rfl
            · exact fun _ _ _ h => h
            try simp only [Act.put, List.setIfInBounds_toArray, List.set_cons_zero, List.set_cons_succ]
            refine take_do 17 (oi := ?_) (v := ?_) ?_ (by rw [hops.out]; kernel_rfl) ?_ ?_ ?_ (by assumption) ?_
            rotate_left 2
            · rw [hops.out]; simp only [List.getElem?_toArray, List.getElem?_cons_succ, List.getElem?_cons_zero]; rfl
            · rw [hops.out]; kernel_rfl
            · intro W hW; (try dsimp only at hW); go_simp <;> with_reducible rfl
            · exact fun _ _ _ h => h
            try simp only [Act.put, List.setIfInBounds_toArray, List.set_cons_zero, List.set_cons_succ]
            refine take_do 18 (oi := ?_) (v := ?_) ?_ (by rw [hops.out]; kernel_rfl) ?_ ?_ ?_ (by assumption) ?_
            rotate_left 2
            · rw [hops.out]; simp only [List.getElem?_toArray, List.getElem?_cons_succ, List.getElem?_cons_zero]; rfl
            · rw [hops.out]; kernel_rfl
            · intro W hW; (try dsimp only at hW); go_simp <;> with_reducible rfl
            · exact fun _ _ _ h => h
            try simp only [Act.put, List.setIfInBounds_toArray, List.set_cons_zero, List.set_cons_succ]
            refine take_do 19 (oi := ?_) (v := ?_) ?_ (by rw [hops.out]; kernel_rfl) ?_ ?_ ?_ (by assumption) ?_
            rotate_left 2
            · rw [hops.out]; simp only [List.getElem?_toArray, List.getElem?_cons_succ, List.getElem?_cons_zero]; rfl
            · rw [hops.out]; kernel_rfl
            · intro W hW; (try dsimp only at hW); go_simp <;> with_reducible rfl
            · exact fun _ _ _ h => h
            try simp only [Act.put, List.setIfInBounds_toArray, List.set_cons_zero, List.set_cons_succ]
            refine take_do 20 (oi := ?_) (v := .bool false) ?_ (by rw [hops.out]; kernel_rfl) ?_ ?_ ?_ (by assumption) ?_
            rotate_left 1
            · rw [hops.out]; simp only [List.getElem?_toArray, List.getElem?_cons_succ, List.getElem?_cons_zero]; rfl
            · rw [hops.out]; kernel_rfl
            · intro W hW; (try dsimp only at hW); go_simp <;> (first | with_reducible rfl | (simp; omega) | omega)
            · exact fun _ _ _ h => h
            try simp only [Act.put, List.setIfInBounds_toArray, List.set_cons_zero, List.set_cons_succ]
            refine take_do 21 (oi := ?_) (v := ?_) ?_ (by rw [hops.out]; kernel_rfl) ?_ ?_ ?_ (by assumption) ?_
            rotate_left 2
            · rw [hops.out]; simp only [List.getElem?_toArray, List.getElem?_cons_succ, List.getElem?_cons_zero]; rfl
            · rw [hops.out]; kernel_rfl
            · intro W hW; (try dsimp only at hW); go_simp <;> with_reducible rfl
            · exact fun _ _ _ h => h
            try simp only [Act.put, List.setIfInBounds_toArray, List.set_cons_zero, List.set_cons_succ]
            refine take_skip 22 91 (by rw [hops.out]; kernel_rfl) (by rw [hops.out]; kernel_rfl) (by rw [hops.out]; kernel_rfl) (fun _ _ _ h => h) (by assumption) ?_
            try simp only [Act.put, List.setIfInBounds_toArray, List.set_cons_zero, List.set_cons_succ]
            refine take_skip 23 92 (by rw [hops.out]; kernel_rfl) (by rw [hops.out]; kernel_rfl) (by rw [hops.out]; kernel_rfl) (fun _ _ _ h => h) (by assumption) ?_
            try simp only [Act.put, List.setIfInBounds_toArray, List.set_cons_zero, List.set_cons_succ]
            refine take_skip 24 93 (by rw [hops.out]; kernel_rfl) (by rw [hops.out]; kernel_rfl) (by rw [hops.out]; kernel_rfl) (fun _ _ _ h => h) (by assumption) ?_
            try simp only [Act.put, List.setIfInBounds_toArray, List.set_cons_zero, List.set_cons_succ]
            refine take_skip 25 94 (by rw [hops.out]; kernel_rfl) (by rw [hops.out]; kernel_rfl) (by rw [hops.out]; kernel_rfl) (fun _ _ _ h => h) (by assumption) ?_
            try simp only [Act.put, List.setIfInBounds_toArray, List.set_cons_zero, List.set_cons_succ]
            refine take_skip 26 95 (by rw [hops.out]; kernel_rfl) (by rw [hops.out]; kernel_rfl) (by rw [hops.out]; kernel_rfl) (fun _ _ _ h => h) (by assumption) ?_
            try simp only [Act.put, List.setIfInBounds_toArray, List.set_cons_zero, List.set_cons_succ]
            refine take_skip 27 96 (by rw [hops.out]; kernel_rfl) (by rw [hops.out]; kernel_rfl) (by rw [hops.out]; kernel_rfl) (fun _ _ _ h => h) (by assumption) ?_
            try simp only [Act.put, List.setIfInBounds_toArray, List.set_cons_zero, List.set_cons_succ]
            refine take_skip 28 97 (by rw [hops.out]; kernel_rfl) (by rw [hops.out]; kernel_rfl) (by rw [hops.out]; kernel_rfl) (fun _ _ _ h => h) (by assumption) ?_
            try simp only [Act.put, List.setIfInBounds_toArray, List.set_cons_zero, List.set_cons_succ]
            refine take_skip 29 98 (by rw [hops.out]; kernel_rfl) (by rw [hops.out]; kernel_rfl) (by rw [hops.out]; kernel_rfl) (fun _ _ _ h => h) (by assumption) ?_
            try simp only [Act.put, List.setIfInBounds_toArray, List.set_cons_zero, List.set_cons_succ]
            refine take_skip 30 99 (by rw [hops.out]; kernel_rfl) (by rw [hops.out]; kernel_rfl) (by rw [hops.out]; kernel_rfl) (fun _ _ _ h => h) (by assumption) ?_
            try simp only [Act.put, List.setIfInBounds_toArray, List.set_cons_zero, List.set_cons_succ]
            refine take_do 31 (oi := ?_) (v := ?_) ?_ (by rw [hops.out]; kernel_rfl) ?_ ?_ ?_ (by assumption) ?_
            rotate_left 2
            · rw [hops.out]; simp only [List.getElem?_toArray, List.getElem?_cons_succ, List.getElem?_cons_zero]; rfl
            · rw [hops.out]; kernel_rfl
            · intro W hW; (try dsimp only at hW); go_simp <;> with_reducible rfl
            · exact fun _ _ _ h => h
            try simp only [Act.put, List.setIfInBounds_toArray, List.set_cons_zero, List.set_cons_succ]
            refine take_do 32 (oi := ?_) (v := ?_) ?_ (by rw [hops.out]; kernel_rfl) ?_ ?_ ?_ (by assumption) ?_
            rotate_left 2
            · rw [hops.out]; simp only [List.getElem?_toArray, List.getElem?_cons_succ, List.getElem?_cons_zero]; rfl
            · rw [hops.out]; kernel_rfl
            · intro W hW; (try dsimp only at hW); go_simp <;> with_reducible rfl
            · exact fun _ _ _ h => h
            try simp only [Act.put, List.setIfInBounds_toArray, List.set_cons_zero, List.set_cons_succ]
            refine wpAnyH_done (by rw [hops.out]; kernel_rfl) ?_ _
            clear hops ops
            go_wp2
            exact ⟨⟨k + 1, by omega, by go_num, next_true HALL.out HAT1.out, next_true HASC.out HAT2.out, BW.drew, HX9.out⟩, by simp [intOf]; omega⟩
          · obtain ⟨j, hj⟩ : ∃ j, k = j + 1 := ⟨k - 1, by omega⟩
            obtain ⟨p, hp⟩ : ∃ p, ts[j]? = some p := ⟨ts[j], List.getElem?_eq_getElem (by omega)⟩
            obtain ⟨b', off', cap2, hve2, hbb2, t0, t1, t2, t3⟩ := H2.out.cells j p hp
            cases hve2
            rw [← BW.cell (p := ⟨b, off + j * 4, none⟩) hbb] at t0
            rw [← BW.cell (p := ⟨b, off + j * 4 + 1, none⟩) hbb] at t1
            rw [← BW.cell (p := ⟨b, off + j * 4 + 2, none⟩) hbb] at t2
            rw [← BW.cell (p := ⟨b, off + j * 4 + 3, none⟩) hbb] at t3
            obtain ⟨q2, hq2⟩ : ∃ q2, q2 = thingB p l := ⟨_, rfl⟩
            have hah := sthing_any p l
            rw [← hq2] at hah
            unfold thV at hah
            have HAH := hide hah
            have hat2 : ascAt ordT ts k = q2 := by rw [hj, hq2, thingB_eq]; exact ascAt_eq hp (by rw [← hj]; exact HL.out)
            have HAT2 := hide hat2
            have hj1 : (k : Int) - 1 = (j : Int) := by omega
            have hj2 : (0 : Int) ≤ (j : Int) := by omega
            have hj3 : (j : Int) < (ts.length : Int) := by omega
            have hj4 : (0 : Int) < (k : Int) := by omega
            have hj5 : IntKind.i64.wrap (j : Int) = (j : Int) := wrap_fit _ (by omega) (by omega)
            clear hah hq2 hp hat2 hj hk0 hbb2
            refine wp_region_start (S := (fun W => W.cell? ⟨w.heap.size, 0, none⟩ = some (.int .i64 n) ∧ W.cell? ⟨w.heap.size, 2, none⟩ = some (.slice (some ⟨b, off, none⟩) ts.length c2) ∧ W.cell? ⟨z, 0, none⟩ = some (.int .i64 l.o) ∧ W.cell? ⟨z, 1, none⟩ = some (.int .i64 l.k) ∧ W.cell? ⟨z, 2, none⟩ = some (.int .i64 l.c) ∧ W.cell? ⟨z, 3, none⟩ = some (.bool l.f) ∧ W.cell? ⟨b, off + j * 4, none⟩ = some (.int .i64 p.o) ∧ W.cell? ⟨b, off + j * 4 + 1, none⟩ = some (.int .i64 p.k) ∧ W.cell? ⟨b, off + j * 4 + 2, none⟩ = some (.int .i64 p.c) ∧ W.cell? ⟨b, off + j * 4 + 3, none⟩ = some (.bool p.f))) (by kernel_rfl) 33 rfl ⟨g0, g2, e0, e1, e2, e3, t0, t1, t2, t3⟩ (fun ops hops hHeld => ?_)
            refine take_do 0 (oi := ?_) (v := ?_) ?_ (by rw [hops.out]; kernel_rfl) ?_ ?_ ?_ (by assumption) ?_
            rotate_left 2
            · rw [hops.out]; simp only [List.getElem?_toArray, List.getElem?_cons_succ, List.getElem?_cons_zero]; rfl
            · rw [hops.out]; kernel_rfl
            · intro W hW; (try dsimp only at hW); go_simp <;> with_reducible rfl
            · exact fun _ _ _ h => h
            try simp only [Act.put, List.setIfInBounds_toArray, List.set_cons_zero, List.set_cons_succ]
            refine take_do 1 (oi := ?_) (v := ?_) ?_ (by rw [hops.out]; kernel_rfl) ?_ ?_ ?_ (by assumption) ?_
            rotate_left 2
            · rw [hops.out]; simp only [List.getElem?_toArray, List.getElem?_cons_succ, List.getElem?_cons_zero]; rfl
            · rw [hops.out]; kernel_rfl
            · intro W hW; (try dsimp only at hW); go_simp <;> with_reducible rfl
            · exact fun _ _ _ h => h
            try simp only [Act.put, List.setIfInBounds_toArray, List.set_cons_zero, List.set_cons_succ]
            refine take_do 2 (oi := ?_) (v := ?_) ?_ (by rw [hops.out]; kernel_rfl) ?_ ?_ ?_ (by assumption) ?_
            rotate_left 2
            · rw [hops.out]; simp only [List.getElem?_toArray, List.getElem?_cons_succ, List.getElem?_cons_zero]; rfl
            · rw [hops.out]; kernel_rfl
            · intro W hW; (try dsimp only at hW); go_simp <;> with_reducible rfl
            · exact fun _ _ _ h => h
            try simp only [Act.put, List.setIfInBounds_toArray, List.set_cons_zero, List.set_cons_succ]
            refine take_do 3 (oi := ?_) (v := ?_) ?_ (by rw [hops.out]; kernel_rfl) ?_ ?_ ?_ (by assumption) ?_
            rotate_left 2
            · rw [hops.out]; simp only [List.getElem?_toArray, List.getElem?_cons_succ, List.getElem?_cons_zero]; rfl
            · rw [hops.out]; kernel_rfl
            · intro W hW; (try dsimp only at hW); go_simp <;> with_reducible rfl
            · exact fun _ _ _ h => h
            try simp only [Act.put, List.setIfInBounds_toArray, List.set_cons_zero, List.set_cons_succ]
            refine take_call 4 (oi := ?_) ?_ (by rw [hops.out]; kernel_rfl) ?_ ?_
            rotate_left 1
            · rw [hops.out]; simp only [List.getElem?_toArray, List.getElem?_cons_succ, List.getElem?_cons_zero]; rfl
            · rw [hops.out]; kernel_rfl
            intro K hK
            go_simp
            refine (HIO.out _).mono ?_
            rintro e w1 ⟨rfl, rfl⟩
            refine hK.out _ _ hHeld (fun _ => ?_)
            clear hK K
            try simp only [Act.put, List.setIfInBounds_toArray, List.set_cons_zero, List.set_cons_succ]
            refine take_do 5 (oi := ?_) (v := ?_) ?_ (by rw [hops.out]; kernel_rfl) ?_ ?_ ?_ (by assumption) ?_
            rotate_left 2
            · rw [hops.out]; simp only [List.getElem?_toArray, List.getElem?_cons_succ, List.getElem?_cons_zero]; rfl
            · rw [hops.out]; kernel_rfl
            · intro W hW; (try dsimp only at hW); go_simp <;> with_reducible rfl
            · exact fun _ _ _ h => h
            try simp only [Act.put, List.setIfInBounds_toArray, List.set_cons_zero, List.set_cons_succ]
            refine take_do 6 (oi := ?_) (v := ?_) ?_ (by rw [hops.out]; kernel_rfl) ?_ ?_ ?_ (by assumption) ?_
            rotate_left 2
            · rw [hops.out]; simp only [List.getElem?_toArray, List.getElem?_cons_succ, List.getElem?_cons_zero]; rfl
            · rw [hops.out]; kernel_rfl
            · intro W hW; (try dsimp only at hW); go_simp <;> with_reducible rfl
            · exact fun _ _ _ h => h
            try simp only [Act.put, List.setIfInBounds_toArray, List.set_cons_zero, List.set_cons_succ]
            refine take_do 7 (oi := ?_) (v := ?_) ?_ (by rw [hops.out]; kernel_rfl) ?_ ?_ ?_ (by assumption) ?_
            rotate_left 2
            · rw [hops.out]; simp only [List.getElem?_toArray, List.getElem?_cons_succ, List.getElem?_cons_zero]; rfl
            · rw [hops.out]; kernel_rfl
            · intro W hW; (try dsimp only at hW); go_simp <;> with_reducible rfl
            · exact fun _ _ _ h => h
            try simp only [Act.put, List.setIfInBounds_toArray, List.set_cons_zero, List.set_cons_succ]
            refine take_do 8 (oi := ?_) (v := ?_) ?_ (by rw [hops.out]; kernel_rfl) ?_ ?_ ?_ (by assumption) ?_
            rotate_left 2
            · rw [hops.out]; simp only [List.getElem?_toArray, List.getElem?_cons_succ, List.getElem?_cons_zero]; rfl
            · rw [hops.out]; kernel_rfl
            · intro W hW; (try dsimp only at hW); go_simp <;> with_reducible rfl
            · exact fun _ _ _ h => h
            try simp only [Act.put, List.setIfInBounds_toArray, List.set_cons_zero, List.set_cons_succ]
            refine take_call 9 (oi := ?_) ?_ (by rw [hops.out]; kernel_rfl) ?_ ?_
            rotate_left 1
            · rw [hops.out]; simp only [List.getElem?_toArray, List.getElem?_cons_succ, List.getElem?_cons_zero]; rfl
            · rw [hops.out]; kernel_rfl
            intro K hK
            go_simp
            refine (HIK.out _).mono ?_
            rintro e w1 ⟨rfl, rfl⟩
            refine hK.out _ _ hHeld (fun _ => ?_)
            clear hK K
            try simp only [Act.put, List.setIfInBounds_toArray, List.set_cons_zero, List.set_cons_succ]
            refine take_do 10 (oi := ?_) (v := ?_) ?_ (by rw [hops.out]; kernel_rfl) ?_ ?_ ?_ (by assumption) ?_
            rotate_left 2
            · rw [hops.out]; simp only [List.getElem?_toArray, List.getElem?_cons_succ, List.getElem?_cons_zero]; rfl
            · rw [hops.out]; kernel_rfl
            · intro W hW; (try dsimp only at hW); go_simp <;> with_reducible rfl
            · exact fun _ _ _ h => h
            try simp only [Act.put, List.setIfInBounds_toArray, List.set_cons_zero, List.set_cons_succ]
            refine take_do 11 (oi := ?_) (v := ?_) ?_ (by rw [hops.out]; kernel_rfl) ?_ ?_ ?_ (by assumption) ?_
            rotate_left 2
            · rw [hops.out]; simp only [List.getElem?_toArray, List.getElem?_cons_succ, List.getElem?_cons_zero]; rfl
            · rw [hops.out]; kernel_rfl
            · intro W hW; (try dsimp only at hW); go_simp <;> with_reducible rfl
            · exact fun _ _ _ h => h
            try simp only [Act.put, List.setIfInBounds_toArray, List.set_cons_zero, List.set_cons_succ]
            refine take_do 12 (oi := ?_) (v := ?_) ?_ (by rw [hops.out]; kernel_rfl) ?_ ?_ ?_ (by assumption) ?_
            rotate_left 2
            · rw [hops.out]; simp only [List.getElem?_toArray, List.getElem?_cons_succ, List.getElem?_cons_zero]; rfl
            · rw [hops.out]; kernel_rfl
            · intro W hW; (try dsimp only at hW); go_simp <;> with_reducible rfl
            · exact fun _ _ _ h => h
            try simp only [Act.put, List.setIfInBounds_toArray, List.set_cons_zero, List.set_cons_succ]
            refine take_do 13 (oi := ?_) (v := ?_) ?_ (by rw [hops.out]; kernel_rfl) ?_ ?_ ?_ (by assumption) ?_
            rotate_left 2
            · rw [hops.out]; simp only [List.getElem?_toArray, List.getElem?_cons_succ, List.getElem?_cons_zero]; rfl
            · rw [hops.out]; kernel_rfl
            · intro W hW; (try dsimp only at hW); go_simp <;> with_reducible rfl
            · exact fun _ _ _ h => h
            try simp only [Act.put, List.setIfInBounds_toArray, List.set_cons_zero, List.set_cons_succ]
            refine take_do 14 (oi := ?_) (v := ?_) ?_ (by rw [hops.out]; kernel_rfl) ?_ ?_ ?_ (by assumption) ?_
            rotate_left 2
            · rw [hops.out]; simp only [List.getElem?_toArray, List.getElem?_cons_succ, List.getElem?_cons_zero]; rfl
            · rw [hops.out]; kernel_rfl
            · intro W hW; (try dsimp only at hW); go_simp <;> with_reducible rfl
            · exact fun _ _ _ h => h
            try simp only [Act.put, List.setIfInBounds_toArray, List.set_cons_zero, List.set_cons_succ]
            refine take_call 15 (oi := ?_) ?_ (by rw [hops.out]; kernel_rfl) ?_ ?_
            rotate_left 1
            · rw [hops.out]; simp only [List.getElem?_toArray, List.getElem?_cons_succ, List.getElem?_cons_zero]; rfl
            · rw [hops.out]; kernel_rfl
            intro K hK
            go_simp
            refine (HIC.out _).mono ?_
            rintro e w1 ⟨rfl, rfl⟩
            refine hK.out _ _ hHeld (fun _ => ?_)
            clear hK K
            try simp only [Act.put, List.setIfInBounds_toArray, List.set_cons_zero, List.set_cons_succ]
            refine take_do 16 (oi := ?_) (v := ?_) ?_ (by rw [hops.out]; kernel_rfl) ?_ ?_ ?_ (by assumption) ?_
            rotate_left 2
            · rw [hops.out]; simp only [List.getElem?_toArray, List.getElem?_cons_succ, List.getElem?_cons_zero]; rfl
            · rw [hops.out]; kernel_rfl
            · intro W hW; (try dsimp only at hW); go_simp <;> with_reducible rfl
            · exact fun _ _ _ h => h
            try simp only [Act.put, List.setIfInBounds_toArray, List.set_cons_zero, List.set_cons_succ]
            refine take_do 17 (oi := ?_) (v := ?_) ?_ (by rw [hops.out]; kernel_rfl) ?_ ?_ ?_ (by assumption) ?_
            rotate_left 2
            · rw [hops.out]; simp only [List.getElem?_toArray, List.getElem?_cons_succ, List.getElem?_cons_zero]; rfl
            · rw [hops.out]; kernel_rfl
            · intro W hW; (try dsimp only at hW); go_simp <;> with_reducible rfl
            · exact fun _ _ _ h => h
            try simp only [Act.put, List.setIfInBounds_toArray, List.set_cons_zero, List.set_cons_succ]
            refine take_do 18 (oi := ?_) (v := ?_) ?_ (by rw [hops.out]; kernel_rfl) ?_ ?_ ?_ (by assumption) ?_
            rotate_left 2
            · rw [hops.out]; simp only [List.getElem?_toArray, List.getElem?_cons_succ, List.getElem?_cons_zero]; rfl
            · rw [hops.out]; kernel_rfl
            · intro W hW; (try dsimp only at hW); go_simp <;> with_reducible rfl
            · exact fun _ _ _ h => h
            try simp only [Act.put, List.setIfInBounds_toArray, List.set_cons_zero, List.set_cons_succ]
            refine take_do 19 (oi := ?_) (v := ?_) ?_ (by rw [hops.out]; kernel_rfl) ?_ ?_ ?_ (by assumption) ?_
            rotate_left 2
            · rw [hops.out]; simp only [List.getElem?_toArray, List.getElem?_cons_succ, List.getElem?_cons_zero]; rfl
            · rw [hops.out]; kernel_rfl
            · intro W hW; (try dsimp only at hW); go_simp <;> with_reducible rfl
            · exact fun _ _ _ h => h
            try simp only [Act.put, List.setIfInBounds_toArray, List.set_cons_zero, List.set_cons_succ]
            refine take_do 20 (oi := ?_) (v := .bool true) ?_ (by rw [hops.out]; kernel_rfl) ?_ ?_ ?_ (by assumption) ?_
            rotate_left 1
            · rw [hops.out]; simp only [List.getElem?_toArray, List.getElem?_cons_succ, List.getElem?_cons_zero]; rfl
            · rw [hops.out]; kernel_rfl
            · intro W hW; (try dsimp only at hW); go_simp <;> (first | with_reducible rfl | (simp; omega) | omega)
            · exact fun _ _ _ h => h
            try simp only [Act.put, List.setIfInBounds_toArray, List.set_cons_zero, List.set_cons_succ]
            refine take_do 21 (oi := ?_) (v := ?_) ?_ (by rw [hops.out]; kernel_rfl) ?_ ?_ ?_ (by assumption) ?_
            rotate_left 2
            · rw [hops.out]; simp only [List.getElem?_toArray, List.getElem?_cons_succ, List.getElem?_cons_zero]; rfl
            · rw [hops.out]; kernel_rfl
            · intro W hW; (try dsimp only at hW); go_simp <;> with_reducible rfl
            · exact fun _ _ _ h => h
            try simp only [Act.put, List.setIfInBounds_toArray, List.set_cons_zero, List.set_cons_succ]
            refine take_do 22 (oi := ?_) (v := ?_) ?_ (by rw [hops.out]; kernel_rfl) ?_ ?_ ?_ (by assumption) ?_
            rotate_left 2
            · rw [hops.out]; simp only [List.getElem?_toArray, List.getElem?_cons_succ, List.getElem?_cons_zero]; rfl
            · rw [hops.out]; kernel_rfl
            · intro W hW; (try dsimp only at hW); go_simp <;> with_reducible rfl
            · exact fun _ _ _ h => h
            try simp only [Act.put, List.setIfInBounds_toArray, List.set_cons_zero, List.set_cons_succ]
            refine take_do 23 (oi := ?_) (v := ?_) ?_ (by rw [hops.out]; kernel_rfl) ?_ ?_ ?_ (by assumption) ?_
            rotate_left 2
            · rw [hops.out]; simp only [List.getElem?_toArray, List.getElem?_cons_succ, List.getElem?_cons_zero]; rfl
            · rw [hops.out]; kernel_rfl
            · intro W hW; (try dsimp only at hW); go_simp <;> with_reducible rfl
            · exact fun _ _ _ h => h
            try simp only [Act.put, List.setIfInBounds_toArray, List.set_cons_zero, List.set_cons_succ]
            refine take_do 24 (oi := ?_) (v := ?_) ?_ (by rw [hops.out]; kernel_rfl) ?_ ?_ ?_ (by assumption) ?_
            rotate_left 2
            · rw [hops.out]; simp only [List.getElem?_toArray, List.getElem?_cons_succ, List.getElem?_cons_zero]; rfl
            · rw [hops.out]; kernel_rfl
            · intro W hW; (try dsimp only at hW); go_simp <;> with_reducible rfl
            · exact fun _ _ _ h => h
            try simp only [Act.put, List.setIfInBounds_toArray, List.set_cons_zero, List.set_cons_succ]
            refine take_do 25 (oi := ?_) (v := ?_) ?_ (by rw [hops.out]; kernel_rfl) ?_ ?_ ?_ (by assumption) ?_
            rotate_left 2
            · rw [hops.out]; simp only [List.getElem?_toArray, List.getElem?_cons_succ, List.getElem?_cons_zero]; rfl
            · rw [hops.out]; kernel_rfl
            · intro W hW; (try dsimp only at hW); go_simp <;> with_reducible rfl
            · exact fun _ _ _ h => h
            try simp only [Act.put, List.setIfInBounds_toArray, List.set_cons_zero, List.set_cons_succ]
            refine take_do 26 (oi := ?_) (v := ?_) ?_ (by rw [hops.out]; kernel_rfl) ?_ ?_ ?_ (by assumption) ?_
            rotate_left 2
            · rw [hops.out]; simp only [List.getElem?_toArray, List.getElem?_cons_succ, List.getElem?_cons_zero]; rfl
            · rw [hops.out]; kernel_rfl
            · intro W hW; (try dsimp only at hW); go_simp <;> with_reducible rfl
            · exact fun _ _ _ h => h
            try simp only [Act.put, List.setIfInBounds_toArray, List.set_cons_zero, List.set_cons_succ]
            refine take_do 27 (oi := ?_) (v := ?_) ?_ (by rw [hops.out]; kernel_rfl) ?_ ?_ ?_ (by assumption) ?_
            rotate_left 2
            · rw [hops.out]; simp only [List.getElem?_toArray, List.getElem?_cons_succ, List.getElem?_cons_zero]; rfl
            · rw [hops.out]; kernel_rfl
            · intro W hW; (try dsimp only at hW); go_simp <;> with_reducible rfl
            · exact fun _ _ _ h => h
            try simp only [Act.put, List.setIfInBounds_toArray, List.set_cons_zero, List.set_cons_succ]
            refine take_do 28 (oi := ?_) (v := ?_) ?_ (by rw [hops.out]; kernel_rfl) ?_ ?_ ?_ (by assumption) ?_
            rotate_left 2
            · rw [hops.out]; simp only [List.getElem?_toArray, List.getElem?_cons_succ, List.getElem?_cons_zero]; rfl
            · rw [hops.out]; kernel_rfl
            · intro W hW; (try dsimp only at hW); go_simp <;> with_reducible rfl
            · exact fun _ _ _ h => h
            try simp only [Act.put, List.setIfInBounds_toArray, List.set_cons_zero, List.set_cons_succ]
            refine take_call 29 (oi := ?_) ?_ (by rw [hops.out]; kernel_rfl) ?_ ?_
            rotate_left 1
            · rw [hops.out]; simp only [List.getElem?_toArray, List.getElem?_cons_succ, List.getElem?_cons_zero]; rfl
            · rw [hops.out]; kernel_rfl
            intro K hK
            go_simp
            refine (HAH.out _).mono ?_
            rintro e w2 ⟨rfl, hbc2⟩
            refine hK.out _ _ ?_ (fun hHeld3 => ?_)
            · refine ⟨?_, ?_, ?_, ?_, ?_, ?_, ?_, ?_, ?_, ?_⟩ <;> (rw [hbc2.cell (by assumption)]; assumption)
            clear hK K
            try simp only [Act.put, List.setIfInBounds_toArray, List.set_cons_zero, List.set_cons_succ]
            refine take_do 30 (oi := ?_) (v := ?_) ?_ (by rw [hops.out]; kernel_rfl) ?_ ?_ ?_ (by assumption) ?_
            rotate_left 2
            · rw [hops.out]; simp only [List.getElem?_toArray, List.getElem?_cons_succ, List.getElem?_cons_zero]; rfl
            · rw [hops.out]; kernel_rfl
            · intro W hW; (try dsimp only at hW); go_simp <;> with_reducible rfl
            · exact fun _ _ _ h => h
            try simp only [Act.put, List.setIfInBounds_toArray, List.set_cons_zero, List.set_cons_succ]
            refine take_do 31 (oi := ?_) (v := ?_) ?_ (by rw [hops.out]; kernel_rfl) ?_ ?_ ?_ (by assumption) ?_
            rotate_left 2
            · rw [hops.out]; simp only [List.getElem?_toArray, List.getElem?_cons_succ, List.getElem?_cons_zero]; rfl
            · rw [hops.out]; kernel_rfl
            · intro W hW; (try dsimp only at hW); go_simp <;> with_reducible rfl
            · exact fun _ _ _ h => h
            try simp only [Act.put, List.setIfInBounds_toArray, List.set_cons_zero, List.set_cons_succ]
            refine take_do 32 (oi := ?_) (v := ?_) ?_ (by rw [hops.out]; kernel_rfl) ?_ ?_ ?_ (by assumption) ?_
            rotate_left 2
            · rw [hops.out]; simp only [List.getElem?_toArray, List.getElem?_cons_succ, List.getElem?_cons_zero]; rfl
            · rw [hops.out]; kernel_rfl
            · intro W hW; (try dsimp only at hW); go_simp <;> with_reducible rfl
            · exact fun _ _ _ h => h
            try simp only [Act.put, List.setIfInBounds_toArray, List.set_cons_zero, List.set_cons_succ]
            refine wpAnyH_done (by rw [hops.out]; kernel_rfl) ?_ _
            clear hops ops
            have B2 : Below w.heap.size w w2 := BW.drew.trans (hbc2.mono BW.size)
            have hx2 : w2.heap[w.heap.size]? = some (.cells #[.int .i64 n, .slice a1 ls.length c1, .slice (some ⟨b, off, none⟩) ts.length c2] 25) := by rw [hbc2.block _ hxq]; exact HX9.out
            have HX2 := hide hx2
            clear hx2
            cases q2
            · have hf : netOkI ⟨n, ls, ts⟩ = false := by rw [HNET2.out]; unfold ascB; rw [all_false hlt HAT2.out]; simp
              have HF := hide hf
              clear hf
              go_wp2
              go_ret
              exact ⟨ret_bool HF.out, B2⟩
            · go_wp2
              exact ⟨⟨k + 1, by omega, by go_num, next_true HALL.out HAT1.out, next_true HASC.out HAT2.out, B2, HX2.out⟩, by simp [intOf]; omega⟩
        · have hfin : netOkI ⟨n, ls, ts⟩ = true := by
            have e1 : allOk (thOkB n) ts = true := all_true fun i hi => HALL.out i (by omega)
            have e2 : ascB ordT ts = true := all_true fun i hi => HASC.out i (by omega)
            rw [HNET2.out, e1, e2]; rfl
          have HFIN := hide hfin
          clear hfin
          go_wp2
          go_ret
          exact ⟨ret_bool HFIN.out, hnx⟩
end Go.Proofs.YtpiookjdeopmgaaDoor
