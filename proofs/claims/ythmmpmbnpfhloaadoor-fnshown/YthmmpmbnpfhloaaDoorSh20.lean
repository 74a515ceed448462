/-
  spec.l03Net: some right net.
-/
import Derived.Test.YthmmpmbnpfhloaaDoorSh19
namespace Go.Proofs.YthmmpmbnpfhloaaDoor
open Go.RowKit

set_option linter.unusedSimpArgs false

theorem four_cells (w : World) : ∀ k, k < 4 → ∃ z : Int, (0 ≤ z ∧ z ≤ 2) ∧ (w.alloc (.cells #[.int .i64 0, .int .i64 0, .int .i64 1, .int .i64 2] 3)).cell? ⟨w.heap.size, k, none⟩ = some (.int .i64 z) := by
  intro k hk
  have h := cells_at (heap_alloc_new w (.cells #[.int .i64 0, .int .i64 0, .int .i64 1, .int .i64 2] 3)) k
  match k, hk with
  | 0, _ => exact ⟨0, by omega, h⟩
  | 1, _ => exact ⟨0, by omega, h⟩
  | 2, _ => exact ⟨1, by omega, h⟩
  | 3, _ => exact ⟨2, by omega, h⟩

set_option maxRecDepth 100000 in
set_option maxHeartbeats 8000000 in
theorem net_fine (p : Nat) (a : Option Addr) (len cap : Nat) (w : World) (hc : Cur w p a len cap) :
    Calls Tryd.prog 17 #[.pointer (some ⟨p, 0, none⟩)] w fun e w' => ∃ (x : NetD) (v1 v2 : Value), e = .returned (.agg #[.int .i64 x.n, v1, v2]) ∧ netOkI x = true ∧ w'.ownsRow w.heap.size 62 4 v1 x.ls.length (flat lkE x.ls) ∧ w'.ownsRow w.heap.size 66 4 v2 x.ts.length (flat thE x.ts) ∧ Cur w' p a len cap ∧ Below p w w' ∧ w.grownBy w' (some p) := by
  have hp := lt_of_cur hc
  have HC := hide hc
  clear hc
  go_enter Tryd.func17, Tryd.ntmps17
  go_wp2_with fail
  refine (below_any p a len cap 4 _ (cur_alloc HC.out _) (by omega) (by omega)).mono ?_
  rintro e w1 ⟨y0, rfl, hy0, hy1, hc1, hg1⟩
  have hsz1 : w.heap.size < w1.heap.size := by have := hg1.size; simp at this; omega
  have st0 : NetSt w (w1.alloc (.cells #[.int .i64 (2 + y0), .slice none 0 0, .slice none 0 0] 45)) p w.heap.size w1.heap.size a len cap (2 + y0) (.slice none 0 0) (.slice none 0 0) [] [] :=
    { cur := cur_alloc hc1 _
      bel := (((Below.refl p w).alloc (by omega) _).grown hg1 (by simp; omega) (fun k hk => by simp at hk; omega)).alloc (by omega) _
      new := Nat.le_refl _
      gro := grown_trans (grown_trans (World.grownBy_alloc w _ _) hg1) (World.grownBy_alloc w1 _ _)
      box := heap_alloc_new w1 _
      res := by
        rw [Below.heap_alloc _ _ _ hsz1, hg1.block _ (by simp) (by simp; omega)]
        exact heap_alloc_new w _
      o1 := ⟨by simp [flat], .inl ⟨rfl, rfl⟩⟩
      o2 := ⟨by simp [flat], .inl ⟨rfl, rfl⟩⟩ }
  have ST0 := hide st0
  clear hc1 hg1 st0 HC
  go_wp2
  go_loopw [4] (fun i wr => ∃ (k : Nat) (v1 : Value) (ls : List Lk), k ≤ 7 ∧ i = .int .i64 k ∧ NetSt w wr p w.heap.size w1.heap.size a len cap (2 + y0) v1 (.slice none 0 0) ls [] ∧ RightL (2 + y0) ls ∧ ls.length ≤ 12) (fun i _ => 8 - (intOf i).toNat)
  case atStart => exact ⟨0, _, [], by omega, rfl, ST0.out, ⟨fun x hx => by simp at hx, List.Pairwise.nil⟩, by simp⟩
  case round =>
    clear ST0
    obtain ⟨k, v1, ls, hk, rfl, st, hr, hll⟩ := hrel
    obtain ⟨b1, c1, rfl⟩ := LinksAt.shape (owns_rowAt st.o1)
    have g0 := cells_at st.box 0
    simp at g0
    have STD := hide st.drew
    have HR := hide hr
    clear hr st
    go_wp2
    go_region_held3 (fun W => W.cell? ⟨w1.heap.size, 0, none⟩ = some (.int .i64 (2 + y0))) (first | go_keep | exact hg2.cell (by assumption) (by simp; omega)) (first | (go_at_call 11; refine (below_any p a len cap 3 _ STD.out.cur ?_ ?_).mono ?_; omega; omega; rintro e w2 ⟨y, rfl, hy2, hy3, hc2, hg2⟩))
    have st2 := STD.out.grown hc2 hg2 hp hsz1
    have ST2 := hide st2
    have s0 := cells_at st2.box 0
    simp at s0
    clear hc2 hg2 st2 STD g0
    rw [show IntKind.i64.wrap (2 + y0 + y) = 2 + y0 + y from wrap_fit _ (by omega) (by omega)]
    by_cases hcond : (k : Int) < 2 + y0 + y
    case neg =>
      have wo : World := wr
      go_wp2
      clear hcond hk
      go_loopw [8] (fun i wr => ∃ (k : Nat) (v2 : Value) (ts : List Th), k ≤ 2 ∧ i = .int .i64 k ∧ NetSt w wr p w.heap.size w1.heap.size a len cap (2 + y0) (.slice b1 ls.length c1) v2 ls ts ∧ RightT (2 + y0) ts ∧ ts.length ≤ k) (fun i _ => 3 - (intOf i).toNat)
      case atStart => exact ⟨0, _, [], by omega, rfl, ST2.out, ⟨fun x hx => by simp at hx, List.Pairwise.nil⟩, by simp⟩
      case round =>
        clear ST2 s0
        obtain ⟨k, v2, ts, hk, rfl, st, hrt, htl⟩ := hrel
        obtain ⟨b2, c2, rfl⟩ := ThingsAt.shape (owns_rowAt st.o2)
        have ST := hide st
        have HRT := hide hrt
        clear st hrt
        go_wp2_with fail
        refine (below_any p a len cap 3 _ ST.out.cur (by omega) (by omega)).mono ?_
        rintro e w3 ⟨y3, rfl, hy30, hy31, hc3, hg3⟩
        have st3 := ST.out.grown hc3 hg3 hp hsz1
        clear hc3 hg3 ST
        have e0 := st3.c0
        have e1 := st3.c1
        have e2 := st3.c2
        by_cases hcond : (k : Int) < y3
        · have hk1 : k ≤ 1 := by omega
          have st4 := st3.drew
          have d0 := st4.c0
          have d2 := st4.c2
          clear st3 e0 e1 e2
          go_wp2
          go_region_with (first | (go_at_call 11; refine (below_any p a len cap _ _ (show NetSt w _ p w.heap.size w1.heap.size a len cap (2 + y0) (.slice b1 ls.length c1) (.slice b2 ts.length c2) ls ts from by assumption).cur ?_ ?_).mono ?_; omega; omega; rintro e wx ⟨yy, rfl, hh0, hh1, hcc, hgg⟩; have hwr : IntKind.i64.wrap (1 + yy) = 1 + yy := wrap_fit _ (by omega) (by omega); have stx := (show NetSt w _ p w.heap.size w1.heap.size a len cap (2 + y0) (.slice b1 ls.length c1) (.slice b2 ts.length c2) ls ts from by assumption).grown hcc hgg hp hsz1; have ex0 := stx.c0; have ex2 := stx.c2; clear hcc hgg) | (go_at_call 18; refine (once_any p a len cap _ _ (show NetSt w _ p w.heap.size w1.heap.size a len cap (2 + y0) (.slice b1 ls.length c1) (.slice b2 ts.length c2) ls ts from by assumption).cur ?_ ?_).mono ?_; omega; omega; rintro e wx ⟨ff, rfl, hcc, hgg⟩; have stx := (show NetSt w _ p w.heap.size w1.heap.size a len cap (2 + y0) (.slice b1 ls.length c1) (.slice b2 ts.length c2) ls ts from by assumption).grown hcc hgg hp hsz1; have ex0 := stx.c0; have ex2 := stx.c2; clear hcc hgg) | (go_at_call 27; refine (putT_any _ ts ⟨_, _, _, _⟩ _ ?_ (owns_rowAt (show NetSt w _ p w.heap.size w1.heap.size a len cap (2 + y0) (.slice b1 ls.length c1) (.slice b2 ts.length c2) ls ts from by assumption).o2)).mono ?_; omega; rintro e wy ⟨vv, rfl, oy, hby⟩; obtain ⟨b3, c3, rfl⟩ := ThingsAt.shape (owns_rowAt oy); have st8 := (show NetSt w _ p w.heap.size w1.heap.size a len cap (2 + y0) (.slice b1 ls.length c1) (.slice b2 ts.length c2) ls ts from by assumption).below hby; have st9 := (show NetSt w _ p w.heap.size w1.heap.size a len cap (2 + y0) (.slice b1 ls.length c1) (.slice b2 ts.length c2) ls ts from by assumption).put2 hby oy hp hsz1; have ex2 := st8.c2; have fx2 := frozen_at st8.box 2; clear oy hby st8))
          all_goals go_wp2
          all_goals exact ⟨⟨k + 1, _, _, by omega, by go_num, st9, right_putT HRT.out (thOk_of ⟨by omega, by omega⟩ ⟨by omega, by omega⟩ ⟨by omega, by omega⟩), Nat.le_trans (putT_len ts _) (by omega)⟩, by simp [intOf]; omega⟩
        · have r0 := cells_at st3.res 0
          have r1 := cells_at st3.res 1
          have r2 := cells_at st3.res 2
          have f0 := frozen_at st3.res 0
          have f1 := frozen_at st3.res 1
          have f2 := frozen_at st3.res 2
          simp at r0 r1 r2
          go_wp2
          have hfin : (((w3.setCell ⟨w.heap.size, 0, none⟩ (.int .i64 (2 + y0))).setCell ⟨w.heap.size, 1, none⟩ (.slice b1 ls.length c1)).setCell ⟨w.heap.size, 2, none⟩ (.slice b2 ts.length c2)).heap[w.heap.size]? = some (.cells #[.int .i64 (2 + y0), .slice b1 ls.length c1, .slice b2 ts.length c2] 45) := by
            have k1 := heap_setCell_same _ _ 0 _ _ (.int .i64 (2 + y0)) st3.res
            have k2 := heap_setCell_same _ _ 1 _ _ (.slice b1 ls.length c1) k1
            have k3 := heap_setCell_same _ _ 2 _ _ (.slice b2 ts.length c2) k2
            exact k3
          try simp only [Exit.inBlock, Exit.then]
          refine bodyPost_ret (results_cell_row rfl _ _ w.heap.size 45 #[.int .i64 (2 + y0), .slice b1 ls.length c1, .slice b2 ts.length c2] (0, 0) _ rfl hfin Tryd.underlying45 rfl (by kernel_rfl)) rfl ?_
          refine ⟨⟨2 + y0, ls, ts⟩, _, _, rfl, ?_, ?_, ?_, ?_, ?_, ?_⟩
          · unfold netOkI
            simp only []
            rw [inB_of (by omega) (by omega), linksB_of HR.out hll, thingsB_of HRT.out (by omega)]
            rfl
          · exact owns_baseS (owns_set (owns_set (owns_set st3.o1 (by omega)) (by omega)) (by omega)) (by omega)
          · exact owns_baseS (owns_set (owns_set (owns_set st3.o2 (by omega)) (by omega)) (by omega)) (by omega)
          · exact ((st3.cur.grown (grown_set _ _ _ _) (fun b hb => by simp; omega)).grown (grown_set _ _ _ _) (fun b hb => by simp; omega)).grown (grown_set _ _ _ _) (fun b hb => by simp; omega)
          · exact ((st3.bel.setCell (by show p ≤ w.heap.size; omega) _).setCell (by show p ≤ w.heap.size; omega) _).setCell (by show p ≤ w.heap.size; omega) _
          · refine ⟨st3.gro.os, st3.gro.tape, st3.gro.output, by have := st3.gro.size; simpa using this, fun b hb hne => ?_⟩
            rw [heap_setCell_other _ ⟨w.heap.size, 2, none⟩ _ _ (by show b ≠ w.heap.size; omega), heap_setCell_other _ ⟨w.heap.size, 1, none⟩ _ _ (by show b ≠ w.heap.size; omega), heap_setCell_other _ ⟨w.heap.size, 0, none⟩ _ _ (by show b ≠ w.heap.size; omega)]
            exact st3.gro.block b hb hne
    have hk6 : k ≤ 6 := by omega
    go_wp2_with fail
    refine (below_any p a len cap (2 + y0) _ ST2.out.cur (by omega) (by omega)).mono ?_
    rintro e w3 ⟨x, rfl, hx0, hx1, hc3, hg3⟩
    have st3 := ST2.out.grown hc3 hg3 hp hsz1
    have ST3 := hide st3
    have s0 := cells_at st3.box 0
    simp at s0
    clear hc3 hg3 st3 ST2
    go_wp2_with fail
    refine (below_any p a len cap (2 + y0) _ ST3.out.cur (by omega) (by omega)).mono ?_
    rintro e w4 ⟨x2, rfl, hx2, hx3, hc4, hg4⟩
    have st4 := ST3.out.grown hc4 hg4 hp hsz1
    have ST4 := hide st4
    have s0 := cells_at st4.box 0
    have s1 := cells_at st4.box 1
    simp at s0 s1
    clear hc4 hg4 st4 ST3
    obtain ⟨m, hm⟩ : ∃ m, (1 + x).tmod (2 + y0) = m := ⟨_, rfl⟩
    have hm1 : (1 + x < 2 + y0 ∧ m = 1 + x) ∨ (1 + x = 2 + y0 ∧ m = 0) := by
      rw [← hm, Int.tmod_eq_emod_of_nonneg (by omega)]
      by_cases h : 1 + x < 2 + y0
      · exact .inl ⟨h, Int.emod_eq_of_lt (by omega) h⟩
      · have e : 1 + x = 2 + y0 := by omega
        exact .inr ⟨e, by rw [e]; exact Int.emod_self⟩
    have hy00 : ¬ (2 + y0 = 0) := by omega
    go_wp2_with fail
    · have hab : 1 ≤ (k : Int) + 1 ∧ (k : Int) + 1 < (k : Int) + 2 ∧ (k : Int) + 2 ≤ 2 + y0 := by
        clear ST4 s0 s1 HR
        (try simp only [beq_eq_false_iff_ne, ne_eq, beq_iff_eq] at *)
        omega
      refine (below_any p a len cap 4 _ ST4.out.cur (by omega) (by omega)).mono ?_
      rintro e w5 ⟨c, rfl, hc0, hc9, hc5, hg5⟩
      have st5 := ST4.out.grown hc5 hg5 hp hsz1
      have ST5 := hide st5
      have hp5 := lt_of_cur st5.cur
      clear hc5 hg5 st5 ST4 s0 s1
      go_wp2_with fail
      refine (pickR_any (fun z => 0 ≤ z ∧ z ≤ 2) p a len cap w5.heap.size 4 _ (cur_alloc ST5.out.cur _) (by omega) (by omega) (by omega) (four_cells w5)).mono ?_
      rintro e w6 ⟨r, rfl, ⟨hr0, hr1⟩, hc6, hg6⟩
      have st6 := (ST5.out.alloc _).grown hc6 hg6 hp hsz1
      have ST6 := hide st6
      have s1 := cells_at st6.box 1
      have hbx := lt_of_heap st6.box
      simp at s1
      clear hc6 hg6 st6 ST5
      by_cases h12 : (ls.length : Int) < 12
      · go_wp2_with fail
        refine (putL_any _ ls ⟨(k : Int) + 1, (k : Int) + 2, 1 + c, r⟩ _ (by omega) (owns_rowAt (ST6.out.alloc _).o1)).mono ?_
        rintro e w7 ⟨v', rfl, o7, b7⟩
        obtain ⟨b2, c2, rfl⟩ := LinksAt.shape (owns_rowAt o7)
        have st7 := (ST6.out.alloc _).put1 b7 o7 hp hsz1
        have t1 := cells_at ((ST6.out.alloc (.cells #[.int .i64 ((k : Int) + 1), .int .i64 ((k : Int) + 2), .int .i64 (1 + c), .int .i64 r] 62)).below b7).box 1
        have f1 := frozen_at ((ST6.out.alloc (.cells #[.int .i64 ((k : Int) + 1), .int .i64 ((k : Int) + 2), .int .i64 (1 + c), .int .i64 r] 62)).below b7).box 1
        simp at t1
        have ST7 := hide st7
        have hr7 := right_putL HR.out (linkOk_of (n := 2 + y0) (c := 1 + c) (r := r) ⟨by omega, by omega⟩ hab.1 hab.2.1 hab.2.2 ⟨by omega, by omega⟩ ⟨hr0, hr1⟩)
        have HR7 := hide hr7
        have hl7 := putL_len ls ⟨(k : Int) + 1, (k : Int) + 2, 1 + c, r⟩
        have HL7 := hide hl7
        clear o7 b7 st7 hr7 hl7 ST6
        go_wp2
        exact ⟨⟨k + 1, _, putLk ls ⟨(k : Int) + 1, (k : Int) + 2, 1 + c, r⟩, by omega, by go_num, ST7.out, HR7.out, by have := HL7.out; omega⟩, by simp [intOf]; omega⟩
      · go_wp2
        exact ⟨⟨k + 1, _, ls, by omega, by go_num, ST6.out.alloc _, HR.out, hll⟩, by simp [intOf]; omega⟩
    · have hab : 1 ≤ m + 1 ∧ m + 1 < 1 + x ∧ 1 + x ≤ 2 + y0 := by
        clear ST4 s0 s1 HR
        (try simp only [beq_eq_false_iff_ne, ne_eq, beq_iff_eq] at *)
        omega
      refine (below_any p a len cap 4 _ ST4.out.cur (by omega) (by omega)).mono ?_
      rintro e w5 ⟨c, rfl, hc0, hc9, hc5, hg5⟩
      have st5 := ST4.out.grown hc5 hg5 hp hsz1
      have ST5 := hide st5
      have hp5 := lt_of_cur st5.cur
      clear hc5 hg5 st5 ST4 s0 s1
      go_wp2_with fail
      refine (pickR_any (fun z => 0 ≤ z ∧ z ≤ 2) p a len cap w5.heap.size 4 _ (cur_alloc ST5.out.cur _) (by omega) (by omega) (by omega) (four_cells w5)).mono ?_
      rintro e w6 ⟨r, rfl, ⟨hr0, hr1⟩, hc6, hg6⟩
      have st6 := (ST5.out.alloc _).grown hc6 hg6 hp hsz1
      have ST6 := hide st6
      have s1 := cells_at st6.box 1
      have hbx := lt_of_heap st6.box
      simp at s1
      clear hc6 hg6 st6 ST5
      by_cases h12 : (ls.length : Int) < 12
      · go_wp2_with fail
        refine (putL_any _ ls ⟨m + 1, 1 + x, 1 + c, r⟩ _ (by omega) (owns_rowAt (ST6.out.alloc _).o1)).mono ?_
        rintro e w7 ⟨v', rfl, o7, b7⟩
        obtain ⟨b2, c2, rfl⟩ := LinksAt.shape (owns_rowAt o7)
        have st7 := (ST6.out.alloc _).put1 b7 o7 hp hsz1
        have t1 := cells_at ((ST6.out.alloc (.cells #[.int .i64 (m + 1), .int .i64 (1 + x), .int .i64 (1 + c), .int .i64 r] 62)).below b7).box 1
        have f1 := frozen_at ((ST6.out.alloc (.cells #[.int .i64 (m + 1), .int .i64 (1 + x), .int .i64 (1 + c), .int .i64 r] 62)).below b7).box 1
        simp at t1
        have ST7 := hide st7
        have hr7 := right_putL HR.out (linkOk_of (n := 2 + y0) (c := 1 + c) (r := r) ⟨by omega, by omega⟩ hab.1 hab.2.1 hab.2.2 ⟨by omega, by omega⟩ ⟨hr0, hr1⟩)
        have HR7 := hide hr7
        have hl7 := putL_len ls ⟨m + 1, 1 + x, 1 + c, r⟩
        have HL7 := hide hl7
        clear o7 b7 st7 hr7 hl7 ST6
        go_wp2
        exact ⟨⟨k + 1, _, putLk ls ⟨m + 1, 1 + x, 1 + c, r⟩, by omega, by go_num, ST7.out, HR7.out, by have := HL7.out; omega⟩, by simp [intOf]; omega⟩
      · go_wp2
        exact ⟨⟨k + 1, _, ls, by omega, by go_num, ST6.out.alloc _, HR.out, hll⟩, by simp [intOf]; omega⟩
    · have hab : 1 ≤ 1 + x ∧ 1 + x < m + 1 ∧ m + 1 ≤ 2 + y0 := by
        clear ST4 s0 s1 HR
        (try simp only [beq_eq_false_iff_ne, ne_eq, beq_iff_eq] at *)
        omega
      refine (below_any p a len cap 4 _ ST4.out.cur (by omega) (by omega)).mono ?_
      rintro e w5 ⟨c, rfl, hc0, hc9, hc5, hg5⟩
      have st5 := ST4.out.grown hc5 hg5 hp hsz1
      have ST5 := hide st5
      have hp5 := lt_of_cur st5.cur
      clear hc5 hg5 st5 ST4 s0 s1
      go_wp2_with fail
      refine (pickR_any (fun z => 0 ≤ z ∧ z ≤ 2) p a len cap w5.heap.size 4 _ (cur_alloc ST5.out.cur _) (by omega) (by omega) (by omega) (four_cells w5)).mono ?_
      rintro e w6 ⟨r, rfl, ⟨hr0, hr1⟩, hc6, hg6⟩
      have st6 := (ST5.out.alloc _).grown hc6 hg6 hp hsz1
      have ST6 := hide st6
      have s1 := cells_at st6.box 1
      have hbx := lt_of_heap st6.box
      simp at s1
      clear hc6 hg6 st6 ST5
      by_cases h12 : (ls.length : Int) < 12
      · go_wp2_with fail
        refine (putL_any _ ls ⟨1 + x, m + 1, 1 + c, r⟩ _ (by omega) (owns_rowAt (ST6.out.alloc _).o1)).mono ?_
        rintro e w7 ⟨v', rfl, o7, b7⟩
        obtain ⟨b2, c2, rfl⟩ := LinksAt.shape (owns_rowAt o7)
        have st7 := (ST6.out.alloc _).put1 b7 o7 hp hsz1
        have t1 := cells_at ((ST6.out.alloc (.cells #[.int .i64 (1 + x), .int .i64 (m + 1), .int .i64 (1 + c), .int .i64 r] 62)).below b7).box 1
        have f1 := frozen_at ((ST6.out.alloc (.cells #[.int .i64 (1 + x), .int .i64 (m + 1), .int .i64 (1 + c), .int .i64 r] 62)).below b7).box 1
        simp at t1
        have ST7 := hide st7
        have hr7 := right_putL HR.out (linkOk_of (n := 2 + y0) (c := 1 + c) (r := r) ⟨by omega, by omega⟩ hab.1 hab.2.1 hab.2.2 ⟨by omega, by omega⟩ ⟨hr0, hr1⟩)
        have HR7 := hide hr7
        have hl7 := putL_len ls ⟨1 + x, m + 1, 1 + c, r⟩
        have HL7 := hide hl7
        clear o7 b7 st7 hr7 hl7 ST6
        go_wp2
        exact ⟨⟨k + 1, _, putLk ls ⟨1 + x, m + 1, 1 + c, r⟩, by omega, by go_num, ST7.out, HR7.out, by have := HL7.out; omega⟩, by simp [intOf]; omega⟩
      · go_wp2
        exact ⟨⟨k + 1, _, ls, by omega, by go_num, ST6.out.alloc _, HR.out, hll⟩, by simp [intOf]; omega⟩
    · have hab : 1 ≤ 1 + x2 ∧ 1 + x2 < 1 + x ∧ 1 + x ≤ 2 + y0 := by
        clear ST4 s0 s1 HR
        (try simp only [beq_eq_false_iff_ne, ne_eq, beq_iff_eq] at *)
        omega
      refine (below_any p a len cap 4 _ ST4.out.cur (by omega) (by omega)).mono ?_
      rintro e w5 ⟨c, rfl, hc0, hc9, hc5, hg5⟩
      have st5 := ST4.out.grown hc5 hg5 hp hsz1
      have ST5 := hide st5
      have hp5 := lt_of_cur st5.cur
      clear hc5 hg5 st5 ST4 s0 s1
      go_wp2_with fail
      refine (pickR_any (fun z => 0 ≤ z ∧ z ≤ 2) p a len cap w5.heap.size 4 _ (cur_alloc ST5.out.cur _) (by omega) (by omega) (by omega) (four_cells w5)).mono ?_
      rintro e w6 ⟨r, rfl, ⟨hr0, hr1⟩, hc6, hg6⟩
      have st6 := (ST5.out.alloc _).grown hc6 hg6 hp hsz1
      have ST6 := hide st6
      have s1 := cells_at st6.box 1
      have hbx := lt_of_heap st6.box
      simp at s1
      clear hc6 hg6 st6 ST5
      by_cases h12 : (ls.length : Int) < 12
      · go_wp2_with fail
        refine (putL_any _ ls ⟨1 + x2, 1 + x, 1 + c, r⟩ _ (by omega) (owns_rowAt (ST6.out.alloc _).o1)).mono ?_
        rintro e w7 ⟨v', rfl, o7, b7⟩
        obtain ⟨b2, c2, rfl⟩ := LinksAt.shape (owns_rowAt o7)
        have st7 := (ST6.out.alloc _).put1 b7 o7 hp hsz1
        have t1 := cells_at ((ST6.out.alloc (.cells #[.int .i64 (1 + x2), .int .i64 (1 + x), .int .i64 (1 + c), .int .i64 r] 62)).below b7).box 1
        have f1 := frozen_at ((ST6.out.alloc (.cells #[.int .i64 (1 + x2), .int .i64 (1 + x), .int .i64 (1 + c), .int .i64 r] 62)).below b7).box 1
        simp at t1
        have ST7 := hide st7
        have hr7 := right_putL HR.out (linkOk_of (n := 2 + y0) (c := 1 + c) (r := r) ⟨by omega, by omega⟩ hab.1 hab.2.1 hab.2.2 ⟨by omega, by omega⟩ ⟨hr0, hr1⟩)
        have HR7 := hide hr7
        have hl7 := putL_len ls ⟨1 + x2, 1 + x, 1 + c, r⟩
        have HL7 := hide hl7
        clear o7 b7 st7 hr7 hl7 ST6
        go_wp2
        exact ⟨⟨k + 1, _, putLk ls ⟨1 + x2, 1 + x, 1 + c, r⟩, by omega, by go_num, ST7.out, HR7.out, by have := HL7.out; omega⟩, by simp [intOf]; omega⟩
      · go_wp2
        exact ⟨⟨k + 1, _, ls, by omega, by go_num, ST6.out.alloc _, HR.out, hll⟩, by simp [intOf]; omega⟩
    · have hab : 1 ≤ 1 + x ∧ 1 + x < 1 + x2 ∧ 1 + x2 ≤ 2 + y0 := by
        clear ST4 s0 s1 HR
        (try simp only [beq_eq_false_iff_ne, ne_eq, beq_iff_eq] at *)
        omega
      refine (below_any p a len cap 4 _ ST4.out.cur (by omega) (by omega)).mono ?_
      rintro e w5 ⟨c, rfl, hc0, hc9, hc5, hg5⟩
      have st5 := ST4.out.grown hc5 hg5 hp hsz1
      have ST5 := hide st5
      have hp5 := lt_of_cur st5.cur
      clear hc5 hg5 st5 ST4 s0 s1
      go_wp2_with fail
      refine (pickR_any (fun z => 0 ≤ z ∧ z ≤ 2) p a len cap w5.heap.size 4 _ (cur_alloc ST5.out.cur _) (by omega) (by omega) (by omega) (four_cells w5)).mono ?_
      rintro e w6 ⟨r, rfl, ⟨hr0, hr1⟩, hc6, hg6⟩
      have st6 := (ST5.out.alloc _).grown hc6 hg6 hp hsz1
      have ST6 := hide st6
      have s1 := cells_at st6.box 1
      have hbx := lt_of_heap st6.box
      simp at s1
      clear hc6 hg6 st6 ST5
      by_cases h12 : (ls.length : Int) < 12
      · go_wp2_with fail
        refine (putL_any _ ls ⟨1 + x, 1 + x2, 1 + c, r⟩ _ (by omega) (owns_rowAt (ST6.out.alloc _).o1)).mono ?_
        rintro e w7 ⟨v', rfl, o7, b7⟩
        obtain ⟨b2, c2, rfl⟩ := LinksAt.shape (owns_rowAt o7)
        have st7 := (ST6.out.alloc _).put1 b7 o7 hp hsz1
        have t1 := cells_at ((ST6.out.alloc (.cells #[.int .i64 (1 + x), .int .i64 (1 + x2), .int .i64 (1 + c), .int .i64 r] 62)).below b7).box 1
        have f1 := frozen_at ((ST6.out.alloc (.cells #[.int .i64 (1 + x), .int .i64 (1 + x2), .int .i64 (1 + c), .int .i64 r] 62)).below b7).box 1
        simp at t1
        have ST7 := hide st7
        have hr7 := right_putL HR.out (linkOk_of (n := 2 + y0) (c := 1 + c) (r := r) ⟨by omega, by omega⟩ hab.1 hab.2.1 hab.2.2 ⟨by omega, by omega⟩ ⟨hr0, hr1⟩)
        have HR7 := hide hr7
        have hl7 := putL_len ls ⟨1 + x, 1 + x2, 1 + c, r⟩
        have HL7 := hide hl7
        clear o7 b7 st7 hr7 hl7 ST6
        go_wp2
        exact ⟨⟨k + 1, _, putLk ls ⟨1 + x, 1 + x2, 1 + c, r⟩, by omega, by go_num, ST7.out, HR7.out, by have := HL7.out; omega⟩, by simp [intOf]; omega⟩
      · go_wp2
        exact ⟨⟨k + 1, _, ls, by omega, by go_num, ST6.out.alloc _, HR.out, hll⟩, by simp [intOf]; omega⟩
end Go.Proofs.YthmmpmbnpfhloaaDoor
