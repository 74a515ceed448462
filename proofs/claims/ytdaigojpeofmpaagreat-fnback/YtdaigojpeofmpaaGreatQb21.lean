/-
  spec.l03Net: some right net.
  spec.DrawRightNet: some right net.
  spec.DrawRightNet: some right net, and which links and nodes are up.
  impl.placeOfNode, toldCost, Linked: their contracts; over a right store.
-/
import Derived.Test.YtdaigojpeofmpaaGreatQb20
import Derived.Maps.AppendAt
import Derived.Test.YtdaigojpeofmpaaGreatQb1
import Derived.Test.YtdaigojpeofmpaaGreatQb8
import Derived.Test.YtdaigojpeofmpaaGreatQb2
namespace Go.Proofs.YtdaigojpeofmpaaGreat
open Go.RowKit

set_option linter.unusedSimpArgs false

theorem four_cells (w : World) : ∀ k, k < 4 → ∃ z : Int, (0 ≤ z ∧ z ≤ 2) ∧ (w.alloc (.cells #[.int .i64 0, .int .i64 0, .int .i64 1, .int .i64 2] 3)).cell? ⟨w.heap.size, k, none⟩ = some (.int .i64 z) := by
  intro k hk
  have h := cells_at (heap_alloc_new w (.cells #[.int .i64 0, .int .i64 0, .int .i64 1, .int .i64 2] 3)) k
  match k, hk with
  | 0, _ => exact ⟨0, by omega, h⟩
  | 1, _ => exact ⟨0, by omega, h⟩
  | 2, _ => exact ⟨1, by omega, h⟩
  | 3, _ => exact ⟨2, by omega, h⟩

set_option maxRecDepth 100000 in
set_option maxHeartbeats 8000000 in
theorem net_any (p : Nat) (a : Option Addr) (len cap : Nat) (w : World) (hc : Cur w p a len cap) :
    Calls Tryz.prog 105 #[.pointer (some ⟨p, 0, none⟩)] w fun e w' => ∃ (x : NetD) (v1 v2 : Value), e = .returned (.agg #[.int .i64 x.n, v1, v2]) ∧ netOkI x = true ∧ w'.ownsRow w.heap.size 93 4 v1 x.ls.length (flat lkE x.ls) ∧ w'.ownsRow w.heap.size 96 4 v2 x.ts.length (flat thE x.ts) ∧ Cur w' p a len cap ∧ Below p w w' := by
  have hp := lt_of_cur hc
  have HC := hide hc
  clear hc
  go_enter Tryz.func105, Tryz.ntmps105
  go_wp2_with fail
  refine (below_any p a len cap 4 _ (cur_alloc HC.out _) (by omega) (by omega)).mono ?_
  rintro e w1 ⟨y0, rfl, hy0, hy1, hc1, hg1⟩
  have hsz1 : w.heap.size < w1.heap.size := by have := hg1.size; simp at this; omega
  have st0 : NetSt w (w1.alloc (.cells #[.int .i64 (2 + y0), .slice none 0 0, .slice none 0 0] 27)) p w.heap.size w1.heap.size a len cap (2 + y0) (.slice none 0 0) (.slice none 0 0) [] [] :=
    { cur := cur_alloc hc1 _
      bel := (((Below.refl p w).alloc (by omega) _).grown hg1 (by simp; omega) (fun k hk => by simp at hk; omega)).alloc (by omega) _
      box := heap_alloc_new w1 _
      res := by
        rw [Below.heap_alloc _ _ _ hsz1, hg1.block _ (by simp) (by simp; omega)]
        exact heap_alloc_new w _
      o1 := ⟨by simp [flat], .inl ⟨rfl, rfl⟩⟩
      o2 := ⟨by simp [flat], .inl ⟨rfl, rfl⟩⟩ }
  have ST0 := hide st0
  clear hc1 hg1 st0 HC
  go_wp2
  go_loopw [4] (fun i wr => ∃ (k : Nat) (v1 : Value) (ls : List Lk), k ≤ 7 ∧ i = .int .i64 k ∧ NetSt w wr p w.heap.size w1.heap.size a len cap (2 + y0) v1 (.slice none 0 0) ls [] ∧ RightL (2 + y0) ls ∧ ls.length ≤ 12) (fun i _ => 8 - (intOf i).toNat)
  case atStart => exact ⟨0, _, [], by omega, rfl, ST0.out, ⟨fun x hx => by simp at hx, List.Pairwise.nil⟩, by simp⟩
  case round =>
    clear ST0
    obtain ⟨k, v1, ls, hk, rfl, st, hr, hll⟩ := hrel
    obtain ⟨b1, c1, rfl⟩ := LinksAt.shape (owns_rowAt st.o1)
    have g0 := cells_at st.box 0
    simp at g0
    have STD := hide st.drew
    have HR := hide hr
    clear hr st
    go_wp2
    go_region_held3 (fun W => W.cell? ⟨w1.heap.size, 0, none⟩ = some (.int .i64 (2 + y0))) (first | go_keep | exact hg2.cell (by assumption) (by simp; omega)) (first | (go_at_call 85; refine (below_any p a len cap 3 _ STD.out.cur ?_ ?_).mono ?_; omega; omega; rintro e w2 ⟨y, rfl, hy2, hy3, hc2, hg2⟩))
    have st2 := STD.out.grown hc2 hg2 hp hsz1
    have ST2 := hide st2
    have s0 := cells_at st2.box 0
    simp at s0
    clear hc2 hg2 st2 STD g0
    rw [show IntKind.i64.wrap (2 + y0 + y) = 2 + y0 + y from wrap_fit _ (by omega) (by omega)]
    by_cases hcond : (k : Int) < 2 + y0 + y
    case neg =>
      have wo : World := wr
      go_wp2
      clear hcond hk
      go_loopw [8] (fun i wr => ∃ (k : Nat) (v2 : Value) (ts : List Th), k ≤ 2 ∧ i = .int .i64 k ∧ NetSt w wr p w.heap.size w1.heap.size a len cap (2 + y0) (.slice b1 ls.length c1) v2 ls ts ∧ RightT (2 + y0) ts ∧ ts.length ≤ k) (fun i _ => 3 - (intOf i).toNat)
      case atStart => exact ⟨0, _, [], by omega, rfl, ST2.out, ⟨fun x hx => by simp at hx, List.Pairwise.nil⟩, by simp⟩
      case round =>
        clear ST2 s0
        obtain ⟨k, v2, ts, hk, rfl, st, hrt, htl⟩ := hrel
        obtain ⟨b2, c2, rfl⟩ := ThingsAt.shape (owns_rowAt st.o2)
        have ST := hide st
        have HRT := hide hrt
        clear st hrt
        go_wp2_with fail
        refine (below_any p a len cap 3 _ ST.out.cur (by omega) (by omega)).mono ?_
        rintro e w3 ⟨y3, rfl, hy30, hy31, hc3, hg3⟩
        have st3 := ST.out.grown hc3 hg3 hp hsz1
        clear hc3 hg3 ST
        have e0 := st3.c0
        have e1 := st3.c1
        have e2 := st3.c2
        by_cases hcond : (k : Int) < y3
        · have hk1 : k ≤ 1 := by omega
          have st4 := st3.drew
          have d0 := st4.c0
          have d2 := st4.c2
          clear st3 e0 e1 e2
          go_wp2
          go_region_with (first | (go_at_call 85; refine (below_any p a len cap _ _ (show NetSt w _ p w.heap.size w1.heap.size a len cap (2 + y0) (.slice b1 ls.length c1) (.slice b2 ts.length c2) ls ts from by assumption).cur ?_ ?_).mono ?_; omega; omega; rintro e wx ⟨yy, rfl, hh0, hh1, hcc, hgg⟩; have hwr : IntKind.i64.wrap (1 + yy) = 1 + yy := wrap_fit _ (by omega) (by omega); have stx := (show NetSt w _ p w.heap.size w1.heap.size a len cap (2 + y0) (.slice b1 ls.length c1) (.slice b2 ts.length c2) ls ts from by assumption).grown hcc hgg hp hsz1; have ex0 := stx.c0; have ex2 := stx.c2; clear hcc hgg) | (go_at_call 106; refine (once_any p a len cap _ _ (show NetSt w _ p w.heap.size w1.heap.size a len cap (2 + y0) (.slice b1 ls.length c1) (.slice b2 ts.length c2) ls ts from by assumption).cur ?_ ?_).mono ?_; omega; omega; rintro e wx ⟨ff, rfl, hcc, hgg⟩; have stx := (show NetSt w _ p w.heap.size w1.heap.size a len cap (2 + y0) (.slice b1 ls.length c1) (.slice b2 ts.length c2) ls ts from by assumption).grown hcc hgg hp hsz1; have ex0 := stx.c0; have ex2 := stx.c2; clear hcc hgg) | (go_at_call 183; refine (putT_any _ ts ⟨_, _, _, _⟩ _ ?_ (owns_rowAt (show NetSt w _ p w.heap.size w1.heap.size a len cap (2 + y0) (.slice b1 ls.length c1) (.slice b2 ts.length c2) ls ts from by assumption).o2)).mono ?_; omega; rintro e wy ⟨vv, rfl, oy, hby⟩; obtain ⟨b3, c3, rfl⟩ := ThingsAt.shape (owns_rowAt oy); have st8 := (show NetSt w _ p w.heap.size w1.heap.size a len cap (2 + y0) (.slice b1 ls.length c1) (.slice b2 ts.length c2) ls ts from by assumption).below hby; have st9 := (show NetSt w _ p w.heap.size w1.heap.size a len cap (2 + y0) (.slice b1 ls.length c1) (.slice b2 ts.length c2) ls ts from by assumption).put2 hby oy hp hsz1; have ex2 := st8.c2; have fx2 := frozen_at st8.box 2; clear oy hby st8))
          all_goals go_wp2
          all_goals exact ⟨⟨k + 1, _, _, by omega, by go_num, st9, right_putT HRT.out (thOk_of ⟨by omega, by omega⟩ ⟨by omega, by omega⟩ ⟨by omega, by omega⟩), Nat.le_trans (putT_len ts _) (by omega)⟩, by simp [intOf]; omega⟩
        · have r0 := cells_at st3.res 0
          have r1 := cells_at st3.res 1
          have r2 := cells_at st3.res 2
          have f0 := frozen_at st3.res 0
          have f1 := frozen_at st3.res 1
          have f2 := frozen_at st3.res 2
          simp at r0 r1 r2
          go_wp2
          have hfin : (((w3.setCell ⟨w.heap.size, 0, none⟩ (.int .i64 (2 + y0))).setCell ⟨w.heap.size, 1, none⟩ (.slice b1 ls.length c1)).setCell ⟨w.heap.size, 2, none⟩ (.slice b2 ts.length c2)).heap[w.heap.size]? = some (.cells #[.int .i64 (2 + y0), .slice b1 ls.length c1, .slice b2 ts.length c2] 27) := by
            have k1 := heap_setCell_same _ _ 0 _ _ (.int .i64 (2 + y0)) st3.res
            have k2 := heap_setCell_same _ _ 1 _ _ (.slice b1 ls.length c1) k1
            have k3 := heap_setCell_same _ _ 2 _ _ (.slice b2 ts.length c2) k2
            exact k3
          try simp only [Exit.inBlock, Exit.then]
          refine bodyPost_ret (results_cell_row rfl _ _ w.heap.size 27 #[.int .i64 (2 + y0), .slice b1 ls.length c1, .slice b2 ts.length c2] (0, 0) _ rfl hfin Tryz.underlying27 rfl (by kernel_rfl)) rfl ?_
          refine ⟨⟨2 + y0, ls, ts⟩, _, _, rfl, ?_, ?_, ?_, ?_, ?_⟩
          · unfold netOkI
            simp only []
            rw [inB_of (by omega) (by omega), linksB_of HR.out hll, thingsB_of HRT.out (by omega)]
            rfl
          · exact owns_baseS (owns_set (owns_set (owns_set st3.o1 (by omega)) (by omega)) (by omega)) (by omega)
          · exact owns_baseS (owns_set (owns_set (owns_set st3.o2 (by omega)) (by omega)) (by omega)) (by omega)
          · exact ((st3.cur.grown (grown_set _ _ _ _) (fun b hb => by simp; omega)).grown (grown_set _ _ _ _) (fun b hb => by simp; omega)).grown (grown_set _ _ _ _) (fun b hb => by simp; omega)
          · exact ((st3.bel.setCell (by show p ≤ w.heap.size; omega) _).setCell (by show p ≤ w.heap.size; omega) _).setCell (by show p ≤ w.heap.size; omega) _
    have hk6 : k ≤ 6 := by omega
    go_wp2_with fail
    refine (below_any p a len cap (2 + y0) _ ST2.out.cur (by omega) (by omega)).mono ?_
    rintro e w3 ⟨x, rfl, hx0, hx1, hc3, hg3⟩
    have st3 := ST2.out.grown hc3 hg3 hp hsz1
    have ST3 := hide st3
    have s0 := cells_at st3.box 0
    simp at s0
    clear hc3 hg3 st3 ST2
    go_wp2_with fail
    refine (below_any p a len cap (2 + y0) _ ST3.out.cur (by omega) (by omega)).mono ?_
    rintro e w4 ⟨x2, rfl, hx2, hx3, hc4, hg4⟩
    have st4 := ST3.out.grown hc4 hg4 hp hsz1
    have ST4 := hide st4
    have s0 := cells_at st4.box 0
    have s1 := cells_at st4.box 1
    simp at s0 s1
    clear hc4 hg4 st4 ST3
    obtain ⟨m, hm⟩ : ∃ m, (1 + x).tmod (2 + y0) = m := ⟨_, rfl⟩
    have hm1 : (1 + x < 2 + y0 ∧ m = 1 + x) ∨ (1 + x = 2 + y0 ∧ m = 0) := by
      rw [← hm, Int.tmod_eq_emod_of_nonneg (by omega)]
      by_cases h : 1 + x < 2 + y0
      · exact .inl ⟨h, Int.emod_eq_of_lt (by omega) h⟩
      · have e : 1 + x = 2 + y0 := by omega
        exact .inr ⟨e, by rw [e]; exact Int.emod_self⟩
    have hy00 : ¬ (2 + y0 = 0) := by omega
    go_wp2_with fail
    · have hab : 1 ≤ (k : Int) + 1 ∧ (k : Int) + 1 < (k : Int) + 2 ∧ (k : Int) + 2 ≤ 2 + y0 := by
        clear ST4 s0 s1 HR
        (try simp only [beq_eq_false_iff_ne, ne_eq, beq_iff_eq] at *)
        omega
      refine (below_any p a len cap 4 _ ST4.out.cur (by omega) (by omega)).mono ?_
      rintro e w5 ⟨c, rfl, hc0, hc9, hc5, hg5⟩
      have st5 := ST4.out.grown hc5 hg5 hp hsz1
      have ST5 := hide st5
      have hp5 := lt_of_cur st5.cur
      clear hc5 hg5 st5 ST4 s0 s1
      go_wp2_with fail
      refine (pickR_any (fun z => 0 ≤ z ∧ z ≤ 2) p a len cap w5.heap.size 4 _ (cur_alloc ST5.out.cur _) (by omega) (by omega) (by omega) (four_cells w5)).mono ?_
      rintro e w6 ⟨r, rfl, ⟨hr0, hr1⟩, hc6, hg6⟩
      have st6 := (ST5.out.alloc _).grown hc6 hg6 hp hsz1
      have ST6 := hide st6
      have s1 := cells_at st6.box 1
      have hbx := lt_of_heap st6.box
      simp at s1
      clear hc6 hg6 st6 ST5
      by_cases h12 : (ls.length : Int) < 12
      · go_wp2_with fail
        refine (putL_any _ ls ⟨(k : Int) + 1, (k : Int) + 2, 1 + c, r⟩ _ (by omega) (owns_rowAt (ST6.out.alloc _).o1)).mono ?_
        rintro e w7 ⟨v', rfl, o7, b7⟩
        obtain ⟨b2, c2, rfl⟩ := LinksAt.shape (owns_rowAt o7)
        have st7 := (ST6.out.alloc _).put1 b7 o7 hp hsz1
        have t1 := cells_at ((ST6.out.alloc (.cells #[.int .i64 ((k : Int) + 1), .int .i64 ((k : Int) + 2), .int .i64 (1 + c), .int .i64 r] 93)).below b7).box 1
        have f1 := frozen_at ((ST6.out.alloc (.cells #[.int .i64 ((k : Int) + 1), .int .i64 ((k : Int) + 2), .int .i64 (1 + c), .int .i64 r] 93)).below b7).box 1
        simp at t1
        have ST7 := hide st7
        have hr7 := right_putL HR.out (linkOk_of (n := 2 + y0) (c := 1 + c) (r := r) ⟨by omega, by omega⟩ hab.1 hab.2.1 hab.2.2 ⟨by omega, by omega⟩ ⟨hr0, hr1⟩)
        have HR7 := hide hr7
        have hl7 := putL_len ls ⟨(k : Int) + 1, (k : Int) + 2, 1 + c, r⟩
        have HL7 := hide hl7
        clear o7 b7 st7 hr7 hl7 ST6
        go_wp2
        exact ⟨⟨k + 1, _, putLk ls ⟨(k : Int) + 1, (k : Int) + 2, 1 + c, r⟩, by omega, by go_num, ST7.out, HR7.out, by have := HL7.out; omega⟩, by simp [intOf]; omega⟩
      · go_wp2
        exact ⟨⟨k + 1, _, ls, by omega, by go_num, ST6.out.alloc _, HR.out, hll⟩, by simp [intOf]; omega⟩
    · have hab : 1 ≤ m + 1 ∧ m + 1 < 1 + x ∧ 1 + x ≤ 2 + y0 := by
        clear ST4 s0 s1 HR
        (try simp only [beq_eq_false_iff_ne, ne_eq, beq_iff_eq] at *)
        omega
      refine (below_any p a len cap 4 _ ST4.out.cur (by omega) (by omega)).mono ?_
      rintro e w5 ⟨c, rfl, hc0, hc9, hc5, hg5⟩
      have st5 := ST4.out.grown hc5 hg5 hp hsz1
      have ST5 := hide st5
      have hp5 := lt_of_cur st5.cur
      clear hc5 hg5 st5 ST4 s0 s1
      go_wp2_with fail
      refine (pickR_any (fun z => 0 ≤ z ∧ z ≤ 2) p a len cap w5.heap.size 4 _ (cur_alloc ST5.out.cur _) (by omega) (by omega) (by omega) (four_cells w5)).mono ?_
      rintro e w6 ⟨r, rfl, ⟨hr0, hr1⟩, hc6, hg6⟩
      have st6 := (ST5.out.alloc _).grown hc6 hg6 hp hsz1
      have ST6 := hide st6
      have s1 := cells_at st6.box 1
      have hbx := lt_of_heap st6.box
      simp at s1
      clear hc6 hg6 st6 ST5
      by_cases h12 : (ls.length : Int) < 12
      · go_wp2_with fail
        refine (putL_any _ ls ⟨m + 1, 1 + x, 1 + c, r⟩ _ (by omega) (owns_rowAt (ST6.out.alloc _).o1)).mono ?_
        rintro e w7 ⟨v', rfl, o7, b7⟩
        obtain ⟨b2, c2, rfl⟩ := LinksAt.shape (owns_rowAt o7)
        have st7 := (ST6.out.alloc _).put1 b7 o7 hp hsz1
        have t1 := cells_at ((ST6.out.alloc (.cells #[.int .i64 (m + 1), .int .i64 (1 + x), .int .i64 (1 + c), .int .i64 r] 93)).below b7).box 1
        have f1 := frozen_at ((ST6.out.alloc (.cells #[.int .i64 (m + 1), .int .i64 (1 + x), .int .i64 (1 + c), .int .i64 r] 93)).below b7).box 1
        simp at t1
        have ST7 := hide st7
        have hr7 := right_putL HR.out (linkOk_of (n := 2 + y0) (c := 1 + c) (r := r) ⟨by omega, by omega⟩ hab.1 hab.2.1 hab.2.2 ⟨by omega, by omega⟩ ⟨hr0, hr1⟩)
        have HR7 := hide hr7
        have hl7 := putL_len ls ⟨m + 1, 1 + x, 1 + c, r⟩
        have HL7 := hide hl7
        clear o7 b7 st7 hr7 hl7 ST6
        go_wp2
        exact ⟨⟨k + 1, _, putLk ls ⟨m + 1, 1 + x, 1 + c, r⟩, by omega, by go_num, ST7.out, HR7.out, by have := HL7.out; omega⟩, by simp [intOf]; omega⟩
      · go_wp2
        exact ⟨⟨k + 1, _, ls, by omega, by go_num, ST6.out.alloc _, HR.out, hll⟩, by simp [intOf]; omega⟩
    · have hab : 1 ≤ 1 + x ∧ 1 + x < m + 1 ∧ m + 1 ≤ 2 + y0 := by
        clear ST4 s0 s1 HR
        (try simp only [beq_eq_false_iff_ne, ne_eq, beq_iff_eq] at *)
        omega
      refine (below_any p a len cap 4 _ ST4.out.cur (by omega) (by omega)).mono ?_
      rintro e w5 ⟨c, rfl, hc0, hc9, hc5, hg5⟩
      have st5 := ST4.out.grown hc5 hg5 hp hsz1
      have ST5 := hide st5
      have hp5 := lt_of_cur st5.cur
      clear hc5 hg5 st5 ST4 s0 s1
      go_wp2_with fail
      refine (pickR_any (fun z => 0 ≤ z ∧ z ≤ 2) p a len cap w5.heap.size 4 _ (cur_alloc ST5.out.cur _) (by omega) (by omega) (by omega) (four_cells w5)).mono ?_
      rintro e w6 ⟨r, rfl, ⟨hr0, hr1⟩, hc6, hg6⟩
      have st6 := (ST5.out.alloc _).grown hc6 hg6 hp hsz1
      have ST6 := hide st6
      have s1 := cells_at st6.box 1
      have hbx := lt_of_heap st6.box
      simp at s1
      clear hc6 hg6 st6 ST5
      by_cases h12 : (ls.length : Int) < 12
      · go_wp2_with fail
        refine (putL_any _ ls ⟨1 + x, m + 1, 1 + c, r⟩ _ (by omega) (owns_rowAt (ST6.out.alloc _).o1)).mono ?_
        rintro e w7 ⟨v', rfl, o7, b7⟩
        obtain ⟨b2, c2, rfl⟩ := LinksAt.shape (owns_rowAt o7)
        have st7 := (ST6.out.alloc _).put1 b7 o7 hp hsz1
        have t1 := cells_at ((ST6.out.alloc (.cells #[.int .i64 (1 + x), .int .i64 (m + 1), .int .i64 (1 + c), .int .i64 r] 93)).below b7).box 1
        have f1 := frozen_at ((ST6.out.alloc (.cells #[.int .i64 (1 + x), .int .i64 (m + 1), .int .i64 (1 + c), .int .i64 r] 93)).below b7).box 1
        simp at t1
        have ST7 := hide st7
        have hr7 := right_putL HR.out (linkOk_of (n := 2 + y0) (c := 1 + c) (r := r) ⟨by omega, by omega⟩ hab.1 hab.2.1 hab.2.2 ⟨by omega, by omega⟩ ⟨hr0, hr1⟩)
        have HR7 := hide hr7
        have hl7 := putL_len ls ⟨1 + x, m + 1, 1 + c, r⟩
        have HL7 := hide hl7
        clear o7 b7 st7 hr7 hl7 ST6
        go_wp2
        exact ⟨⟨k + 1, _, putLk ls ⟨1 + x, m + 1, 1 + c, r⟩, by omega, by go_num, ST7.out, HR7.out, by have := HL7.out; omega⟩, by simp [intOf]; omega⟩
      · go_wp2
        exact ⟨⟨k + 1, _, ls, by omega, by go_num, ST6.out.alloc _, HR.out, hll⟩, by simp [intOf]; omega⟩
    · have hab : 1 ≤ 1 + x2 ∧ 1 + x2 < 1 + x ∧ 1 + x ≤ 2 + y0 := by
        clear ST4 s0 s1 HR
        (try simp only [beq_eq_false_iff_ne, ne_eq, beq_iff_eq] at *)
        omega
      refine (below_any p a len cap 4 _ ST4.out.cur (by omega) (by omega)).mono ?_
      rintro e w5 ⟨c, rfl, hc0, hc9, hc5, hg5⟩
      have st5 := ST4.out.grown hc5 hg5 hp hsz1
      have ST5 := hide st5
      have hp5 := lt_of_cur st5.cur
      clear hc5 hg5 st5 ST4 s0 s1
      go_wp2_with fail
      refine (pickR_any (fun z => 0 ≤ z ∧ z ≤ 2) p a len cap w5.heap.size 4 _ (cur_alloc ST5.out.cur _) (by omega) (by omega) (by omega) (four_cells w5)).mono ?_
      rintro e w6 ⟨r, rfl, ⟨hr0, hr1⟩, hc6, hg6⟩
      have st6 := (ST5.out.alloc _).grown hc6 hg6 hp hsz1
      have ST6 := hide st6
      have s1 := cells_at st6.box 1
      have hbx := lt_of_heap st6.box
      simp at s1
      clear hc6 hg6 st6 ST5
      by_cases h12 : (ls.length : Int) < 12
      · go_wp2_with fail
        refine (putL_any _ ls ⟨1 + x2, 1 + x, 1 + c, r⟩ _ (by omega) (owns_rowAt (ST6.out.alloc _).o1)).mono ?_
        rintro e w7 ⟨v', rfl, o7, b7⟩
        obtain ⟨b2, c2, rfl⟩ := LinksAt.shape (owns_rowAt o7)
        have st7 := (ST6.out.alloc _).put1 b7 o7 hp hsz1
        have t1 := cells_at ((ST6.out.alloc (.cells #[.int .i64 (1 + x2), .int .i64 (1 + x), .int .i64 (1 + c), .int .i64 r] 93)).below b7).box 1
        have f1 := frozen_at ((ST6.out.alloc (.cells #[.int .i64 (1 + x2), .int .i64 (1 + x), .int .i64 (1 + c), .int .i64 r] 93)).below b7).box 1
        simp at t1
        have ST7 := hide st7
        have hr7 := right_putL HR.out (linkOk_of (n := 2 + y0) (c := 1 + c) (r := r) ⟨by omega, by omega⟩ hab.1 hab.2.1 hab.2.2 ⟨by omega, by omega⟩ ⟨hr0, hr1⟩)
        have HR7 := hide hr7
        have hl7 := putL_len ls ⟨1 + x2, 1 + x, 1 + c, r⟩
        have HL7 := hide hl7
        clear o7 b7 st7 hr7 hl7 ST6
        go_wp2
        exact ⟨⟨k + 1, _, putLk ls ⟨1 + x2, 1 + x, 1 + c, r⟩, by omega, by go_num, ST7.out, HR7.out, by have := HL7.out; omega⟩, by simp [intOf]; omega⟩
      · go_wp2
        exact ⟨⟨k + 1, _, ls, by omega, by go_num, ST6.out.alloc _, HR.out, hll⟩, by simp [intOf]; omega⟩
    · have hab : 1 ≤ 1 + x ∧ 1 + x < 1 + x2 ∧ 1 + x2 ≤ 2 + y0 := by
        clear ST4 s0 s1 HR
        (try simp only [beq_eq_false_iff_ne, ne_eq, beq_iff_eq] at *)
        omega
      refine (below_any p a len cap 4 _ ST4.out.cur (by omega) (by omega)).mono ?_
      rintro e w5 ⟨c, rfl, hc0, hc9, hc5, hg5⟩
      have st5 := ST4.out.grown hc5 hg5 hp hsz1
      have ST5 := hide st5
      have hp5 := lt_of_cur st5.cur
      clear hc5 hg5 st5 ST4 s0 s1
      go_wp2_with fail
      refine (pickR_any (fun z => 0 ≤ z ∧ z ≤ 2) p a len cap w5.heap.size 4 _ (cur_alloc ST5.out.cur _) (by omega) (by omega) (by omega) (four_cells w5)).mono ?_
      rintro e w6 ⟨r, rfl, ⟨hr0, hr1⟩, hc6, hg6⟩
      have st6 := (ST5.out.alloc _).grown hc6 hg6 hp hsz1
      have ST6 := hide st6
      have s1 := cells_at st6.box 1
      have hbx := lt_of_heap st6.box
      simp at s1
      clear hc6 hg6 st6 ST5
      by_cases h12 : (ls.length : Int) < 12
      · go_wp2_with fail
        refine (putL_any _ ls ⟨1 + x, 1 + x2, 1 + c, r⟩ _ (by omega) (owns_rowAt (ST6.out.alloc _).o1)).mono ?_
        rintro e w7 ⟨v', rfl, o7, b7⟩
        obtain ⟨b2, c2, rfl⟩ := LinksAt.shape (owns_rowAt o7)
        have st7 := (ST6.out.alloc _).put1 b7 o7 hp hsz1
        have t1 := cells_at ((ST6.out.alloc (.cells #[.int .i64 (1 + x), .int .i64 (1 + x2), .int .i64 (1 + c), .int .i64 r] 93)).below b7).box 1
        have f1 := frozen_at ((ST6.out.alloc (.cells #[.int .i64 (1 + x), .int .i64 (1 + x2), .int .i64 (1 + c), .int .i64 r] 93)).below b7).box 1
        simp at t1
        have ST7 := hide st7
        have hr7 := right_putL HR.out (linkOk_of (n := 2 + y0) (c := 1 + c) (r := r) ⟨by omega, by omega⟩ hab.1 hab.2.1 hab.2.2 ⟨by omega, by omega⟩ ⟨hr0, hr1⟩)
        have HR7 := hide hr7
        have hl7 := putL_len ls ⟨1 + x, 1 + x2, 1 + c, r⟩
        have HL7 := hide hl7
        clear o7 b7 st7 hr7 hl7 ST6
        go_wp2
        exact ⟨⟨k + 1, _, putLk ls ⟨1 + x, 1 + x2, 1 + c, r⟩, by omega, by go_num, ST7.out, HR7.out, by have := HL7.out; omega⟩, by simp [intOf]; omega⟩
      · go_wp2
        exact ⟨⟨k + 1, _, ls, by omega, by go_num, ST6.out.alloc _, HR.out, hll⟩, by simp [intOf]; omega⟩
end Go.Proofs.YtdaigojpeofmpaaGreat
namespace Go.Proofs.YtdaigojpeofmpaaGreat
open Go.RowKit

theorem Tryz.infoB : (Tryz.prog.info? 4).map (fun i => (i.zero, i.size, i.bytes)) = some (some (.bool false), 1, 1) := by kernel_rfl

/-- what an append to a row above p leaves of the cursor -/
theorem Cur.appended {w w' : World} {p : Nat} {a : Option Addr} {len cap : Nat} {v : Value} {base : Nat} {e : TypeId} {n : Nat} {xs : List Value} (o : Obj) (h : Cur w p a len cap) (hown : w.ownsRow base e 1 v n xs) (hb : p < base) (hg : (w.alloc o).grownBy w' v.ownBlock) : Cur w' p a len cap := by
  have h1 : Cur (w.alloc o) p a len cap := h.grown (row := none) ⟨rfl, rfl, rfl, by simp, fun k hk _ => Below.heap_alloc _ _ _ hk⟩ (fun b _ => by simp)
  refine h1.grown hg (fun b hbp he => ?_)
  have := (hown.lt b he.symm).1
  omega

theorem new_at (p : Nat) (a : Option Addr) (len cap : Nat) (w : World) (hp : w.heap.size = p) (hc : Code w a len w.heap.size) :
    Calls Tryz.prog 59 #[.slice a len cap] w fun e w' => e = .returned (.pointer (some ⟨p, 0, none⟩)) ∧ Cur w' p a len cap ∧ Below p w w' := by
  subst hp
  exact new_any a len cap w hc

/-- 'append(out, y)' of one bool -/
theorem wpList_append_bool {P : Program} (w : World) {ops : Array Oper} {rest : List Oper} {o : Oper} {a : Act} {Q : Exit → Act → World → Prop} (hgd : o.guard = none) (s x : Operand) (t : TypeId)
    (ho : o.op = .call { callee := .builtin .append, args := #[s, x], argTypes := #[t, t] }) (base : Nat) (e : TypeId) (ht : P.underlying t = some (.slice e))
    (hinfo : (P.info? e).map (fun i => (i.zero, i.size, i.bytes)) = some (some (.bool false), 1, 1))
    (v : Value) (l : List Bool) (y : Bool) (hs : a.eval s = v) (hown : w.ownsRow base e 1 v l.length (flat blE l))
    (ad : Addr) (c : Nat) (hx : a.eval x = .slice (some ad) 1 c) (hnews : ∀ j u, (blE y)[j]? = some u → w.cell? (ad.add j) = some u)
    (hl : l.length + 1 ≤ 1000000000) (hbase : base ≤ w.heap.size)
    (h : ∀ v' w' l', Hid (l' = l ++ [y]) → w'.ownsRow base e 1 v' l'.length (flat blE l') → w.grownBy w' v.ownBlock → (v'.ownBlock = v.ownBlock ∨ v'.ownBlock = some w.heap.size) → wpList P ops Q rest (a.put o.dst v') w') : wpList P ops Q (o :: rest) a w := by
  obtain ⟨i0, hi, hz0, hz1, hz2⟩ := info_parts hinfo
  refine wpList_append_own_at w hgd s x t ho base e i0 (.bool false) 1 1 ht hi hz0 hz1 hz2 rfl (by decide) v l.length (flat blE l) hs hown ad 1 c (blE y) hx rfl hnews (blE_one y) (by unfold maxLen; omega) (by omega) hbase ?_
  intro v' w' h1 h2 _ h4
  have e1 : flat blE l ++ blE y = flat blE (l ++ [y]) := by rw [flat_append]; simp [flat]
  rw [e1] at h1
  exact h v' w' (l ++ [y]) rfl (by simpa using h1) h2 h4

/-- a row all of whose cells lie in blocks that stay -/
theorem owns_moved {w w' : World} {base size z p : Nat} {e : TypeId} {v : Value} {n : Nat} {xs : List Value} (h : w.ownsRow base e size v n xs) (hz : w.heap.size ≤ z) (hp : p < base) (hk : ∀ b, b < z → b ≠ p → w'.heap[b]? = w.heap[b]?) : w'.ownsRow base e size v n xs := by
  refine ⟨h.1, ?_⟩
  rcases h.2 with h2 | ⟨g, cap, cur, hv, hg, hh, r⟩
  · exact .inl h2
  · have := lt_of_heap hh
    exact .inr ⟨g, cap, cur, hv, hg, by rw [hk g (by omega) (by omega)]; exact hh, r⟩

theorem netOkI_n {x : NetD} (h : netOkI x = true) : 1 ≤ x.n ∧ x.n ≤ 6 := by
  simp [netOkI, inB] at h
  omega

theorem netOkI_l {x : NetD} (h : netOkI x = true) : x.ls.length ≤ 12 ∧ x.ts.length ≤ 4 := by
  simp [netOkI, linksB, thingsB] at h
  omega

structure DSt (w w5 wr : World) (p z : Nat) (a : Option Addr) (len cap : Nat) : Prop where
  cur : Cur wr p a len cap
  bel : Below w.heap.size w wr
  kept : ∀ b, b < z + 1 → b ≠ p → wr.heap[b]? = w5.heap[b]?
  size : z + 1 ≤ wr.heap.size

theorem DSt.grown {w w5 wr w' : World} {p z : Nat} {a : Option Addr} {len cap : Nat} (h : DSt w w5 wr p z a len cap) (hc : Cur w' p a len cap) (hg : wr.grownBy w' (some p)) (hp : w.heap.size ≤ p) : DSt w w5 w' p z a len cap where
  cur := hc
  bel := h.bel.grown hg h.bel.size (fun k hk => by simp at hk; omega)
  kept := fun b hb hbp => by rw [hg.block b (by have := h.size; omega) (by simp; exact hbp)]; exact h.kept b hb hbp
  size := Nat.le_trans h.size hg.size

theorem DSt.alloc {w w5 wr : World} {p z : Nat} {a : Option Addr} {len cap : Nat} (h : DSt w w5 wr p z a len cap) (o : Obj) : DSt w w5 (wr.alloc o) p z a len cap where
  cur := cur_alloc h.cur o
  bel := h.bel.alloc h.bel.size o
  kept := fun b hb hbp => by rw [Below.heap_alloc _ _ _ (by have := h.size; omega)]; exact h.kept b hb hbp
  size := by have := h.size; simp; omega

theorem DSt.appended {w w5 wr w' : World} {p z : Nat} {a : Option Addr} {len cap : Nat} {v : Value} {e : TypeId} {n : Nat} {xs : List Value} (o : Obj) (h : DSt w w5 wr p z a len cap) (hown : wr.ownsRow (z + 1) e 1 v n xs) (hp : p < z) (hw : w.heap.size ≤ z) (hg : (wr.alloc o).grownBy w' v.ownBlock) : DSt w w5 w' p z a len cap :=
  have h1 := h.alloc o
  { cur := h.cur.appended o hown (by omega) hg
    bel := h1.bel.grown hg h1.bel.size (fun k hk => by have := (hown.lt k hk).1; omega)
    kept := fun b hb hbp => by
      rw [hg.block b (by have := h1.size; omega) (fun he => by have := (hown.lt b he.symm).1; omega)]
      exact h1.kept b hb hbp
    size := Nat.le_trans h1.size hg.size }

end Go.Proofs.YtdaigojpeofmpaaGreat
namespace Go.Proofs.YtdaigojpeofmpaaGreat
open Go.RowKit

set_option maxRecDepth 100000 in
set_option maxHeartbeats 2000000 in
theorem drawRB_any (a : Option Addr) (len cap : Nat) (w : World) (hc : Code w a len w.heap.size) :
    Calls Tryz.prog 37 #[.slice a len cap] w fun e w' => ∃ (x : NetD) (v y z : Value) (ys zs : List Bool), e = .returned (.tuple #[v, y, z]) ∧ netOkI x = true ∧ NetAt w' v x w'.heap.size ∧ Hid (BoolsAt w' y ys w'.heap.size ∧ BoolsAt w' z zs w'.heap.size ∧ ys.length = x.ls.length ∧ (zs.length : Int) = x.n) ∧ Below w.heap.size w w' := by
  have HC := hide hc
  clear hc
  go_enter Tryz.func37, Tryz.ntmps37
  go_wp2_with fail
  refine (new_at (w.heap.size + 1) a len cap _ (by simp) (code_later HC.out ((Below.refl _ _).alloc (Nat.le_refl _) _))).mono ?_
  rintro e w1 ⟨rfl, hc1, hb1⟩
  have hr1 : w1.heap[w.heap.size]? = some (.cells #[.int .i64 0, .slice none 0 0, .slice none 0 0] 27) := by rw [hb1.block _ (by omega)]; exact heap_alloc_new w _
  have B1 : Below w.heap.size w w1 := ((Below.refl _ _).alloc (Nat.le_refl _) _).trans (hb1.mono (by omega))
  obtain ⟨p, hp⟩ : ∃ p, p = w.heap.size + 1 := ⟨_, rfl⟩
  rw [← hp] at hc1 hb1 ⊢
  have hp1 : w.heap.size < p := by omega
  clear hp
  have hpw := lt_of_cur hc1
  have HCC := hide hc1
  have HR1 := hide hr1
  clear hb1 hc1 hr1
  go_wp2_with fail
  refine (net_any p a len cap _ HCC.out).mono ?_
  rintro e w2 ⟨x, v1, v2, rfl, hok, o1, o2, hc2, hb2⟩
  obtain ⟨b1, c1, rfl⟩ := LinksAt.shape (owns_rowAt o1)
  obtain ⟨b2, c2, rfl⟩ := ThingsAt.shape (owns_rowAt o2)
  have hz2 : w1.heap.size ≤ w2.heap.size := hb2.size
  have hr2 : w2.heap[w.heap.size]? = some (.cells #[.int .i64 0, .slice none 0 0, .slice none 0 0] 27) := by rw [hb2.block _ (by omega)]; exact HR1.out
  have B2 : Below w.heap.size w w2 := B1.trans (hb2.mono (by omega))
  have HOK := hide hok
  have O1 := hide o1
  have O2 := hide o2
  have HC2 := hide hc2
  have HR2 := hide hr2
  clear hok o1 o2 hc2 hr2 hb2 HR1 HCC B1 HC
  obtain ⟨w5, hw5⟩ : ∃ w5, w5 = w2.alloc (.cells #[.int .i64 x.n, .slice b1 x.ls.length c1, .slice b2 x.ts.length c2] 27) := ⟨_, rfl⟩
  have st5 : DSt w w5 (((w2.alloc (.cells #[.int .i64 x.n, .slice b1 x.ls.length c1, .slice b2 x.ts.length c2] 27)).alloc (.cells #[] 4)).alloc (.cells #[] 4)) p w2.heap.size a len cap := by
    rw [← hw5]
    refine DSt.alloc (DSt.alloc ⟨?_, ?_, fun _ _ _ => rfl, ?_⟩ _) _
    · rw [hw5]; exact cur_alloc HC2.out _
    · rw [hw5]; exact B2.alloc B2.size _
    · rw [hw5]; simp
  have ST5 := hide st5
  have hbx : w5.heap[w2.heap.size]? = some (.cells #[.int .i64 x.n, .slice b1 x.ls.length c1, .slice b2 x.ts.length c2] 27) := by rw [hw5]; exact heap_alloc_new w2 _
  have HBX := hide hbx
  have HW5 := hide hw5
  clear st5 hbx hw5
  obtain ⟨z, hz⟩ : ∃ z, z = w2.heap.size := ⟨_, rfl⟩
  have hzz : p < z := by omega
  have hzw : w.heap.size ≤ z := by omega
  have OB : (((w2.alloc (.cells #[.int .i64 x.n, .slice b1 x.ls.length c1, .slice b2 x.ts.length c2] 27)).alloc (.cells #[] 4)).alloc (.cells #[] 4)).ownsRow (z + 1) 4 1 (.slice (some ⟨z + 1, 0, none⟩) 0 0) 0 [] ∧ (((w2.alloc (.cells #[.int .i64 x.n, .slice b1 x.ls.length c1, .slice b2 x.ts.length c2] 27)).alloc (.cells #[] 4)).alloc (.cells #[] 4)).heap[z + 2]? = some (.cells #[] 4) := by
    refine ⟨?_, ?_⟩
    · have h := (World.ownsRow_lit (base := z + 1) (e := 4) (size := 1) (w2.alloc (.cells #[.int .i64 x.n, .slice b1 x.ls.length c1, .slice b2 x.ts.length c2] 27)) #[] 0 (by simp; omega) (by decide) rfl).alloc (.cells #[] 4)
      simpa [hz] using h
    · have h := heap_alloc_new ((w2.alloc (.cells #[.int .i64 x.n, .slice b1 x.ls.length c1, .slice b2 x.ts.length c2] 27)).alloc (.cells #[] 4)) (.cells #[] 4)
      simpa [hz] using h
  obtain ⟨ob1, ob2⟩ := OB
  have OB1 := hide ob1
  have OB2 := hide ob2
  clear ob1 ob2
  have HZ := hide hz
  go_wp2
  rw [← HZ.out]
  rw [← HZ.out] at ST5 HBX
  clear hz
  go_loopw [7, 9] (fun u i wr => ∃ (k : Nat) (l : List Bool), k ≤ x.ls.length ∧ i = .int .i64 k ∧ l.length = k ∧ DSt w w5 wr p z a len cap ∧ wr.ownsRow (z + 1) 4 1 u l.length (flat blE l) ∧ wr.heap[z + 2]? = some (.cells #[] 4) ∧ u.ownBlock ≠ some (z + 2)) (fun _ i _ => x.ls.length - (intOf i).toNat)
  case atStart => exact ⟨0, [], by omega, rfl, rfl, ST5.out, OB1.out, OB2.out, by simp [Value.ownBlock]⟩
  case round =>
    clear ST5 OB1 OB2
    obtain ⟨k, l, hk, rfl, hlk, st, hown, hz3, hne⟩ := hrel
    have hbx : wr.heap[z]? = some (.cells #[.int .i64 x.n, .slice b1 x.ls.length c1, .slice b2 x.ts.length c2] 27) := by rw [st.kept z (by omega) (by omega)]; exact HBX.out
    have g1 := cells_at hbx 1
    simp at g1
    have hzs := lt_of_heap hz3
    have hll : l.length ≤ k := by omega
    have HLK := hide hlk
    have HZ3 := hide hz3
    have HNE := hide hne
    have OW := hide hown
    have ST := hide st
    clear hlk hz3 hne hown st hbx
    have hl12 := (netOkI_l HOK.out).1
    by_cases hlt : k < x.ls.length
    · have hlt' : (k : Int) < (x.ls.length : Int) := by omega
      go_wp2_with fail
      refine (once_any p a len cap 6 _ ST.out.cur (by omega) (by omega)).mono ?_
      rintro e w6 ⟨q, rfl, hc6, hg6⟩
      have st6 := ST.out.grown hc6 hg6 (by omega)
      have o6 := kept_otherN OW.out hg6 (by omega)
      have h63 : w6.heap[z + 2]? = some (.cells #[] 4) := by rw [hg6.block _ hzs (by simp; omega)]; exact HZ3.out
      have hs6 := lt_of_heap h63
      have ST6 := hide st6
      have OW6 := hide o6
      have H63 := hide h63
      clear hc6 hg6 st6 o6 h63 ST OW HZ3
      go_wp2_with (first
        | (at_builtin; refine wpList_append_bool _ rfl _ _ 65 rfl (z + 1) 4 Tryz.underlying65 Tryz.infoB u7 l (!q) rfl (OW6.out.alloc _) ⟨w6.heap.size, 0, none⟩ 1 rfl (news_struct (cs := blE (!q))) (by omega) (by simp; omega) ?_))
      intro v' w7 l' hl' hown' hgrow hblk
      have st7 := ST6.out.appended _ OW6.out hzz hzw hgrow
      have h73 : w7.heap[z + 2]? = some (.cells #[] 4) := by rw [hgrow.block _ (by simp; omega) (fun h => HNE.out h.symm), Below.heap_alloc _ _ _ hs6]; exact H63.out
      have hne' : v'.ownBlock ≠ some (z + 2) := by
        rcases hblk with h | h
        · rw [h]; exact HNE.out
        · rw [h]; simp; omega
      have ST7 := hide st7
      have H73 := hide h73
      have HNE7 := hide hne'
      have OW7 := hide hown'
      clear st7 h73 hne' hown' hgrow hblk ST6 OW6 H63
      go_wp2
      go_roundw
      case rel => exact ⟨k + 1, l', by omega, by go_num, by rw [hl'.out]; simp [HLK.out], ST7.out, OW7.out, H73.out, HNE7.out⟩
      case measure => simp [intOf]; omega
    · have hlt' : ¬ (k : Int) < (x.ls.length : Int) := by omega
      obtain ⟨wo, rfl⟩ : ∃ wo : World, wo = wr := ⟨_, rfl⟩
      go_wp2
      have ow8 : wo.ownsRow (z + 1) 4 1 (.slice (some ⟨z + 2, 0, none⟩) 0 0) 0 [] := ⟨rfl, .inr ⟨z + 2, 0, #[], rfl, by omega, HZ3.out, Nat.le_refl _, by decide, rfl, rfl⟩⟩
      have OW8 := hide ow8
      have HLL := hide (show l.length = x.ls.length by have := HLK.out; omega)
      have OWL := hide OW.out
      have HAP := hide (show ∀ b, u7.ownBlock = some b → (Value.slice (some ⟨z + 2, 0, none⟩) 0 0).ownBlock ≠ some b from fun b hb he => by simp [Value.ownBlock] at he; subst he; exact HNE.out hb)
      obtain ⟨lsb, hlsb⟩ : ∃ m, m = l := ⟨_, rfl⟩
      rw [← hlsb] at HLL OWL
      clear ow8 hlt hlt' hk g1 hll HLK OW HNE hlsb
      go_loopw [8, 10] (fun u i wr => ∃ (k : Nat) (l : List Bool), (k : Int) ≤ x.n ∧ i = .int .i64 k ∧ l.length = k ∧ DSt w w5 wr p z a len cap ∧ wr.ownsRow (z + 1) 4 1 u l.length (flat blE l) ∧ wr.ownsRow (z + 1) 4 1 u7 lsb.length (flat blE lsb) ∧ (∀ b, u7.ownBlock = some b → u.ownBlock ≠ some b)) (fun _ i _ => 7 - (intOf i).toNat)
      case atStart => exact ⟨0, [], by have := netOkI_n HOK.out; omega, rfl, rfl, ST.out, OW8.out, OWL.out, HAP.out⟩
      case round =>
        clear ST OW8 HZ3 hzs
        clear OWL HAP
        obtain ⟨k, l, hk, rfl, hlk, st, hown, hownl, hap⟩ := hrel
        have OWL := hide hownl
        have HAP := hide hap
        clear hownl hap
        have hbx : wr.heap[z]? = some (.cells #[.int .i64 x.n, .slice b1 x.ls.length c1, .slice b2 x.ts.length c2] 27) := by rw [st.kept z (by omega) (by omega)]; exact HBX.out
        have g0 := cells_at hbx 0
        have g1 := cells_at hbx 1
        have g2 := cells_at hbx 2
        simp at g0 g1 g2
        have hll : l.length ≤ k := by omega
        have HLK := hide hlk
        have OW := hide hown
        have ST := hide st
        clear hlk hown st hbx
        have hn6 := netOkI_n HOK.out
        by_cases hlt : (k : Int) < x.n
        · go_wp2_with fail
          refine (once_any p a len cap 8 _ ST.out.cur (by omega) (by omega)).mono ?_
          rintro e w6 ⟨q, rfl, hc6, hg6⟩
          have st6 := ST.out.grown hc6 hg6 (by omega)
          have o6 := kept_otherN OW.out hg6 (by omega)
          have ol6 := kept_otherN OWL.out hg6 (by omega)
          have OL6 := hide ol6
          clear ol6 OWL
          have hs6 := st6.size
          have ST6 := hide st6
          have OW6 := hide o6
          clear hc6 hg6 st6 o6 ST OW
          go_wp2_with (first
            | (at_builtin; refine wpList_append_bool _ rfl _ _ 65 rfl (z + 1) 4 Tryz.underlying65 Tryz.infoB u8 l (!q) rfl (OW6.out.alloc _) ⟨w6.heap.size, 0, none⟩ 1 rfl (news_struct (cs := blE (!q))) (by omega) (by simp; omega) ?_))
          intro v' w7 l' hl' hown' hgrow hblk
          have st7 := ST6.out.appended _ OW6.out hzz hzw hgrow
          have OL7 := hide (owns_keepB (OL6.out.alloc _) (fun j hj => hgrow.block j ((OL6.out.alloc _).lt j hj).2 (fun e => HAP.out j hj e.symm)))
          have HAP7 := hide (show ∀ b, u7.ownBlock = some b → v'.ownBlock ≠ some b from fun b hb he => by
            rcases hblk with h | h
            · rw [h] at he; exact HAP.out b hb he
            · rw [h] at he
              have := (OL6.out.lt b hb).2
              simp at he
              omega)
          clear HAP OL6
          have ST7 := hide st7
          have OW7 := hide hown'
          clear st7 hown' hgrow hblk ST6 OW6
          go_wp2
          go_roundw
          case rel => exact ⟨k + 1, l', by omega, by go_num, by rw [hl'.out]; simp [HLK.out], ST7.out, OW7.out, OL7.out, HAP7.out⟩
          case measure => simp [intOf]; omega
        · have hr : wr.heap[w.heap.size]? = some (.cells #[.int .i64 0, .slice none 0 0, .slice none 0 0] 27) := by
            rw [ST.out.kept _ (by omega) (by omega), HW5.out, Below.heap_alloc _ _ _ (lt_of_heap HR2.out)]; exact HR2.out
          have r0 := cells_at hr 0
          have r1 := cells_at hr 1
          have r2 := cells_at hr 2
          have f0 := frozen_at hr 0
          have f1 := frozen_at hr 1
          have f2 := frozen_at hr 2
          simp at r0 r1 r2
          have HR := hide hr
          clear hr
          go_wp2
          obtain ⟨W, hW⟩ : ∃ W, W = (((wr.setCell ⟨w.heap.size, 0, none⟩ (.int .i64 x.n)).setCell ⟨w.heap.size, 1, none⟩ (.slice b1 x.ls.length c1)).setCell ⟨w.heap.size, 2, none⟩ (.slice b2 x.ts.length c2)) := ⟨_, rfl⟩
          have hfin : W.heap[w.heap.size]? = some (.cells #[.int .i64 x.n, .slice b1 x.ls.length c1, .slice b2 x.ts.length c2] 27) := by
            have k1 := heap_setCell_same _ _ 0 _ _ (.int .i64 x.n) HR.out
            have k2 := heap_setCell_same _ _ 1 _ _ (.slice b1 x.ls.length c1) k1
            have k3 := heap_setCell_same _ _ 2 _ _ (.slice b2 x.ts.length c2) k2
            rw [hW]
            exact k3
          have hkw : ∀ b, b < z → b ≠ p → wr.heap[b]? = w2.heap[b]? := fun b hb hbp => by
            rw [ST.out.kept b (by omega) hbp, HW5.out, Below.heap_alloc _ _ _ (by rw [← HZ.out]; exact hb)]
          have p1 : W.ownsRow w1.heap.size 93 4 (.slice b1 x.ls.length c1) x.ls.length (flat lkE x.ls) := by
            rw [hW]; exact owns_set (owns_set (owns_set (owns_moved O1.out (by rw [← HZ.out]; exact Nat.le_refl _) hpw hkw) (by omega)) (by omega)) (by omega)
          have p2 : W.ownsRow w1.heap.size 96 4 (.slice b2 x.ts.length c2) x.ts.length (flat thE x.ts) := by
            rw [hW]; exact owns_set (owns_set (owns_set (owns_moved O2.out (by rw [← HZ.out]; exact Nat.le_refl _) hpw hkw) (by omega)) (by omega)) (by omega)
          have BW : Below w.heap.size w W := by
            rw [hW]
            exact ((ST.out.bel.setCell (by show w.heap.size ≤ w.heap.size; omega) _).setCell (by show w.heap.size ≤ w.heap.size; omega) _).setCell (by show w.heap.size ≤ w.heap.size; omega) _
          rw [← hW]
          have NT : NetAt W (.agg #[.int .i64 x.n, .slice b1 x.ls.length c1, .slice b2 x.ts.length c2]) x W.heap.size := ⟨_, _, rfl, owns_rowAt p1, owns_rowAt p2⟩
          have HNT := hide NT
          have HBL := hide (show BoolsAt W u7 lsb W.heap.size ∧ BoolsAt W u8 l W.heap.size ∧ lsb.length = x.ls.length ∧ (l.length : Int) = x.n from ⟨owns_rowAt (by rw [hW]; exact owns_set (owns_set (owns_set OWL.out (by omega)) (by omega)) (by omega)), owns_rowAt (by rw [hW]; exact owns_set (owns_set (owns_set OW.out (by omega)) (by omega)) (by omega)), HLL.out, by have := HLK.out; omega⟩)
          clear hW hkw p1 p2 NT r0 r1 r2 f0 f1 f2 HR
          have r0 := cells_at hfin 0
          have r1 := cells_at hfin 1
          have r2 := cells_at hfin 2
          simp at r0 r1 r2
          clear hfin
          (try simp only [Exit.inBlock, Exit.then])
          refine bodyPost_ret (v := .tuple #[.agg #[.int .i64 x.n, .slice b1 x.ls.length c1, .slice b2 x.ts.length c2], u7, u8]) (by simp [results, Tryz.results37, go_sem, r0, r1, r2]) rfl ?_
          exact ⟨x, _, _, _, rfl, HOK.out, HNT.out, ⟨lsb, l, HBL⟩, BW⟩
end Go.Proofs.YtdaigojpeofmpaaGreat
namespace Go.Proofs.YtdaigojpeofmpaaGreat
open Go.RowKit

set_option linter.unusedSimpArgs false

/-- a node's record of an area, whatever its key -/
def nodeM (area owner : Int) (x : RecD) : Bool := x.area == area && x.kind == 1 && x.owner == owner

def plN (xs : List RecD) (area owner : Int) : Option Nat := xs.findIdx? (nodeM area owner)

def plV2 : Option Nat → Value
  | some k => .tuple #[.int .i64 (k : Int), .bool true]
  | none => .tuple #[.int .i64 0, .bool false]

theorem plN_found {xs : List RecD} {area owner : Int} {x : RecD} {k : Nat} (hk : xs[k]? = some x) (hs : nodeM area owner x = true) (hall : ∀ j, j < k → ∀ y, xs[j]? = some y → nodeM area owner y = false) : plN xs area owner = some k := by
  obtain ⟨h1, e1⟩ := List.getElem?_eq_some_iff.1 hk
  unfold plN
  rw [List.findIdx?_eq_some_iff_getElem]
  refine ⟨h1, by rw [e1]; exact hs, fun j hj => ?_⟩
  have := hall j hj xs[j] (List.getElem?_eq_getElem (by omega))
  rw [this]
  simp

theorem plN_none {xs : List RecD} {area owner : Int} (hall : ∀ j, j < xs.length → ∀ y, xs[j]? = some y → nodeM area owner y = false) : plN xs area owner = none := by
  unfold plN
  rw [List.findIdx?_eq_none_iff]
  intro x hx
  obtain ⟨j, hj, e⟩ := List.mem_iff_getElem.1 hx
  exact hall j hj x (by rw [List.getElem?_eq_getElem hj, e])

theorem all_next {xs : List RecD} {k : Nat} {x : RecD} {f : RecD → Bool} (h : ∀ j, j < k → ∀ y, xs[j]? = some y → f y = false) (hk : xs[k]? = some x) (hx : f x = false) : ∀ j, j < k + 1 → ∀ y, xs[j]? = some y → f y = false := by
  intro j hj y hy
  by_cases e : j = k
  · subst e
    rw [hk] at hy
    cases hy
    exact hx
  · exact h j (by omega) y hy

set_option maxRecDepth 100000 in
set_option maxHeartbeats 2000000 in
theorem placeN_any (v : Value) (ps : List RP) (hi : Nat) (area owner : Int) (w : World) (hv : RecsIn w hi v ps) (hhi : hi ≤ w.heap.size) (hn : tot ps ≤ 1048576) :
    Calls Tryz.prog 110 #[v, .int .i64 area, .int .i64 owner] w fun e w' => e = .returned (plV2 (plN (fsts ps) area owner)) ∧ Below w.heap.size w w' := by
  have hnl := tot_len ps
  obtain ⟨R, hR⟩ : ∃ R, R = plN (fsts ps) area owner := ⟨_, rfl⟩
  rw [← hR]
  have HR := hide hR
  clear hR
  obtain ⟨a1, c1, rfl⟩ := owns_lenS hv.row
  have HV := hide hv
  clear hv
  go_enter Tryz.func110, Tryz.ntmps110
  go_wp2
  go_loopw [11] (fun i wr => ∃ (k : Nat), k ≤ ps.length ∧ i = .int .i64 (k : Int) ∧ Hid (∀ j, j < k → ∀ y, (fsts ps)[j]? = some y → nodeM area owner y = false) ∧ Below w.heap.size w wr) (fun i _ => ps.length - (intOf i).toNat)
  case atStart => exact ⟨0, by omega, rfl, hide (by omega), Below.refl _ _⟩
  case round =>
    obtain ⟨k, hk, rfl, HALL, hnx⟩ := hrel
    by_cases hlt : k < ps.length
    · obtain ⟨p, hp⟩ : ∃ p, ps[k]? = some p := ⟨ps[k], List.getElem?_eq_getElem hlt⟩
      have hat := HV.out.at
      obtain ⟨b, off, cap', hve, hbb, c0, c1, c2, _⟩ := hat.cells k p hp
      cases hve
      rw [← hnx.cell (p := ⟨b, off + k * 8, none⟩) (Nat.lt_of_lt_of_le hbb hhi)] at c0
      rw [← hnx.cell (p := ⟨b, off + k * 8 + 1, none⟩) (Nat.lt_of_lt_of_le hbb hhi)] at c1
      rw [← hnx.cell (p := ⟨b, off + k * 8 + 2, none⟩) (Nat.lt_of_lt_of_le hbb hhi)] at c2
      have hki : (0 : Int) ≤ (k : Int) := by omega
      have hkj : (k : Int) < (ps.length : Int) := by omega
      have HPP := hide (fsts_at hp)
      obtain ⟨x0, hx0⟩ : ∃ x, x = p.1.area := ⟨_, rfl⟩
      obtain ⟨x1, hx1⟩ : ∃ x, x = p.1.kind := ⟨_, rfl⟩
      obtain ⟨x2, hx2⟩ : ∃ x, x = p.1.owner := ⟨_, rfl⟩
      have HM := hide (show nodeM area owner p.1 = (x0 == area && x1 == 1 && x2 == owner) by rw [hx0, hx1, hx2]; rfl)
      rw [← hx0] at c0
      rw [← hx1] at c1
      rw [← hx2] at c2
      clear hp hat hx0 hx1 hx2
      have NXT := hide (fun (e : (x0 == area && x1 == 1 && x2 == owner) = false) => all_next HALL.out HPP.out (HM.out.trans e))
      by_cases h0 : x0 = area
      · by_cases h1 : x1 = 1
        · by_cases h2 : x2 = owner
          · have HF := hide (show R = some k by rw [HR.out]; exact plN_found HPP.out (by rw [HM.out]; simp [h0, h1, h2]) HALL.out)
            have hRR := HF.out
            subst hRR
            subst h0 h1 h2
            clear NXT HM
            go_wp2
            go_returns
            exact ⟨rfl, hnx⟩
          · have HN := hide (NXT.out (by simp [h2]))
            have hb2 : (x2 == owner) = false := by simpa using h2
            subst h0 h1
            clear NXT HM
            go_wp2
            go_roundw
            case rel => exact ⟨k + 1, by omega, by go_num, HN, hnx⟩
            case measure => simp [intOf]; omega
        · have HN := hide (NXT.out (by simp [h1]))
          have hb1 : (x1 == 1) = false := by simpa using h1
          subst h0
          clear NXT HM
          go_wp2
          go_roundw
          case rel => exact ⟨k + 1, by omega, by go_num, HN, hnx⟩
          case measure => simp [intOf]; omega
      · have HN := hide (NXT.out (by simp [h0]))
        have hb0 : (x0 == area) = false := by simpa using h0
        clear NXT HM
        go_wp2
        go_roundw
        case rel => exact ⟨k + 1, by omega, by go_num, HN, hnx⟩
        case measure => simp [intOf]; omega
    · have HF := hide (show R = none by rw [HR.out]; exact plN_none (fun j hj => HALL.out j (by simp [fsts] at hj; omega)))
      have hRR := HF.out
      subst hRR
      go_wp2
      go_returns
      exact ⟨rfl, hnx⟩

/-- what one end tells of a link, and whether it does -/
def toldD (xs : List RecD) (area owner to : Int) : Option Int := match plN xs area owner with
  | some k => match xs[k]? with
    | some x => (x.near.find? (fun n => n.to == to)).map (·.c)
    | none => none
  | none => none

def toldV : Option Int → Value
  | some c => .tuple #[.int .i64 c, .bool true]
  | none => .tuple #[.int .i64 0, .bool false]

theorem plN_at {xs : List RecD} {area owner : Int} {k : Nat} (h : plN xs area owner = some k) : ∃ x, xs[k]? = some x ∧ nodeM area owner x = true ∧ ∀ j, j < k → ∀ y, xs[j]? = some y → nodeM area owner y = false := by
  unfold plN at h
  obtain ⟨h1, h2, h3⟩ := List.findIdx?_eq_some_iff_getElem.1 h
  refine ⟨xs[k], List.getElem?_eq_getElem h1, h2, fun j hj y hy => ?_⟩
  have h4 := h3 j hj
  rw [List.getElem?_eq_getElem (by omega)] at hy
  cases hy
  simpa using h4

theorem find_hit {ns : List Nr} {k : Nat} {n : Nr} {b : Int} (h : ns[k]? = some n) (hno : ∀ q ∈ ns.take k, q.to ≠ b) (hb : n.to = b) : ns.find? (fun x => x.to == b) = some n := by
  obtain ⟨hk, e1⟩ := List.getElem?_eq_some_iff.1 h
  rw [List.find?_eq_some_iff_append]
  refine ⟨by simpa using hb, ns.take k, ns.drop (k + 1), ?_, ?_⟩
  · rw [← e1, ← List.drop_eq_getElem_cons hk, List.take_append_drop]
  · intro x hx
    simpa using hno x hx

set_option maxRecDepth 100000 in
set_option maxHeartbeats 2000000 in
theorem told_any (v : Value) (ps : List RP) (hi : Nat) (area owner to : Int) (w : World) (hv : RecsIn w hi v ps) (hhi : hi ≤ w.heap.size) (hn : tot ps ≤ 1048576) :
    Calls Tryz.prog 114 #[v, .int .i64 area, .int .i64 owner, .int .i64 to] w fun e w' => e = .returned (toldV (toldD (fsts ps) area owner to)) ∧ Below w.heap.size w w' := by
  have hnl := tot_len ps
  obtain ⟨R, hR⟩ : ∃ R, R = toldD (fsts ps) area owner to := ⟨_, rfl⟩
  rw [← hR]
  have HP := hide (placeN_any v ps hi area owner w hv hhi hn)
  obtain ⟨a1, c1, rfl⟩ := owns_lenS hv.row
  unfold toldD at hR
  cases hpl : plN (fsts ps) area owner with
  | none =>
    rw [hpl] at HP hR
    have hRR : R = none := hR
    subst hRR
    unfold plV2 at HP
    unfold toldV
    clear hR hv
    go_enter Tryz.func114, Tryz.ntmps114
    go_wp2_with fail
    refine HP.out.mono ?_
    rintro e w1 ⟨rfl, b1⟩
    go_wp2
    go_returns
    exact ⟨rfl, b1⟩
  | some k =>
    rw [hpl] at HP hR
    obtain ⟨x, hx, _, _⟩ := plN_at hpl
    simp only [hx] at hR
    obtain ⟨p, hp, rfl⟩ := fsts_some5 hx
    have hR2 : R = (p.1.near.find? (fun n => n.to == to)).map (·.c) := hR
    have HR := hide hR2
    clear hR hR2
    unfold plV2 at HP
    have hlt : k < ps.length := (List.getElem?_eq_some_iff.1 hp).1
    obtain ⟨b, off, cap', hve, hbb, _, _, _, _, _, c5, _, _, hnr⟩ := hv.at.cells k p hp
    cases hve
    obtain ⟨pa, pc, hpn⟩ := NearsAt.shape hnr
    rw [hpn] at c5 hnr
    have hnl2 : p.1.near.length ≤ 1048576 := by have := tot_mem (List.mem_of_getElem? hp); omega
    have HNR := hide hnr
    have hki : (0 : Int) ≤ (k : Int) := by omega
    have hkj : (k : Int) < (ps.length : Int) := by omega
    obtain ⟨ns, hns⟩ : ∃ ns, ns = p.1.near := ⟨_, rfl⟩
    rw [← hns] at HR c5 HNR hnl2
    clear hx hp hv hnr hpn hns hpl
    go_enter Tryz.func114, Tryz.ntmps114
    go_wp2_with fail
    refine HP.out.mono ?_
    rintro e w1 ⟨rfl, b1⟩
    rw [← b1.cell (p := ⟨b, off + k * 8 + 5, none⟩) (Nat.lt_of_lt_of_le hbb hhi)] at c5
    have N1 := hide (RowAt.later HNR.out b1 hhi)
    go_wp2
    go_loopw [29] (fun i wr => ∃ (j : Nat), j ≤ ns.length ∧ i = .int .i64 (j : Int) ∧ Hid (∀ q ∈ ns.take j, q.to ≠ to) ∧ Below w1.heap.size w1 wr) (fun i _ => ns.length - (intOf i).toNat)
    case atStart => exact ⟨0, by omega, rfl, hide (by simp), Below.refl _ _⟩
    case round =>
      obtain ⟨j, hj, rfl, HNO, hnx⟩ := hrel
      have hs1 := b1.size
      have B : Below w.heap.size w wr := b1.trans (hnx.mono hs1)
      have hsB := B.size
      have hsx := hnx.size
      by_cases hjl : j < ns.length
      · obtain ⟨n, hnj⟩ : ∃ n, ns[j]? = some n := ⟨ns[j], List.getElem?_eq_getElem hjl⟩
        obtain ⟨b2, off2, cp, hve, hbb2, d0, d1⟩ := NearsAt.cells (RowAt.later N1.out hnx (by omega)) j n hnj
        cases hve
        have hji : (0 : Int) ≤ (j : Int) := by omega
        have hjj : (j : Int) < (ns.length : Int) := by omega
        by_cases hto : n.to = to
        · have HF := hide (show R = some n.c by rw [HR.out, find_hit hnj HNO.out hto]; rfl)
          have hRR := HF.out
          subst hRR
          subst hto
          clear hnj
          go_wp2
          go_returns
          exact ⟨rfl, B.alloc (by omega) _⟩
        · have HN := hide (take_allN hnj HNO.out hto)
          have hb0 : (n.to == to) = false := by simpa using hto
          clear hnj
          go_wp2
          go_roundw
          case rel => exact ⟨j + 1, by omega, by go_num, HN, hnx.alloc (by omega) _⟩
          case measure => simp [intOf]; omega
      · have HF := hide (show R = none by
          rw [HR.out]
          have h := HNO.out
          rw [List.take_of_length_le (by omega)] at h
          rw [List.find?_eq_none.2 (fun x hx => by simpa using h x hx)]
          rfl)
        have hRR := HF.out
        subst hRR
        go_wp2
        go_returns
        exact ⟨rfl, B⟩

def linkedI (xs : List RecD) (area a b : Int) : Int := match toldD xs area b a with
  | some _ => match toldD xs area a b with
    | some c => c
    | none => 0
  | none => 0

set_option maxRecDepth 100000 in
set_option maxHeartbeats 2000000 in
theorem ilinked_any (v : Value) (ps : List RP) (hi : Nat) (area a b : Int) (w : World) (hv : RecsIn w hi v ps) (hhi : hi ≤ w.heap.size) (hn : tot ps ≤ 1048576) :
    Calls Tryz.prog 40 #[v, .int .i64 area, .int .i64 a, .int .i64 b] w fun e w' => e = .returned (.int .i64 (linkedI (fsts ps) area a b)) ∧ Below w.heap.size w w' := by
  have H1 := hide (told_any v ps hi area b a w hv hhi hn)
  have H2 := hide (fun W (hb : Below w.heap.size w W) => told_any v ps hi area a b W (hv.below hb hhi) (Nat.le_trans hhi hb.size) hn)
  clear hv
  unfold linkedI
  cases e1 : toldD (fsts ps) area b a with
  | none =>
    rw [e1] at H1
    unfold toldV at H1
    go_enter Tryz.func40, Tryz.ntmps40
    go_wp2_with fail
    refine H1.out.mono ?_
    rintro e w1 ⟨rfl, b1⟩
    go_wp2
    go_ret
    exact ⟨rfl, b1⟩
  | some c =>
    rw [e1] at H1
    cases e2 : toldD (fsts ps) area a b with
    | none =>
      rw [e2] at H2
      unfold toldV at H1 H2
      go_enter Tryz.func40, Tryz.ntmps40
      go_wp2_with fail
      refine H1.out.mono ?_
      rintro e w1 ⟨rfl, b1⟩
      go_wp2_with fail
      refine (H2.out _ b1).mono ?_
      rintro e w2 ⟨rfl, b2⟩
      have B2 : Below w.heap.size w w2 := b1.trans (b2.mono b1.size)
      go_wp2
      go_ret
      exact ⟨rfl, B2⟩
    | some c2 =>
      rw [e2] at H2
      unfold toldV at H1 H2
      go_enter Tryz.func40, Tryz.ntmps40
      go_wp2_with fail
      refine H1.out.mono ?_
      rintro e w1 ⟨rfl, b1⟩
      go_wp2_with fail
      refine (H2.out _ b1).mono ?_
      rintro e w2 ⟨rfl, b2⟩
      have B2 : Below w.heap.size w w2 := b1.trans (b2.mono b1.size)
      go_wp2
      go_ret
      exact ⟨rfl, B2⟩
end Go.Proofs.YtdaigojpeofmpaaGreat
