/-
  laws.FnNets: its walk.
-/
import Derived.Test.YtlkbodppkljoiaaNetMathB
import Derived.Test.YtlkbodppkljoiaaILink
import Derived.Deep.RegionHeld3
namespace Go.Proofs.Ytlkbodppkljoiaa
open Go.RowKit

structure FSt (w wr : World) (z : Nat) (n : Int) (v1 v2 : Value) (ls : List Lk) : Prop where
  bel : Below w.heap.size w wr
  box : wr.heap[z]? = some (.cells #[.int .i64 n, v1, v2] 27)
  lk : LinksAt wr v1 ls wr.heap.size

section
variable {w wr w' : World} {z : Nat} {n : Int} {v1 v2 : Value} {ls : List Lk}

theorem FSt.below (h : FSt w wr z n v1 v2 ls) (hb : Below wr.heap.size wr w') : FSt w w' z n v1 v2 ls where
  bel := h.bel.trans (hb.mono h.bel.size)
  box := by rw [hb.block z (lt_of_heap h.box)]; exact h.box
  lk := h.lk.then hb

theorem FSt.alloc (h : FSt w wr z n v1 v2 ls) (o : Obj) : FSt w (wr.alloc o) z n v1 v2 ls := h.below ((Below.refl _ _).alloc (Nat.le_refl _) _)

theorem FSt.drew (h : FSt w wr z n v1 v2 ls) : FSt w wr.drew z n v1 v2 ls := h.below (Below.refl _ _).drew

theorem FSt.c0 (h : FSt w wr z n v1 v2 ls) : wr.cell? ⟨z, 0, none⟩ = some (.int .i64 n) := by rw [cells_at h.box]; rfl

theorem FSt.c1 (h : FSt w wr z n v1 v2 ls) : wr.cell? ⟨z, 1, none⟩ = some v1 := by rw [cells_at h.box]; rfl

theorem FSt.c2 (h : FSt w wr z n v1 v2 ls) : wr.cell? ⟨z, 2, none⟩ = some v2 := by rw [cells_at h.box]; rfl
end

theorem nextI_len (ls : List Lk) (f r : Int) : (nextI ls f r).length ≤ 2 * ls.length := by
  unfold nextI
  have h1 := Lib.compact_length_le ((gath ls f r ls.length).mergeSort fun x y => decide (x ≤ y))
  rw [List.length_mergeSort] at h1
  have := gath_len ls f r ls.length
  omega

theorem areasI_len (ls : List Lk) (f : Int) : (areasI ls f).length ≤ 3 := List.length_filter_le _ _

set_option linter.unusedSimpArgs false

set_option maxRecDepth 100000 in
set_option maxHeartbeats 8000000 in
theorem fnNets_walk (a : Option Addr) (len cap : Nat) (w : World) (hw : len ≤ 1048576 → Code w a len w.heap.size) :
    Calls Try.prog 3 #[.slice a len cap] w fun e w' => e = .returned (.bool true) ∧ Below w.heap.size w w' := by
  have HW := hide hw
  clear hw
  by_cases hlen : len ≤ 1048576
  case neg =>
    have HBIG := hide (big_any a len cap)
    rw [decide_eq_true (show (1048576 : Int) < (len : Int) by omega)] at HBIG
    go_enter Try.func3, Try.ntmps3
    go_wp2_with fail
    refine (HBIG.out _).mono ?_
    rintro e w1 ⟨rfl, rfl⟩
    go_wp2
    go_ret
    exact ⟨rfl, Below.refl _ _⟩
  have HBIG := hide (big_any a len cap)
  rw [decide_eq_false (show ¬ (1048576 : Int) < (len : Int) by omega)] at HBIG
  have HCODE := hide (HW.out hlen)
  clear HW
  go_enter Try.func3, Try.ntmps3
  go_wp2_with fail
  refine (HBIG.out _).mono ?_
  rintro e w1 ⟨rfl, rfl⟩
  go_wp2_with fail
  refine (drawRight_any a len cap _ HCODE.out).mono ?_
  rintro e w1 ⟨x, v, y1, y2, rfl, hok, hnet, b1⟩
  have hnet0 := hnet
  obtain ⟨v1, v2, rfl, hl1, hl2⟩ := hnet
  obtain ⟨p1, c1, rfl⟩ := hl1.shape
  obtain ⟨p2, c2, rfl⟩ := hl2.shape
  have hll := netOkI_l hok
  obtain ⟨hll, htl⟩ := hll
  obtain ⟨hN1, hN6⟩ := netOkI_n hok
  have HRT := hide (right_of hok)
  have HNK := hide (inetOk_any (.agg #[.int .i64 x.n, .slice p1 x.ls.length c1, .slice p2 x.ts.length c2]) x)
  rw [hok] at HNK
  have HNET := hide hnet0
  have st1 : FSt w (w1.alloc (.cells #[.int .i64 x.n, .slice p1 x.ls.length c1, .slice p2 x.ts.length c2] 27)) w1.heap.size x.n (.slice p1 x.ls.length c1) (.slice p2 x.ts.length c2) x.ls :=
    { bel := b1.alloc b1.size _
      box := heap_alloc_new w1 _
      lk := hl1.then ((Below.refl _ _).alloc (Nat.le_refl _) _) }
  have ST1 := hide st1
  clear hok hnet0 hl1 hl2 st1 b1 HBIG HCODE
  go_wp2_with fail
  refine (HNK.out _ (by omega) (by omega) (HNET.out.then ((Below.refl _ _).alloc (Nat.le_refl _) _))).mono ?_
  rintro e w2 ⟨rfl, b2⟩
  have st2 := ST1.out.below b2
  have ST2 := hide st2
  obtain ⟨z, hz⟩ : ∃ z, z = w1.heap.size := ⟨_, rfl⟩
  rw [← hz] at ST2 ⊢
  clear st2 b2 ST1 HNK HNET hz
  go_wp2
  go_loopw [6] (fun i wr => ∃ k : Nat, 1 ≤ k ∧ (k : Int) ≤ x.n + 1 ∧ i = .int .i64 k ∧ FSt w wr z x.n (.slice p1 x.ls.length c1) (.slice p2 x.ts.length c2) x.ls) (fun i _ => 8 - (intOf i).toNat)
  case atStart => exact ⟨1, by omega, by omega, rfl, ST2.out⟩
  case round =>
    clear ST2
    obtain ⟨k, hk1, hk, rfl, st⟩ := hrel
    have e0 := st.c0
    have e1 := st.c1
    have e2 := st.c2
    have ST := hide st
    clear st
    by_cases hlt : (k : Int) ≤ x.n
    · go_wp2_with fail
      refine (iareas_any _ _ _ x.ls (k : Int) _ (by omega) ST.out.lk).mono ?_
      rintro e w3 ⟨x7, rfl, o3, b3⟩
      have st3 := ST.out.below b3
      have e0 := st3.c0
      have e1 := st3.c1
      have e2 := st3.c2
      obtain ⟨q7, d7, rfl⟩ := owns_len o3
      have hal := areasI_len x.ls (k : Int)
      have HBO := hide (fun W => iborder_any (.int .i64 x.n) (.slice p1 x.ls.length c1) (.slice p2 x.ts.length c2) x.ls (k : Int) W (by omega))
      rw [bord_in] at HBO
      have ST3 := hide st3
      have O3 := hide o3
      clear st3 o3 b3 ST
      generalize hAR : areasI x.ls (k : Int) = ar at O3 hal HBO
      have HAR := hide hAR
      clear hAR
      go_wp2_with fail
      refine (HBO.out _ ST3.out.lk).mono ?_
      rintro e w4 ⟨rfl, b4⟩
      have st4 := ST3.out.below b4
      have o4 := owns_below O3.out b4 (Nat.le_refl _)
      have ST4 := hide st4
      have O4 := hide o4
      clear st4 o4 b4 ST3 O3 e0 e1 e2
      go_wp2_with fail
      refine (lin_any _ _ ar 0 _ O4.out (by omega)).mono ?_
      rintro e w5 ⟨rfl, rfl⟩
      generalize decide ((0 : Int) ∈ ar) = bb
      cases bb
      · obtain ⟨wo, rfl⟩ : ∃ wo : World, wo = wr := ⟨_, rfl⟩
        go_wp2
        go_loopw [8] (fun i wr => ∃ r : Nat, r ≤ 3 ∧ i = .int .i64 r ∧ FSt w wr z x.n (.slice p1 x.ls.length c1) (.slice p2 x.ts.length c2) x.ls ∧ wr.ownsRow wo.heap.size 3 1 (.slice q7 ar.length d7) ar.length (intsOf ar)) (fun i _ => 4 - (intOf i).toNat)
        case atStart => exact ⟨0, by omega, rfl, ST4.out, O4.out⟩
        case round =>
          clear ST4 O4 HBO
          obtain ⟨r, hr, rfl, st5, o5⟩ := hrel
          have e0 := st5.c0
          have e1 := st5.c1
          have e2 := st5.c2
          have ST5 := hide st5
          have O5 := hide o5
          clear st5 o5
          by_cases hr3 : r < 3
          · obtain ⟨wp, rfl⟩ : ∃ wp : World, wp = wr := ⟨_, rfl⟩
            have hr2 : (r : Int) ≤ 2 := by omega
            go_wp2_with fail
            refine (inext_any x.n _ _ x.ls (k : Int) (r : Int) _ (by omega) ST5.out.lk (ends_of HRT.out)).mono ?_
            rintro e w6 ⟨x9, rfl, o6, b6⟩
            have st6 := ST5.out.below b6
            have o7 := owns_below O5.out b6 (Nat.le_refl _)
            obtain ⟨q9, d9, rfl⟩ := owns_len o6
            have hnl := nextI_len x.ls (k : Int) (r : Int)
            have hin : decide ((r : Int) ∈ ar) = decide ((0 : Int) < ((nextI x.ls (k : Int) (r : Int)).length : Int)) := by rw [← HAR.out]; exact areas_in x.ls (k : Int) (r : Int) (by omega) (by omega)
            have hci : ∀ t : Int, decide (0 < costN x.ls (k : Int) t (r : Int)) = decide (t ∈ nextI x.ls (k : Int) (r : Int)) := fun t => cost_in HRT.out _ _ _
            have ST6 := hide st6
            have O6 := hide o6
            have O7 := hide o7
            have HIN := hide hin
            have HCI := hide hci
            clear st6 o6 o7 b6 ST5 O5 hin hci e0 e1 e2
            generalize nextI x.ls (k : Int) (r : Int) = nr at O6 hnl HIN HCI ⊢
            go_wp2_with fail
            refine (lin_any _ _ ar (r : Int) _ O7.out (by omega)).mono ?_
            rintro e w7 ⟨rfl, rfl⟩
            rw [HIN.out]
            go_wp2
            go_loopw [10] (fun i wr => ∃ t : Nat, 1 ≤ t ∧ (t : Int) ≤ x.n + 1 ∧ i = .int .i64 t ∧ FSt w wr z x.n (.slice p1 x.ls.length c1) (.slice p2 x.ts.length c2) x.ls ∧ wr.ownsRow wo.heap.size 3 1 (.slice q7 ar.length d7) ar.length (intsOf ar) ∧ wr.ownsRow wp.heap.size 3 1 (.slice q9 nr.length d9) nr.length (intsOf nr)) (fun i _ => 8 - (intOf i).toNat)
            case atStart => exact ⟨1, by omega, by omega, rfl, ST6.out, O7.out, O6.out⟩
            case round =>
              clear ST6 O6 O7
              obtain ⟨t, ht1, ht, rfl, st8, o8, o9⟩ := hrel
              have e0 := st8.c0
              have e1 := st8.c1
              have e2 := st8.c2
              have ST8 := hide st8
              have O8 := hide o8
              have O9 := hide o9
              clear st8 o8 o9
              by_cases htn : (t : Int) ≤ x.n
              · go_wp2_with fail
                refine (icost_any _ _ _ x.ls (k : Int) (t : Int) (r : Int) _ (by omega) ST8.out.lk).mono ?_
                rintro e wa ⟨rfl, ba⟩
                have sta := ST8.out.below ba
                have oa := owns_below O8.out ba (Nat.le_refl _)
                have na := owns_below O9.out ba (Nat.le_refl _)
                have e0 := sta.c0
                have e1 := sta.c1
                have e2 := sta.c2
                have STA := hide sta
                have OA := hide oa
                have NA := hide na
                clear sta oa na ba ST8 O8 O9
                go_wp2_with fail
                refine (icost_any _ _ _ x.ls (t : Int) (k : Int) (r : Int) _ (by omega) STA.out.lk).mono ?_
                rintro e wb ⟨rfl, bb⟩
                rw [cost_sym x.ls (t : Int) (k : Int) (r : Int)]
                have stb := STA.out.below bb
                have ob := owns_below OA.out bb (Nat.le_refl _)
                have nb := owns_below NA.out bb (Nat.le_refl _)
                have hct := HCI.out (t : Int)
                have STB := hide stb
                have OB := hide ob
                have NB := hide nb
                have HCT := hide hct
                clear stb ob nb bb STA OA NA hct e0 e1 e2
                generalize costN x.ls (k : Int) (t : Int) (r : Int) = c at HCT ⊢
                go_wp2_with fail
                refine (lin_any _ _ nr (t : Int) _ NB.out (by omega)).mono ?_
                rintro e wc ⟨rfl, rfl⟩
                rw [← HCT.out]
                go_wp2
                exact ⟨⟨t + 1, by omega, by omega, by go_num, STB.out, OB.out, NB.out⟩, by simp [intOf]; omega⟩
              · go_wp2
                exact ⟨⟨r + 1, by omega, by go_num, ST8.out, O8.out⟩, by simp [intOf]; omega⟩
          · go_wp2
            exact ⟨⟨k + 1, by omega, by omega, by go_num, ST5.out⟩, by simp [intOf]; omega⟩
      · obtain ⟨wo, rfl⟩ : ∃ wo : World, wo = wr := ⟨_, rfl⟩
        go_wp2
        go_loopw [8] (fun i wr => ∃ r : Nat, r ≤ 3 ∧ i = .int .i64 r ∧ FSt w wr z x.n (.slice p1 x.ls.length c1) (.slice p2 x.ts.length c2) x.ls ∧ wr.ownsRow wo.heap.size 3 1 (.slice q7 ar.length d7) ar.length (intsOf ar)) (fun i _ => 4 - (intOf i).toNat)
        case atStart => exact ⟨0, by omega, rfl, ST4.out, O4.out⟩
        case round =>
          clear ST4 O4 HBO
          obtain ⟨r, hr, rfl, st5, o5⟩ := hrel
          have e0 := st5.c0
          have e1 := st5.c1
          have e2 := st5.c2
          have ST5 := hide st5
          have O5 := hide o5
          clear st5 o5
          by_cases hr3 : r < 3
          · obtain ⟨wp, rfl⟩ : ∃ wp : World, wp = wr := ⟨_, rfl⟩
            have hr2 : (r : Int) ≤ 2 := by omega
            go_wp2_with fail
            refine (inext_any x.n _ _ x.ls (k : Int) (r : Int) _ (by omega) ST5.out.lk (ends_of HRT.out)).mono ?_
            rintro e w6 ⟨x9, rfl, o6, b6⟩
            have st6 := ST5.out.below b6
            have o7 := owns_below O5.out b6 (Nat.le_refl _)
            obtain ⟨q9, d9, rfl⟩ := owns_len o6
            have hnl := nextI_len x.ls (k : Int) (r : Int)
            have hin : decide ((r : Int) ∈ ar) = decide ((0 : Int) < ((nextI x.ls (k : Int) (r : Int)).length : Int)) := by rw [← HAR.out]; exact areas_in x.ls (k : Int) (r : Int) (by omega) (by omega)
            have hci : ∀ t : Int, decide (0 < costN x.ls (k : Int) t (r : Int)) = decide (t ∈ nextI x.ls (k : Int) (r : Int)) := fun t => cost_in HRT.out _ _ _
            have ST6 := hide st6
            have O6 := hide o6
            have O7 := hide o7
            have HIN := hide hin
            have HCI := hide hci
            clear st6 o6 o7 b6 ST5 O5 hin hci e0 e1 e2
            generalize nextI x.ls (k : Int) (r : Int) = nr at O6 hnl HIN HCI ⊢
            go_wp2_with fail
            refine (lin_any _ _ ar (r : Int) _ O7.out (by omega)).mono ?_
            rintro e w7 ⟨rfl, rfl⟩
            rw [HIN.out]
            go_wp2
            go_loopw [10] (fun i wr => ∃ t : Nat, 1 ≤ t ∧ (t : Int) ≤ x.n + 1 ∧ i = .int .i64 t ∧ FSt w wr z x.n (.slice p1 x.ls.length c1) (.slice p2 x.ts.length c2) x.ls ∧ wr.ownsRow wo.heap.size 3 1 (.slice q7 ar.length d7) ar.length (intsOf ar) ∧ wr.ownsRow wp.heap.size 3 1 (.slice q9 nr.length d9) nr.length (intsOf nr)) (fun i _ => 8 - (intOf i).toNat)
            case atStart => exact ⟨1, by omega, by omega, rfl, ST6.out, O7.out, O6.out⟩
            case round =>
              clear ST6 O6 O7
              obtain ⟨t, ht1, ht, rfl, st8, o8, o9⟩ := hrel
              have e0 := st8.c0
              have e1 := st8.c1
              have e2 := st8.c2
              have ST8 := hide st8
              have O8 := hide o8
              have O9 := hide o9
              clear st8 o8 o9
              by_cases htn : (t : Int) ≤ x.n
              · go_wp2_with fail
                refine (icost_any _ _ _ x.ls (k : Int) (t : Int) (r : Int) _ (by omega) ST8.out.lk).mono ?_
                rintro e wa ⟨rfl, ba⟩
                have sta := ST8.out.below ba
                have oa := owns_below O8.out ba (Nat.le_refl _)
                have na := owns_below O9.out ba (Nat.le_refl _)
                have e0 := sta.c0
                have e1 := sta.c1
                have e2 := sta.c2
                have STA := hide sta
                have OA := hide oa
                have NA := hide na
                clear sta oa na ba ST8 O8 O9
                go_wp2_with fail
                refine (icost_any _ _ _ x.ls (t : Int) (k : Int) (r : Int) _ (by omega) STA.out.lk).mono ?_
                rintro e wb ⟨rfl, bb⟩
                rw [cost_sym x.ls (t : Int) (k : Int) (r : Int)]
                have stb := STA.out.below bb
                have ob := owns_below OA.out bb (Nat.le_refl _)
                have nb := owns_below NA.out bb (Nat.le_refl _)
                have hct := HCI.out (t : Int)
                have STB := hide stb
                have OB := hide ob
                have NB := hide nb
                have HCT := hide hct
                clear stb ob nb bb STA OA NA hct e0 e1 e2
                generalize costN x.ls (k : Int) (t : Int) (r : Int) = c at HCT ⊢
                go_wp2_with fail
                refine (lin_any _ _ nr (t : Int) _ NB.out (by omega)).mono ?_
                rintro e wc ⟨rfl, rfl⟩
                rw [← HCT.out]
                go_wp2
                exact ⟨⟨t + 1, by omega, by omega, by go_num, STB.out, OB.out, NB.out⟩, by simp [intOf]; omega⟩
              · go_wp2
                exact ⟨⟨r + 1, by omega, by go_num, ST8.out, O8.out⟩, by simp [intOf]; omega⟩
          · go_wp2
            exact ⟨⟨k + 1, by omega, by omega, by go_num, ST5.out⟩, by simp [intOf]; omega⟩
    · obtain ⟨wo, rfl⟩ : ∃ wo : World, wo = wr := ⟨_, rfl⟩
      go_wp2
      clear hlt hk hk1 e0 e1 e2
      go_loopw [12] (fun i wr => ∃ j : Nat, j ≤ x.ls.length ∧ i = .int .i64 j ∧ FSt w wr z x.n (.slice p1 x.ls.length c1) (.slice p2 x.ts.length c2) x.ls) (fun i _ => x.ls.length - (intOf i).toNat)
      case atStart => exact ⟨0, by omega, rfl, ST.out⟩
      case round =>
        clear ST
        obtain ⟨j, hj, rfl, st⟩ := hrel
        have e0 := st.c0
        have e1 := st.c1
        have e2 := st.c2
        by_cases hlt : j < x.ls.length
        · obtain ⟨l, hl⟩ : ∃ l, x.ls[j]? = some l := ⟨x.ls[j], List.getElem?_eq_getElem hlt⟩
          have hmem : l ∈ x.ls := List.mem_of_getElem? hl
          obtain ⟨b, off, cap', hve, hbb, s0, s1, s2, s3⟩ := st.lk.cells j l hl
          cases hve
          have HLO := hide (ilinkOk_any x.n l)
          rw [HRT.out.1 l hmem] at HLO
          have HCO := hide (fun W => icost_any (.int .i64 x.n) (.slice (some ⟨b, off, none⟩) x.ls.length c1) (.slice p2 x.ts.length c2) x.ls l.a l.b l.r W (by omega))
          rw [cost_own HRT.out hmem] at HCO
          unfold lkV at HLO
          obtain ⟨wq, hwq⟩ : ∃ wq, wq = wr.alloc (.cells #[.int .i64 l.a, .int .i64 l.b, .int .i64 l.c, .int .i64 l.r] 39) := ⟨_, rfl⟩
          have stq : FSt w wq z x.n (.slice (some ⟨b, off, none⟩) x.ls.length c1) (.slice p2 x.ts.length c2) x.ls := by rw [hwq]; exact st.alloc _
          have hbq : wq.heap[wr.heap.size]? = some (.cells #[.int .i64 l.a, .int .i64 l.b, .int .i64 l.c, .int .i64 l.r] 39) := by rw [hwq]; exact heap_alloc_new wr _
          have hj1 : (j : Int) < (x.ls.length : Int) := by omega
          have hbr : b < wr.heap.size := hbb
          clear hl hmem
          have ST := hide st
          clear st
          go_wp2
          rw [← hwq]
          have STD := hide stq.drew
          have g0 := stq.c0
          have g1 := stq.c1
          have g2 := stq.c2
          have d0 := cells_at hbq 0
          have d1 := cells_at hbq 1
          have d2 := cells_at hbq 2
          have d3 := cells_at hbq 3
          simp at d0 d1 d2 d3
          have hzq := lt_of_heap stq.box
          have hqq := lt_of_heap hbq
          obtain ⟨y, hy⟩ : ∃ y, y = wr.heap.size := ⟨_, rfl⟩
          rw [← hy] at d0 d1 d2 d3 hqq ⊢
          clear stq hbq hwq hy ST e0 e1 e2 s0 s1 s2 s3 hbb hbr
          go_region_held3 (fun W => W.cell? ⟨z, 0, none⟩ = some (.int .i64 x.n) ∧ W.cell? ⟨z, 1, none⟩ = some (.slice (some ⟨b, off, none⟩) x.ls.length c1) ∧ W.cell? ⟨z, 2, none⟩ = some (.slice p2 x.ts.length c2) ∧ W.cell? ⟨y, 0, none⟩ = some (.int .i64 l.a) ∧ W.cell? ⟨y, 1, none⟩ = some (.int .i64 l.b) ∧ W.cell? ⟨y, 2, none⟩ = some (.int .i64 l.c) ∧ W.cell? ⟨y, 3, none⟩ = some (.int .i64 l.r)) (first | go_keep | (refine ⟨?_, ?_, ?_, ?_, ?_, ?_, ?_⟩ <;> (rw [b9.cell (Nat.lt_of_lt_of_le (by assumption) b8.size), b8.cell (by assumption)]; assumption)) | (refine ⟨?_, ?_, ?_, ?_, ?_, ?_, ?_⟩ <;> (rw [b8.cell (by assumption)]; assumption))) (first | (go_at_call 15; refine (HLO.out _).mono ?_; rintro e w8 ⟨rfl, b8⟩) | (go_at_call 14; refine (HCO.out _ (STD.out.below b8).lk).mono ?_; rintro e w9 ⟨rfl, b9⟩))
          have st9 := (STD.out.below b8).below b9
          have ST9 := hide st9
          clear st9 b8 b9 STD
          go_wp2
          exact ⟨⟨j + 1, by omega, by go_num, ST9.out⟩, by simp [intOf]; omega⟩
        · have hj1 : ¬ (j : Int) < (x.ls.length : Int) := by omega
          have HNO := hide (ilinkOk_any x.n ⟨2, 1, 1, 0⟩)
          rw [no_link] at HNO
          unfold lkV at HNO
          have B := st.bel
          clear st
          go_wp2_with fail
          refine (HNO.out _).mono ?_
          rintro e w8 ⟨rfl, b8⟩
          go_wp2
          go_ret
          exact ⟨rfl, B.trans (b8.mono B.size)⟩
end Go.Proofs.Ytlkbodppkljoiaa
