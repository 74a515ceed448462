/-
  container/heap's up over impl.wayHeap: its contract.
-/
import Derived.Test.YtidoieolejkflaaGreatPk23
namespace Go.Proofs.YtidoieolejkflaaGreat
open Go.RowKit

set_option linter.unusedSimpArgs false

/-- a finder at z, whose row of what is next is u -/
structure HB (W : World) (lo z : Nat) (C : Array Value) (u : Value) (n : Nat) (q : Nat → Nat) (wd : Nat → WayD) (wv : Nat → Value) : Prop where
  box : W.heap[z]? = some (.cells C 126)
  c7 : C[7]? = some u
  hq : HQ W lo u n q wd wv

theorem HB.cell {W : World} {lo z n : Nat} {C : Array Value} {u : Value} {q : Nat → Nat} {wd : Nat → WayD} {wv : Nat → Value} (h : HB W lo z C u n q wd wv) : W.cell? ⟨z, 7, none⟩ = some u := (cells_at h.box 7).trans h.c7

theorem HB.below {W W' : World} {lo z n : Nat} {C : Array Value} {u : Value} {q : Nat → Nat} {wd : Nat → WayD} {wv : Nat → Value} (h : HB W lo z C u n q wd wv) (hb : Below W.heap.size W W') : HB W' lo z C u n q wd wv :=
  ⟨(hb.block _ (lt_of_heap h.box)).trans h.box, h.c7, h.hq.below hb⟩

theorem HB.shuf {W W' : World} {lo z n : Nat} {C : Array Value} {u : Value} {q q' : Nat → Nat} {wd : Nat → WayD} {wv : Nat → Value} (h : HB W lo z C u n q wd wv) (hg : W.grownBy W' u.ownBlock) (ho : W'.ownsRow lo 121 1 u n (ptrs q' n)) (hs : Shuf q q' n) : HB W' lo z C u n q' wd wv := by
  refine ⟨(hg.block z (lt_of_heap h.box) (own_type_ne2 h.hq.row h.box (by decide))).trans h.box, h.c7, ho, fun i hi => ?_, fun i hi => ?_⟩
  · obtain ⟨j, hj, e⟩ := hs.into i hi
    rw [e]
    have hw := h.hq.way j hj
    exact (hg.block _ (lt_of_heap hw) (own_type_ne2 h.hq.row hw (by decide))).trans hw
  · obtain ⟨j, hj, e⟩ := hs.into i hi
    rw [e]
    exact h.hq.sl j hj

theorem grown_of_below {W W' : World} {r : Option Nat} (hb : Below W.heap.size W W') : W.grownBy W' r := ⟨hb.os, hb.tape, hb.output, hb.size, fun k hk _ => hb.block k hk⟩

set_option maxRecDepth 100000 in
set_option maxHeartbeats 2000000 in
theorem up_any (W : World) (lo z n : Nat) (C : Array Value) (u : Value) (q : Nat → Nat) (wd : Nat → WayD) (wv : Nat → Value) (j : Nat) (h : HB W lo z C u n q wd wv) (hj : j < n) (hn : n ≤ 1048576) (hu : UpInv (fun k => (wd k).cost) q n j) :
    Calls Tryz.prog 154 #[.iface 167 (.pointer (some ⟨z, 7, none⟩)), .int .i64 (j : Int)] W fun e W' => ∃ q', e = .returned (.tuple #[]) ∧ IsHeap (fun k => (wd k).cost) q' n ∧ Shuf q q' n ∧ HB W' lo z C u n q' wd wv ∧ W.grownBy W' u.ownBlock := by
  have HU := hide hu
  have HH := hide h
  clear hu h
  go_enter Tryz.func154, Tryz.ntmps154
  go_wp2
  go_loopw [1] (fun i wr => ∃ (j : Nat) (q' : Nat → Nat), j < n ∧ i = .int .i64 (j : Int) ∧ Hid (UpInv (fun k => (wd k).cost) q' n j) ∧ Hid (Shuf q q' n) ∧ Hid (HB wr lo z C u n q' wd wv) ∧ Hid (W.grownBy wr u.ownBlock)) (fun i _ => (intOf i).toNat)
  case atStart => exact ⟨j, q, hj, rfl, HU, hide (Shuf.refl _ _), HH, hide (grown_refl _ _)⟩
  case round =>
    rename World => wa
    clear HU HH hj
    obtain ⟨j, q', hj, rfl, HU, HS, HH, HG⟩ := hrel
    have cz := HH.out.cell
    by_cases hj0 : j = 0
    · subst hj0
      have HI := hide (up_stop HU.out (.inl rfl))
      go_wp2
      go_returns
      exact ⟨q', rfl, HI.out, HS.out, HH.out, HG.out⟩
    · have hw1 : IntKind.i64.wrap ((j : Int) - 1) = ((j - 1 : Nat) : Int) := by rw [wrap_fit _ (by omega) (by omega)]; omega
      have hw2 : ((j - 1 : Nat) : Int).tdiv 2 = ((par j : Nat) : Int) := by rw [Int.tdiv_eq_ediv_of_nonneg (by omega)]; unfold par; omega
      have hpl : par j < j := par_lt (by omega)
      obtain ⟨p, hp⟩ : ∃ p, p = par j := ⟨_, rfl⟩
      rw [← hp] at hw2 hpl
      have HP := hide hp
      clear hp
      have hne : ((p : Int) == (j : Int)) = false := by
        have h1 : ¬ (p : Int) = (j : Int) := by omega
        simpa using h1
      have hne2 : ¬ (p : Int) = (j : Int) := by omega
      have HL := hide (less_any wa lo n u q' wd wv j p HH.out.hq hj (by omega))
      have mL := meth_Less cz
      by_cases hlt : (wd (q' j)).cost < (wd (q' p)).cost
      · go_wp2_with fail
        refine HL.out.mono ?_
        rintro e w2 ⟨rfl, b2⟩
        rw [decide_eq_true hlt]
        have H2 := HH.out.below b2
        have cz2 := H2.cell
        have mS := meth_Swap cz2
        have HSW := hide (swap_any w2 lo n u q' p j H2.hq.row (by omega) hj)
        have HB2 := hide H2
        have HUP := hide (up_step HU.out (by omega) hj (by rw [← HP.out]; exact hlt))
        rw [← HP.out] at HUP
        have HG2 := hide (grown_trans HG.out (grown_of_below (r := u.ownBlock) b2))
        clear b2 H2 mL
        go_wp2_with fail
        refine HSW.out.mono ?_
        rintro e w3 ⟨rfl, ho3, hg3⟩
        have HB3 := hide (HB2.out.shuf hg3 ho3 (Shuf.swap q' (by omega) hj))
        have HS3 := hide (HS.out.trans (Shuf.swap q' (i := p) (j := j) (by omega) hj))
        have HG3 := hide (grown_trans HG2.out hg3)
        clear ho3 hg3 mS
        go_wp2
        go_roundw
        case rel => exact ⟨p, _, by omega, rfl, HUP, HS3, HB3, HG3⟩
        case measure => simp [intOf]; omega
      · go_wp2_with fail
        refine HL.out.mono ?_
        rintro e w2 ⟨rfl, b2⟩
        rw [decide_eq_false (by omega)]
        have HI := hide (up_stop HU.out (.inr (by rw [← HP.out]; show ¬ (wd (q' j)).cost < (wd (q' p)).cost; omega)))
        have HB2 := hide (HH.out.below b2)
        have HG2 := hide (grown_trans HG.out (grown_of_below (r := u.ownBlock) b2))
        clear b2 mL
        go_wp2
        go_returns
        exact ⟨q', rfl, HI.out, HS.out, HB2.out, HG2.out⟩

/-- the lesser child of i below n -/
theorem kid_min {c : Nat → Int} {q : Nat → Nat} {n i j : Nat} (h1 : 2 * i + 1 < n → c (q j) ≤ c (q (2 * i + 1))) (h2 : 2 * i + 2 < n → c (q j) ≤ c (q (2 * i + 2))) : ∀ k, 0 < k → k < n → par k = i → c (q j) ≤ c (q k) := by
  intro k h0 hk hp
  rcases par_kids h0 hp with rfl | rfl
  · exact h1 hk
  · exact h2 hk

set_option maxRecDepth 100000 in
set_option maxHeartbeats 4000000 in
theorem down_any (W : World) (lo z n m : Nat) (C : Array Value) (u : Value) (q : Nat → Nat) (wd : Nat → WayD) (wv : Nat → Value) (h : HB W lo z C u m q wd wv) (hnm : n ≤ m) (hn : m ≤ 1048576) (hu : DownInv (fun k => (wd k).cost) q n 0) :
    Calls Tryz.prog 155 #[.iface 167 (.pointer (some ⟨z, 7, none⟩)), .int .i64 0, .int .i64 (n : Int)] W fun e W' => ∃ (r : Value) (q' : Nat → Nat), e = .returned r ∧ IsHeap (fun k => (wd k).cost) q' n ∧ Shuf q q' n ∧ HB W' lo z C u m q' wd wv ∧ W.grownBy W' u.ownBlock := by
  have HU := hide hu
  have HH := hide h
  clear hu h
  go_enter Tryz.func155, Tryz.ntmps155
  go_wp2
  go_loopw [7] (fun s wr => ∃ (i : Nat) (q' : Nat → Nat), i ≤ n ∧ s = .int .i64 (i : Int) ∧ Hid (DownInv (fun k => (wd k).cost) q' n i) ∧ Hid (Shuf q q' n) ∧ Hid (HB wr lo z C u m q' wd wv) ∧ Hid (W.grownBy wr u.ownBlock)) (fun s _ => n - (intOf s).toNat)
  case atStart => exact ⟨0, q, by omega, rfl, HU, hide (Shuf.refl _ _), HH, hide (grown_refl _ _)⟩
  case round =>
    rename World => wa
    clear HU HH
    obtain ⟨i, q', hi, rfl, HU, HS, HH, HG⟩ := hrel
    have cz := HH.out.cell
    have hw1 : IntKind.i64.wrap (2 * (i : Int)) = ((2 * i : Nat) : Int) := by rw [wrap_fit _ (by omega) (by omega)]; omega
    have hw2 : IntKind.i64.wrap (((2 * i : Nat) : Int) + 1) = ((2 * i + 1 : Nat) : Int) := by rw [wrap_fit _ (by omega) (by omega)]; omega
    have hw3 : IntKind.i64.wrap (((2 * i + 1 : Nat) : Int) + 1) = ((2 * i + 2 : Nat) : Int) := by rw [wrap_fit _ (by omega) (by omega)]; omega
    obtain ⟨j1, hj1⟩ : ∃ j, j = 2 * i + 1 := ⟨_, rfl⟩
    obtain ⟨j2, hj2⟩ : ∃ j, j = 2 * i + 2 := ⟨_, rfl⟩
    obtain ⟨i2, hi2⟩ : ∃ j, j = 2 * i := ⟨_, rfl⟩
    rw [← hj1] at hw2 hw3
    rw [← hi2] at hw1 hw2
    rw [← hj2] at hw3
    have HJ1 := hide hj1
    have HJ2 := hide hj2
    have hij : i < j1 := by omega
    have hj12 : j2 = j1 + 1 := by omega
    have HJ12 := hide hj12
    have hj1n : ¬ (j1 : Int) < 0 := by omega
    clear hj1 hj2 hi2
    by_cases hlt : j1 < n
    · clear hj12
      have hij2 : i < j2 := by have := HJ12.out; omega
      have hge : ¬ (n : Int) ≤ (j1 : Int) := by omega
      have hged : decide ((j1 : Int) ≥ (n : Int)) = false := by simp; omega
      have hged2 : decide ((n : Int) ≤ (j1 : Int)) = false := by simp; omega
      by_cases hlt2 : j2 < n
      · have hl2 : (j2 : Int) < (n : Int) := by omega
        have mL := meth_Less cz
        have HL := hide (less_any wa lo m u q' wd wv j2 j1 HH.out.hq (by omega) (by omega))
        by_cases hc21 : (wd (q' j2)).cost < (wd (q' j1)).cost
        · go_wp2_with fail
          refine HL.out.mono ?_
          rintro e w2 ⟨rfl, b2⟩
          rw [decide_eq_true hc21]
          have HB2 := hide (HH.out.below b2)
          have HG2 := hide (grown_trans HG.out (grown_of_below (r := u.ownBlock) b2))
          clear b2 mL cz HL
          have hlJ : j2 < n := by omega
          have cz5 := HB2.out.cell
          have mL5 := meth_Less cz5
          have HL5 := hide (less_any w2 lo m u q' wd wv j2 i HB2.out.hq (by omega) (by omega))
          have KM := hide (kid_min (c := fun k => (wd k).cost) (q := q') (n := n) (i := i) (j := j2) (fun _ => by rw [← HJ1.out]; exact Int.le_of_lt hc21) (fun _ => by rw [← HJ2.out]; exact Int.le_refl _))
          by_cases hlt5 : (wd (q' j2)).cost < (wd (q' i)).cost
          · go_wp2_with fail
            refine HL5.out.mono ?_
            rintro e w6 ⟨rfl, b6⟩
            rw [decide_eq_true hlt5]
            have H6 := HB2.out.below b6
            have cz6 := H6.cell
            have mS := meth_Swap cz6
            have HSW := hide (swap_any w6 lo m u q' i j2 H6.hq.row (by omega) (by omega))
            have HB6 := hide H6
            have HDN := hide (down_step HU.out (j := j2) (by omega) hlJ (by unfold par; have := HJ1.out; have := HJ2.out; omega) hlt5 KM.out)
            have HG6 := hide (grown_trans HG2.out (grown_of_below (r := u.ownBlock) b6))
            clear b6 H6 mL5 cz5
            go_wp2_with fail
            refine HSW.out.mono ?_
            rintro e w7 ⟨rfl, ho7, hg7⟩
            have HB7 := hide (HB6.out.shuf hg7 ho7 (Shuf.swap q' (by omega) (by omega)))
            have HS7 := hide (HS.out.trans (Shuf.swap q' (i := i) (j := j2) (by omega) hlJ))
            have HG7 := hide (grown_trans HG6.out hg7)
            clear ho7 hg7 mS
            go_wp2
            go_roundw
            case rel => exact ⟨j2, _, by omega, rfl, HDN, HS7, HB7, HG7⟩
            case measure => simp [intOf]; omega
          · go_wp2_with fail
            refine HL5.out.mono ?_
            rintro e w6 ⟨rfl, b6⟩
            rw [decide_eq_false (by omega)]
            have hle5 : (wd (q' i)).cost ≤ (wd (q' j2)).cost := by omega
            have HI := hide (down_stop HU.out (fun k h0 hk hp => Int.le_trans hle5 (KM.out k h0 hk hp)))
            have HB6 := hide (HB2.out.below b6)
            have HG6 := hide (grown_trans HG2.out (grown_of_below (r := u.ownBlock) b6))
            clear b6 mL5 cz5
            go_wp2
            go_returns
            first
              | exact ⟨_, q', rfl, HI.out, HS.out, HB6.out, HG6.out⟩
              | exact ⟨_, rfl, q', HI.out, HS.out, HB6.out, HG6.out⟩
        · go_wp2_with fail
          refine HL.out.mono ?_
          rintro e w2 ⟨rfl, b2⟩
          rw [decide_eq_false (by omega)]
          have hc21' : (wd (q' j1)).cost ≤ (wd (q' j2)).cost := by omega
          have HB2 := hide (HH.out.below b2)
          have HG2 := hide (grown_trans HG.out (grown_of_below (r := u.ownBlock) b2))
          clear b2 mL cz HL
          have hlJ : j1 < n := by omega
          have cz5 := HB2.out.cell
          have mL5 := meth_Less cz5
          have HL5 := hide (less_any w2 lo m u q' wd wv j1 i HB2.out.hq (by omega) (by omega))
          have KM := hide (kid_min (c := fun k => (wd k).cost) (q := q') (n := n) (i := i) (j := j1) (fun _ => by rw [← HJ1.out]; exact Int.le_refl _) (fun _ => by rw [← HJ2.out]; exact hc21'))
          by_cases hlt5 : (wd (q' j1)).cost < (wd (q' i)).cost
          · go_wp2_with fail
            refine HL5.out.mono ?_
            rintro e w6 ⟨rfl, b6⟩
            rw [decide_eq_true hlt5]
            have H6 := HB2.out.below b6
            have cz6 := H6.cell
            have mS := meth_Swap cz6
            have HSW := hide (swap_any w6 lo m u q' i j1 H6.hq.row (by omega) (by omega))
            have HB6 := hide H6
            have HDN := hide (down_step HU.out (j := j1) (by omega) hlJ (by unfold par; have := HJ1.out; have := HJ2.out; omega) hlt5 KM.out)
            have HG6 := hide (grown_trans HG2.out (grown_of_below (r := u.ownBlock) b6))
            clear b6 H6 mL5 cz5
            go_wp2_with fail
            refine HSW.out.mono ?_
            rintro e w7 ⟨rfl, ho7, hg7⟩
            have HB7 := hide (HB6.out.shuf hg7 ho7 (Shuf.swap q' (by omega) (by omega)))
            have HS7 := hide (HS.out.trans (Shuf.swap q' (i := i) (j := j1) (by omega) hlJ))
            have HG7 := hide (grown_trans HG6.out hg7)
            clear ho7 hg7 mS
            go_wp2
            go_roundw
            case rel => exact ⟨j1, _, by omega, rfl, HDN, HS7, HB7, HG7⟩
            case measure => simp [intOf]; omega
          · go_wp2_with fail
            refine HL5.out.mono ?_
            rintro e w6 ⟨rfl, b6⟩
            rw [decide_eq_false (by omega)]
            have hle5 : (wd (q' i)).cost ≤ (wd (q' j1)).cost := by omega
            have HI := hide (down_stop HU.out (fun k h0 hk hp => Int.le_trans hle5 (KM.out k h0 hk hp)))
            have HB6 := hide (HB2.out.below b6)
            have HG6 := hide (grown_trans HG2.out (grown_of_below (r := u.ownBlock) b6))
            clear b6 mL5 cz5
            go_wp2
            go_returns
            first
              | exact ⟨_, q', rfl, HI.out, HS.out, HB6.out, HG6.out⟩
              | exact ⟨_, rfl, q', HI.out, HS.out, HB6.out, HG6.out⟩
      · have hl2 : ¬ (j2 : Int) < (n : Int) := by omega
        have hlJ : j1 < n := by omega
        have cz5 := HH.out.cell
        have mL5 := meth_Less cz5
        have HL5 := hide (less_any wa lo m u q' wd wv j1 i HH.out.hq (by omega) (by omega))
        have KM := hide (kid_min (c := fun k => (wd k).cost) (q := q') (n := n) (i := i) (j := j1) (fun _ => by rw [← HJ1.out]; exact Int.le_refl _) (fun h => by have := HJ2.out; omega))
        by_cases hlt5 : (wd (q' j1)).cost < (wd (q' i)).cost
        · go_wp2_with fail
          refine HL5.out.mono ?_
          rintro e w6 ⟨rfl, b6⟩
          rw [decide_eq_true hlt5]
          have H6 := HH.out.below b6
          have cz6 := H6.cell
          have mS := meth_Swap cz6
          have HSW := hide (swap_any w6 lo m u q' i j1 H6.hq.row (by omega) (by omega))
          have HB6 := hide H6
          have HDN := hide (down_step HU.out (j := j1) (by omega) hlJ (by unfold par; have := HJ1.out; have := HJ2.out; omega) hlt5 KM.out)
          have HG6 := hide (grown_trans HG.out (grown_of_below (r := u.ownBlock) b6))
          clear b6 H6 mL5 cz5
          go_wp2_with fail
          refine HSW.out.mono ?_
          rintro e w7 ⟨rfl, ho7, hg7⟩
          have HB7 := hide (HB6.out.shuf hg7 ho7 (Shuf.swap q' (by omega) (by omega)))
          have HS7 := hide (HS.out.trans (Shuf.swap q' (i := i) (j := j1) (by omega) hlJ))
          have HG7 := hide (grown_trans HG6.out hg7)
          clear ho7 hg7 mS
          go_wp2
          go_roundw
          case rel => exact ⟨j1, _, by omega, rfl, HDN, HS7, HB7, HG7⟩
          case measure => simp [intOf]; omega
        · go_wp2_with fail
          refine HL5.out.mono ?_
          rintro e w6 ⟨rfl, b6⟩
          rw [decide_eq_false (by omega)]
          have hle5 : (wd (q' i)).cost ≤ (wd (q' j1)).cost := by omega
          have HI := hide (down_stop HU.out (fun k h0 hk hp => Int.le_trans hle5 (KM.out k h0 hk hp)))
          have HB6 := hide (HH.out.below b6)
          have HG6 := hide (grown_trans HG.out (grown_of_below (r := u.ownBlock) b6))
          clear b6 mL5 cz5
          go_wp2
          go_returns
          first
            | exact ⟨_, q', rfl, HI.out, HS.out, HB6.out, HG6.out⟩
            | exact ⟨_, rfl, q', HI.out, HS.out, HB6.out, HG6.out⟩
    · clear hj12
      have hge : (n : Int) ≤ (j1 : Int) := by omega
      have HI := hide (down_stop HU.out (fun k h0 hk hp => by rcases par_kids h0 hp with e | e <;> (have := HJ1.out; omega)))
      go_wp2
      go_returns
      first
        | exact ⟨_, q', rfl, HI.out, HS.out, HH.out, HG.out⟩
        | exact ⟨_, rfl, q', HI.out, HS.out, HH.out, HG.out⟩
        | exact ⟨⟨_, rfl⟩, q', HI.out, HS.out, HH.out, HG.out⟩
end Go.Proofs.YtidoieolejkflaaGreat
