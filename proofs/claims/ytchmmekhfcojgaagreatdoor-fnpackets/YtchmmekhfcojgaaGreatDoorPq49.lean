/-
  spec.ReadPacket: its walk.
-/
import Derived.Test.YtchmmekhfcojgaaGreatDoorPq48
import Derived.Deep.Cut
namespace Go.Proofs.YtchmmekhfcojgaaGreatDoor
open Go.RowKit

set_option linter.unusedSimpArgs false

set_option maxRecDepth 100000 in
set_option maxHeartbeats 8000000 in
theorem srp_core (T : ByteArray) (x : PkD) (xs : List RecD) (A : Prop) (hA : A → pkB x xs = true ∧ T = sealB (pkL x xs)) (hN : ¬ A → ∀ y ys, pkB y ys = true → T ≠ sealB (pkL y ys)) (w : World) (hT : T.size ≤ 1048576) :
    Calls Tryz.prog 13 #[.string T] w fun e w' => ∃ x' v1 v2 ps m b, e = .returned (.tuple #[pkV x' v1 v2, .bool b]) ∧ RpRes T x' (fsts ps) b ∧ PkOwn w' w.heap.size w'.heap.size v1 v2 x' ps m ∧ Below w.heap.size w w' := by
  have HA := hide hA
  have HN := hide hN
  obtain ⟨s, b0, hu, hsz, hsl⟩ := unV_got (T := T)
  have HAW := hide (show A → Await s x xs ∧ b0 = false from fun h => by
    obtain ⟨h1, h2⟩ := hA h
    have hb := pk_bounds h1
    obtain ⟨h3, h4⟩ := hsl _ h2 (Nat.le_trans (pkL_len hb) (by omega))
    rw [h3]
    exact ⟨await hb, h4⟩)
  have hs : s.size ≤ 1048576 := by omega
  clear hsl hsz hA hN
  have B0 : Below w.heap.size w (w.alloc (.cells #[.int .i64 0, .int .i64 0, .int .i64 0, .int .i64 0, .slice none 0 0, .slice none 0 0] 27)) := (Below.refl _ _).alloc (Nat.le_refl _) _
  have g0 := heap_alloc_new w (.cells #[.int .i64 0, .int .i64 0, .int .i64 0, .int .i64 0, .slice none 0 0, .slice none 0 0] 27)
  have HUN := hide (sun_any T (w.alloc (.cells #[.int .i64 0, .int .i64 0, .int .i64 0, .int .i64 0, .slice none 0 0, .slice none 0 0] 27)) hT)
  rw [hu] at HUN
  clear hu
  have CO := hide (fun z p b W (hp : p ≤ s.size) (h : RdAt W z 62 s p b) => byteS_any z p s b W hs hp h)
  have CN := hide (fun z p b W (hp : p ≤ s.size) (h : RdAt W z 62 s p b) => numS_any z p s b W hs hp h)
  go_enter Tryz.func13, Tryz.ntmps13
  go_wp2_with fail
  refine HUN.out.mono ?_
  rintro e w1 ⟨rfl, b1⟩
  have B1 : Below w.heap.size w w1 := B0.trans (b1.mono B0.size)
  have g1 := (b1.block _ (lt_of_heap g0)).trans g0
  have hz1 := lt_of_heap g1
  have BC : Below w1.heap.size w1 (w1.alloc (.cells #[.string s, .int .i64 0, .bool b0] 62)) := (Below.refl _ _).alloc (Nat.le_refl _) _
  have hrd : RdAt (w1.alloc (.cells #[.string s, .int .i64 0, .bool b0] 62)) w1.heap.size 62 s 0 b0 := heap_alloc_new w1 _
  have g2 := (BC.block _ hz1).trans g1
  have B2 := B1.trans (BC.mono B1.size)
  have G2 := hide g2
  have HB2 := hide B2
  have HRD := hide hrd
  clear b1 B0 g0 g1 g2 HUN B1 BC B2 hrd
  go_wp2_with fail
  obtain ⟨z, hz⟩ : ∃ z, z = w1.heap.size := ⟨_, rfl⟩
  obtain ⟨w2, hw2⟩ : ∃ W, W = w1.alloc (.cells #[.string s, .int .i64 0, .bool b0] 62) := ⟨_, rfl⟩
  rw [← hz] at hz1 HRD ⊢
  rw [← hw2] at G2 HB2 HRD ⊢
  clear hz hw2
  refine (CO.out z 0 b0 _ (Nat.zero_le _) HRD.out).mono ?_
  rintro e w3 ⟨rfl, hrd, hg⟩
  have hq0 := oneR_le9 (b := b0) (Nat.zero_le s.size)
  have HW0 := hide (show A → oneR s 0 b0 = ⟨x.kind, 1, false⟩ from fun h => by rw [(HAW.out h).2]; exact (HAW.out h).1.k0)
  generalize oneR s 0 b0 = q0 at hrd hq0 HW0 ⊢
  have G3 := hide ((hg.block _ (lt_of_heap G2.out) (by simp; omega)).trans G2.out)
  have HB3 := hide (HB2.out.grown hg HB2.out.size (fun j e => by simp at e; omega))
  have HR3 := hide hrd
  have hz3 := lt_of_heap hrd
  clear hg hrd G2 HB2 HRD
  have PB := heap_alloc_new w3 (.cells #[.int .i64 q0.v, .int .i64 0, .int .i64 0, .int .i64 0, .slice none 0 0, .slice none 0 0] 27)
  have BP : Below w3.heap.size w3 (w3.alloc (.cells #[.int .i64 q0.v, .int .i64 0, .int .i64 0, .int .i64 0, .slice none 0 0, .slice none 0 0] 27)) := (Below.refl _ _).alloc (Nat.le_refl _) _
  have S4 := hide (show RpSt w (w3.alloc (.cells #[.int .i64 q0.v, .int .i64 0, .int .i64 0, .int .i64 0, .slice none 0 0, .slice none 0 0] 27)) z w3.heap.size s q0.p q0.b #[.int .i64 q0.v, .int .i64 0, .int .i64 0, .int .i64 0, .slice none 0 0, .slice none 0 0] from ⟨(BP.block _ hz3).trans HR3.out, (BP.block _ (lt_of_heap G3.out)).trans G3.out, PB, HB3.out.trans (BP.mono HB3.out.size), hz1, hz3⟩)
  clear PB BP G3 HB3 HR3
  go_wp2_with fail
  obtain ⟨q, hq⟩ : ∃ q, q = w3.heap.size := ⟨_, rfl⟩
  obtain ⟨w4, hw4⟩ : ∃ W, W = w3.alloc (.cells #[.int .i64 q0.v, .int .i64 0, .int .i64 0, .int .i64 0, .slice none 0 0, .slice none 0 0] 27) := ⟨_, rfl⟩
  rw [← hq] at S4 hz3 ⊢
  rw [← hw4] at S4 ⊢
  clear hq hw4
  refine (CO.out z q0.p q0.b _ hq0 S4.out.rd).mono ?_
  rintro e w5 ⟨rfl, hrd, hg⟩
  have hq1 := oneR_le9 (b := q0.b) hq0
  have HW1 := hide (show A → oneR s q0.p q0.b = ⟨x.src, 2, false⟩ from fun h => by rw [HW0.out h]; exact (HAW.out h).1.k1)
  generalize oneR s q0.p q0.b = q1 at hrd hq1 HW1 ⊢
  have S5 := hide (S4.out.read hg hrd)
  have y := cells_at S5.out.box 1
  have fy := frozen_at S5.out.box 1
  simp at y
  have S6 := hide (S5.out.set 1 (.int .i64 q1.v))
  clear hg hrd S4
  go_wp2_with fail
  clear y fy S5
  obtain ⟨w6, hw6⟩ : ∃ W, W = w5.setCell ⟨q, 1, none⟩ (.int .i64 q1.v) := ⟨_, rfl⟩
  rw [← hw6] at S6 ⊢
  clear hw6
  have S6 := hide (show RpSt w w6 z q s q1.p q1.b #[.int .i64 q0.v, .int .i64 q1.v, .int .i64 0, .int .i64 0, .slice none 0 0, .slice none 0 0] from S6.out)
  refine (CO.out z q1.p q1.b _ hq1 S6.out.rd).mono ?_
  rintro e w7 ⟨rfl, hrd, hg⟩
  have hq2 := oneR_le9 (b := q1.b) hq1
  have HW2 := hide (show A → oneR s q1.p q1.b = ⟨x.dst, 3, false⟩ from fun h => by rw [HW1.out h]; exact (HAW.out h).1.k2)
  generalize oneR s q1.p q1.b = q2 at hrd hq2 HW2 ⊢
  have S7 := hide (S6.out.read hg hrd)
  have y := cells_at S7.out.box 2
  have fy := frozen_at S7.out.box 2
  simp at y
  have S8 := hide (S7.out.set 2 (.int .i64 q2.v))
  clear hg hrd S6
  go_wp2_with fail
  clear y fy S7
  obtain ⟨w8, hw8⟩ : ∃ W, W = w7.setCell ⟨q, 2, none⟩ (.int .i64 q2.v) := ⟨_, rfl⟩
  rw [← hw8] at S8 ⊢
  clear hw8
  have S8 := hide (show RpSt w w8 z q s q2.p q2.b #[.int .i64 q0.v, .int .i64 q1.v, .int .i64 q2.v, .int .i64 0, .slice none 0 0, .slice none 0 0] from S8.out)
  refine (CO.out z q2.p q2.b _ hq2 S8.out.rd).mono ?_
  rintro e w9 ⟨rfl, hrd, hg⟩
  have hq3 := oneR_le9 (b := q2.b) hq2
  have HW3 := hide (show A → oneR s q2.p q2.b = ⟨x.area, 4, false⟩ from fun h => by rw [HW2.out h]; exact (HAW.out h).1.k3)
  generalize oneR s q2.p q2.b = q3 at hrd hq3 HW3 ⊢
  have S9 := hide (S8.out.read hg hrd)
  have y := cells_at S9.out.box 3
  have fy := frozen_at S9.out.box 3
  simp at y
  have S10 := hide (S9.out.set 3 (.int .i64 q3.v))
  clear hg hrd S8
  go_wp2_with fail
  clear y fy S9
  obtain ⟨w10, hw10⟩ : ∃ W, W = w9.setCell ⟨q, 3, none⟩ (.int .i64 q3.v) := ⟨_, rfl⟩
  rw [← hw10] at S10 ⊢
  clear hw10
  have S10 := hide (show RpSt w w10 z q s q3.p q3.b #[.int .i64 q0.v, .int .i64 q1.v, .int .i64 q2.v, .int .i64 q3.v, .slice none 0 0, .slice none 0 0] from S10.out)
  refine (CN.out z q3.p q3.b _ hq3 S10.out.rd).mono ?_
  rintro e w11 ⟨rfl, hrd, hg⟩
  obtain ⟨nn, hnn, hnm⟩ := varR_nat (b := q3.b) hq3
  have hq4 := varR_le (b := q3.b) hq3
  have HW4 := hide (show A → varR s q3.p q3.b = ⟨(x.heard.length : Int), rpP x, false⟩ from fun h => by rw [HW3.out h]; exact (HAW.out h).1.hn)
  generalize varR s q3.p q3.b = q4 at hrd hnn hq4 HW4 ⊢
  have S11 := hide (S10.out.read hg hrd)
  have HNN := hide (show A → nn = x.heard.length from fun h => by rw [HW4.out h] at hnn; simp at hnn; omega)
  rw [hnn]
  clear hg hrd S10 hnn
  go_upto_block 0 with fail
  go_cut [] from 9 (fun wx => ∃ (l : List Int) (p : Nat) (b : Bool) (u : Value), l.length ≤ 50 ∧ p ≤ s.size ∧ RpSt w wx z q s p b #[.int .i64 q0.v, .int .i64 q1.v, .int .i64 q2.v, .int .i64 q3.v, u, .slice none 0 0] ∧ wx.ownsRow (q + 1) 3 1 u l.length (flat intE l) ∧ Hid (A → l = x.heard ∧ p = rpP x + x.heard.length ∧ b = false))
  case rest =>
    obtain ⟨l, p, b, u, hl50, hp, hst, hown, HAL⟩ := hcut
    obtain ⟨ua, uc, rfl⟩ := owns_lenS hown
    have hzq := hst.o2
    have S20 := hide hst
    have OW20 := hide hown
    clear hst hown S11
    go_wp2_with fail
    refine (CN.out z p b _ hp S20.out.rd).mono ?_
    rintro e w21 ⟨rfl, hrd, hg⟩
    obtain ⟨mm, hmm, hmb⟩ := varR_nat (b := b) hp
    have hq5 := varR_le (b := b) hp
    have HW5 := hide (show A → varR s p b = ⟨(xs.length : Int), rpQ x xs, false⟩ from fun h => by obtain ⟨a1, a2, a3⟩ := HAL.out h; rw [a2, a3]; exact (HAW.out h).1.ln)
    generalize varR s p b = q5 at hrd hmm hq5 HW5 ⊢
    have HMM := hide (show A → mm = xs.length from fun h => by rw [HW5.out h] at hmm; simp at hmm; omega)
    have HAH := hide (show A → l = x.heard from fun h => (HAL.out h).1)
    have S21 := hide (S20.out.read hg hrd)
    have OW21 := kept_other OW20.out hg (by omega)
    have HI21 := hide (show IntsOwn w21 (q + 1) w21.heap.size (.slice ua l.length uc) l from ⟨OW21, fun k e => (OW21.lt k e).2⟩)
    rw [hmm]
    obtain ⟨m, hm⟩ : ∃ m, m = w21.heap.size := ⟨_, rfl⟩
    rw [← hm] at HI21
    have hqm : q < m := by rw [hm]; exact lt_of_heap S21.out.box
    have HM := hide (Nat.le_of_eq hm)
    clear hm hg hrd S20 OW20 OW21 hmm HAL
    go_upto_block 2 with fail
    go_cut [] from 10 (fun wx => ∃ (ps : List RP) (p2 : Nat) (b2 : Bool) (u2 : Value), ps.length ≤ 200 ∧ RpSt w wx z q s p2 b2 #[.int .i64 q0.v, .int .i64 q1.v, .int .i64 q2.v, .int .i64 q3.v, .slice ua l.length uc, u2] ∧ IntsOwn wx (q + 1) m (.slice ua l.length uc) l ∧ RecsOwn wx m wx.heap.size u2 ps ∧ tot ps ≤ 1400 ∧ m ≤ wx.heap.size ∧ Hid (A → fsts ps = xs ∧ b2 = false))
    case rest =>
      obtain ⟨ps, p2, b2, u2, hp200, hst, hi, hr, htt, hmw, HAL⟩ := hcut
      obtain ⟨oa, oc, rfl⟩ := owns_lenS hr.row
      have HPK := hide (show PkOwn wc (q + 1) wc.heap.size (.slice ua l.length uc) (.slice oa ps.length oc) (⟨q0.v, q1.v, q2.v, q3.v, l⟩ : PkD) ps m from ⟨by omega, hmw, hi, hr⟩)
      have HPT := hide (sptext_any (.slice ua l.length uc) (.slice oa ps.length oc) (⟨q0.v, q1.v, q2.v, q3.v, l⟩ : PkD) ps wc.heap.size wc (by unfold totP; show l.length + tot ps ≤ 1048576; omega) HPK.out.src (Nat.le_refl _))
      have HX := hide (show A → ((⟨q0.v, q1.v, q2.v, q3.v, l⟩ : PkD) = x ∧ fsts ps = xs ∧ b2 = false ∧ pkB x xs = true ∧ T = sealB (pkL x xs)) from fun h => by
        obtain ⟨a1, a2⟩ := HAL.out h
        refine ⟨?_, a1, a2, HA.out h⟩
        rw [HW0.out h, HW1.out h, HW2.out h, HW3.out h, HAH.out h])
      have HZ := hide (show ¬ A → RpRes T zeroPk [] false from fun h => .inr ⟨rfl, rfl, rfl, HN.out h⟩)
      have S40 := hide hst
      clear hst hi hr HAL HA HN HW0 HW1 HW2 HW3 HW4 HW5 HAH HMM HNN HAW S21
      have b0c := cells_at S40.out.box 0
      have b1c := cells_at S40.out.box 1
      have b2c := cells_at S40.out.box 2
      have b3c := cells_at S40.out.box 3
      have b4c := cells_at S40.out.box 4
      have b5c := cells_at S40.out.box 5
      simp at b0c b1c b2c b3c b4c b5c
      go_wp2_with fail
      refine HPT.out.mono ?_
      rintro e w40 ⟨rfl, b40⟩
      clear HPT b0c b1c b2c b3c b4c b5c
      have S41 := hide (S40.out.later b40)
      have OW41 := hide (HPK.out.below b40 (Nat.le_refl _))
      have hzz := S41.out.o1
      have hqq := S41.out.o2
      have hs40 := b40.size
      have HB40 := hide S41.out.bel
      have G40 := hide S41.out.res
      have cb := cells_at S41.out.rd 2
      have t0 := cells_at S41.out.box 0
      have t1 := cells_at S41.out.box 1
      have t2 := cells_at S41.out.box 2
      have t3 := cells_at S41.out.box 3
      have t4 := cells_at S41.out.box 4
      have t5 := cells_at S41.out.box 5
      have s0 := cells_at G40.out 0
      have s1 := cells_at G40.out 1
      have s2 := cells_at G40.out 2
      have s3 := cells_at G40.out 3
      have s4 := cells_at G40.out 4
      have s5 := cells_at G40.out 5
      have f0 := frozen_at G40.out 0
      have f1 := frozen_at G40.out 1
      have f2 := frozen_at G40.out 2
      have f3 := frozen_at G40.out 3
      have f4 := frozen_at G40.out 4
      have f5 := frozen_at G40.out 5
      simp at cb t0 t1 t2 t3 t4 t5 s0 s1 s2 s3 s4 s5
      have hrs := lt_of_heap G40.out
      clear b40 S40 HPK
      cases hpk : pkB (⟨q0.v, q1.v, q2.v, q3.v, l⟩ : PkD) (fsts ps) with
      | false =>
        have hpt : ptV (⟨q0.v, q1.v, q2.v, q3.v, l⟩ : PkD) (fsts ps) = .tuple #[.string (bs []), .bool false] := by unfold ptV; rw [hpk]; rfl
        rw [hpt]
        have HR := hide (HZ.out (fun h => by obtain ⟨a1, a2, a3, a4, a5⟩ := HX.out h; rw [a1, a2, a4] at hpk; cases hpk))
        clear hpt hpk
        cases b2 with
        | true =>
          go_wp2_with fail
          have k0 := G40.out
          have k1 := heap_setCell_same _ _ 0 _ _ (.int .i64 0) k0
          have k2 := heap_setCell_same _ _ 1 _ _ (.int .i64 0) k1
          have k3 := heap_setCell_same _ _ 2 _ _ (.int .i64 0) k2
          have k4 := heap_setCell_same _ _ 3 _ _ (.int .i64 0) k3
          have k5 := heap_setCell_same _ _ 4 _ _ (.slice none 0 0) k4
          have k6 := heap_setCell_same _ _ 5 _ _ (.slice none 0 0) k5
          (try simp only [Exit.inBlock, Exit.then])
          refine bodyPost_ret (results_cell_row_tmp rfl _ _ w.heap.size 27 #[.int .i64 0, .int .i64 0, .int .i64 0, .int .i64 0, .slice none 0 0, .slice none 0 0] (0, 0) _ rfl k6 Tryz.underlying27 rfl (by kernel_rfl)) rfl ?_
          clear k0 k1 k2 k3 k4 k5 k6
          refine ⟨zeroPk, .slice none 0 0, .slice none 0 0, [], w.heap.size, false, rfl, HR.out, pk_zero _ _ ?_, ?_⟩
          · simp; omega
          · repeat (refine Below.setCell ?_ (by show w.heap.size ≤ w.heap.size; omega) _)
            exact HB40.out
        | false =>
          go_wp2_with fail
          have k0 := G40.out
          have k1 := heap_setCell_same _ _ 0 _ _ (.int .i64 0) k0
          have k2 := heap_setCell_same _ _ 1 _ _ (.int .i64 0) k1
          have k3 := heap_setCell_same _ _ 2 _ _ (.int .i64 0) k2
          have k4 := heap_setCell_same _ _ 3 _ _ (.int .i64 0) k3
          have k5 := heap_setCell_same _ _ 4 _ _ (.slice none 0 0) k4
          have k6 := heap_setCell_same _ _ 5 _ _ (.slice none 0 0) k5
          (try simp only [Exit.inBlock, Exit.then])
          refine bodyPost_ret (results_cell_row_tmp rfl _ _ w.heap.size 27 #[.int .i64 0, .int .i64 0, .int .i64 0, .int .i64 0, .slice none 0 0, .slice none 0 0] (0, 0) _ rfl k6 Tryz.underlying27 rfl (by kernel_rfl)) rfl ?_
          clear k0 k1 k2 k3 k4 k5 k6
          refine ⟨zeroPk, .slice none 0 0, .slice none 0 0, [], w.heap.size, false, rfl, HR.out, pk_zero _ _ ?_, ?_⟩
          · simp; omega
          · repeat (refine Below.setCell ?_ (by show w.heap.size ≤ w.heap.size; omega) _)
            exact HB40.out
      | true =>
        have hpt : ptV (⟨q0.v, q1.v, q2.v, q3.v, l⟩ : PkD) (fsts ps) = .tuple #[.string (sealB (pkL (⟨q0.v, q1.v, q2.v, q3.v, l⟩ : PkD) (fsts ps))), .bool true] := by unfold ptV; rw [hpk]; rfl
        rw [hpt]
        obtain ⟨bk, hbk⟩ : ∃ t, t = sealB (pkL (⟨q0.v, q1.v, q2.v, q3.v, l⟩ : PkD) (fsts ps)) := ⟨_, rfl⟩
        rw [← hbk]
        by_cases heq : bk = T
        · cases b2 with
          | true =>
            have HR := hide (HZ.out (fun h => by obtain ⟨a1, a2, a3, a4, a5⟩ := HX.out h; cases a3))
            clear hpt hpk hbk heq
            go_wp2_with fail
            have k0 := G40.out
            have k1 := heap_setCell_same _ _ 0 _ _ (.int .i64 0) k0
            have k2 := heap_setCell_same _ _ 1 _ _ (.int .i64 0) k1
            have k3 := heap_setCell_same _ _ 2 _ _ (.int .i64 0) k2
            have k4 := heap_setCell_same _ _ 3 _ _ (.int .i64 0) k3
            have k5 := heap_setCell_same _ _ 4 _ _ (.slice none 0 0) k4
            have k6 := heap_setCell_same _ _ 5 _ _ (.slice none 0 0) k5
            (try simp only [Exit.inBlock, Exit.then])
            refine bodyPost_ret (results_cell_row_tmp rfl _ _ w.heap.size 27 #[.int .i64 0, .int .i64 0, .int .i64 0, .int .i64 0, .slice none 0 0, .slice none 0 0] (0, 0) _ rfl k6 Tryz.underlying27 rfl (by kernel_rfl)) rfl ?_
            clear k0 k1 k2 k3 k4 k5 k6
            refine ⟨zeroPk, .slice none 0 0, .slice none 0 0, [], w.heap.size, false, rfl, HR.out, pk_zero _ _ ?_, ?_⟩
            · simp; omega
            · repeat (refine Below.setCell ?_ (by show w.heap.size ≤ w.heap.size; omega) _)
              exact HB40.out
          | false =>
            have HR := hide (show RpRes T (⟨q0.v, q1.v, q2.v, q3.v, l⟩ : PkD) (fsts ps) true from .inl ⟨rfl, hpk, by rw [← heq, hbk]⟩)
            clear hpt hpk hbk
            subst heq
            go_wp2_with fail
            have k0 := G40.out
            have k1 := heap_setCell_same _ _ 0 _ _ (.int .i64 q0.v) k0
            have k2 := heap_setCell_same _ _ 1 _ _ (.int .i64 q1.v) k1
            have k3 := heap_setCell_same _ _ 2 _ _ (.int .i64 q2.v) k2
            have k4 := heap_setCell_same _ _ 3 _ _ (.int .i64 q3.v) k3
            have k5 := heap_setCell_same _ _ 4 _ _ (.slice ua l.length uc) k4
            have k6 := heap_setCell_same _ _ 5 _ _ (.slice oa ps.length oc) k5
            have hkeep : ∀ k, w.heap.size < k → ((((((w40.setCell ⟨w.heap.size, 0, none⟩ (.int .i64 q0.v)).setCell ⟨w.heap.size, 1, none⟩ (.int .i64 q1.v)).setCell ⟨w.heap.size, 2, none⟩ (.int .i64 q2.v)).setCell ⟨w.heap.size, 3, none⟩ (.int .i64 q3.v)).setCell ⟨w.heap.size, 4, none⟩ (.slice ua l.length uc)).setCell ⟨w.heap.size, 5, none⟩ (.slice oa ps.length oc)).heap[k]? = w40.heap[k]? := fun k hk => by
              rw [heap_setCell_other _ ⟨w.heap.size, 5, none⟩ _ _ (by show k ≠ w.heap.size; omega), heap_setCell_other _ ⟨w.heap.size, 4, none⟩ _ _ (by show k ≠ w.heap.size; omega), heap_setCell_other _ ⟨w.heap.size, 3, none⟩ _ _ (by show k ≠ w.heap.size; omega), heap_setCell_other _ ⟨w.heap.size, 2, none⟩ _ _ (by show k ≠ w.heap.size; omega), heap_setCell_other _ ⟨w.heap.size, 1, none⟩ _ _ (by show k ≠ w.heap.size; omega), heap_setCell_other _ ⟨w.heap.size, 0, none⟩ _ _ (by show k ≠ w.heap.size; omega)]
            have hsize : ((((((w40.setCell ⟨w.heap.size, 0, none⟩ (.int .i64 q0.v)).setCell ⟨w.heap.size, 1, none⟩ (.int .i64 q1.v)).setCell ⟨w.heap.size, 2, none⟩ (.int .i64 q2.v)).setCell ⟨w.heap.size, 3, none⟩ (.int .i64 q3.v)).setCell ⟨w.heap.size, 4, none⟩ (.slice ua l.length uc)).setCell ⟨w.heap.size, 5, none⟩ (.slice oa ps.length oc)).heap.size = w40.heap.size := by simp
            (try simp only [Exit.inBlock, Exit.then])
            refine bodyPost_ret (results_cell_row_tmp rfl _ _ w.heap.size 27 #[.int .i64 q0.v, .int .i64 q1.v, .int .i64 q2.v, .int .i64 q3.v, .slice ua l.length uc, .slice oa ps.length oc] (0, 0) _ rfl k6 Tryz.underlying27 rfl (by kernel_rfl)) rfl ?_
            clear k0 k1 k2 k3 k4 k5 k6
            refine ⟨(⟨q0.v, q1.v, q2.v, q3.v, l⟩ : PkD), _, _, ps, m, true, rfl, HR.out, ((OW41.out.keep (fun k h1 _ _ => hkeep k (by omega))).wide (by omega) (by rw [hsize]; omega)), ?_⟩
            repeat (refine Below.setCell ?_ (by show w.heap.size ≤ w.heap.size; omega) _)
            exact HB40.out
        · have HR := hide (HZ.out (fun h => by obtain ⟨a1, a2, a3, a4, a5⟩ := HX.out h; rw [a1, a2] at hbk; exact heq (hbk.trans a5.symm)))
          have hq1 := neq_lists heq
          have hq2 := neq_lists (fun k : T = bk => heq k.symm)
          clear hpt hpk hbk
          cases b2 with
          | true =>
            go_wp2_with fail
            have k0 := G40.out
            have k1 := heap_setCell_same _ _ 0 _ _ (.int .i64 0) k0
            have k2 := heap_setCell_same _ _ 1 _ _ (.int .i64 0) k1
            have k3 := heap_setCell_same _ _ 2 _ _ (.int .i64 0) k2
            have k4 := heap_setCell_same _ _ 3 _ _ (.int .i64 0) k3
            have k5 := heap_setCell_same _ _ 4 _ _ (.slice none 0 0) k4
            have k6 := heap_setCell_same _ _ 5 _ _ (.slice none 0 0) k5
            (try simp only [Exit.inBlock, Exit.then])
            refine bodyPost_ret (results_cell_row_tmp rfl _ _ w.heap.size 27 #[.int .i64 0, .int .i64 0, .int .i64 0, .int .i64 0, .slice none 0 0, .slice none 0 0] (0, 0) _ rfl k6 Tryz.underlying27 rfl (by kernel_rfl)) rfl ?_
            clear k0 k1 k2 k3 k4 k5 k6
            refine ⟨zeroPk, .slice none 0 0, .slice none 0 0, [], w.heap.size, false, rfl, HR.out, pk_zero _ _ ?_, ?_⟩
            · simp; omega
            · repeat (refine Below.setCell ?_ (by show w.heap.size ≤ w.heap.size; omega) _)
              exact HB40.out
          | false =>
            go_wp2_with fail
            have k0 := G40.out
            have k1 := heap_setCell_same _ _ 0 _ _ (.int .i64 0) k0
            have k2 := heap_setCell_same _ _ 1 _ _ (.int .i64 0) k1
            have k3 := heap_setCell_same _ _ 2 _ _ (.int .i64 0) k2
            have k4 := heap_setCell_same _ _ 3 _ _ (.int .i64 0) k3
            have k5 := heap_setCell_same _ _ 4 _ _ (.slice none 0 0) k4
            have k6 := heap_setCell_same _ _ 5 _ _ (.slice none 0 0) k5
            (try simp only [Exit.inBlock, Exit.then])
            refine bodyPost_ret (results_cell_row_tmp rfl _ _ w.heap.size 27 #[.int .i64 0, .int .i64 0, .int .i64 0, .int .i64 0, .slice none 0 0, .slice none 0 0] (0, 0) _ rfl k6 Tryz.underlying27 rfl (by kernel_rfl)) rfl ?_
            clear k0 k1 k2 k3 k4 k5 k6
            refine ⟨zeroPk, .slice none 0 0, .slice none 0 0, [], w.heap.size, false, rfl, HR.out, pk_zero _ _ ?_, ?_⟩
            · simp; omega
            · repeat (refine Below.setCell ?_ (by show w.heap.size ≤ w.heap.size; omega) _)
              exact HB40.out
    go_wp2
    go_loopw [10] (fun i wr => ∃ (k : Nat) (ps : List RP) (p2 : Nat) (b2 : Bool) (u2 : Value), k ≤ 200 ∧ i = .int .i64 (k : Int) ∧ ps.length = k ∧ p2 ≤ s.size ∧ RpSt w wr z q s p2 b2 #[.int .i64 q0.v, .int .i64 q1.v, .int .i64 q2.v, .int .i64 q3.v, .slice ua l.length uc, u2] ∧ IntsOwn wr (q + 1) m (.slice ua l.length uc) l ∧ RecsOwn wr m wr.heap.size u2 ps ∧ tot ps ≤ 7 * k ∧ m ≤ wr.heap.size ∧ Hid (A → k ≤ xs.length ∧ fsts ps = xs.take k ∧ p2 = rpR x xs k ∧ b2 = false)) (fun i _ => 201 - (intOf i).toNat)
    case atStart => exact ⟨0, [], q5.p, q5.b, _, by omega, rfl, rfl, hq5, S21.out, HI21.out, recs_none _ _ _, by simp [tot], HM.out, hide (fun h => ⟨by omega, by simp [fsts], by rw [HW5.out h]; simp [rpR, shortsL], by rw [HW5.out h]⟩)⟩
    case round =>
      clear S21 HI21
      obtain ⟨k, ps, p2, b2, u2, hk, rfl, hpl, hp2, hst, hi, hr, htt, hmw, HAL⟩ := hrel
      subst hpl
      obtain ⟨oa, oc, rfl⟩ := owns_lenS hr.row
      have c2 := cells_at hst.rd 2
      simp at c2
      have S := hide hst
      have HI := hide hi
      have OR := hide hr
      clear hst hi hr
      by_cases h1 : (ps.length : Int) < (mm : Int)
      · by_cases h2 : (ps.length : Int) < 200
        · cases b2 with
          | false =>
            go_wp2_with fail
            refine (CN.out z p2 false _ hp2 S.out.rd).mono ?_
            rintro e w31 ⟨rfl, hrd, hg⟩
            obtain ⟨nn2, hn2, hnb⟩ := varR_nat (b := false) hp2
            have hq6 := varR_le (b := false) hp2
            have HWK := hide (show A → (ps.length + 1 ≤ xs.length ∧ fsts ps ++ [readD (takeB s (varR s p2 false).p (varR s p2 false).b (varR s p2 false).v.toNat)] = xs.take (ps.length + 1) ∧ takeP s (varR s p2 false).p (varR s p2 false).b (varR s p2 false).v.toNat = rpR x xs (ps.length + 1) ∧ takeO s (varR s p2 false).p (varR s p2 false).b (varR s p2 false).v.toNat = false) from fun h => by
              obtain ⟨a1, a2, a3, a4⟩ := HAL.out h
              have a5 := HMM.out h
              have a6 : ps.length < xs.length := by omega
              obtain ⟨c1, c2, c3, c4, c5⟩ := (HAW.out h).1.le ps.length _ (List.getElem?_eq_getElem a6)
              rw [a3, c1]
              simp only [Int.toNat_natCast]
              refine ⟨by omega, ?_, c4, c2⟩
              rw [c3, c5, List.take_succ_eq_append_getElem a6, ← a2])
            generalize varR s p2 false = q6 at hrd hn2 hq6 HWK ⊢
            obtain ⟨v6, p6, b6⟩ := q6
            simp only [] at hrd hn2 hq6 HWK ⊢
            subst hn2
            rw [Int.toNat_natCast] at HWK
            have hs31 := hg.size
            have S31 := hide (S.out.read hg hrd)
            have HI31 := hide (HI.out.keep (W' := w31) (fun k a b c => hg.block k c (by simp; omega)))
            have OR31 := hide ((OR.out.grownP hg (by omega)).wide (Nat.le_refl _) hs31)
            clear hg hrd S HI OR c2 HAL
            go_wp2_with fail
            refine (takeS_any z p6 nn2 s b6 _ hs hq6 hnb S31.out.rd).mono ?_
            rintro e w32 ⟨rfl, hrd, hg⟩
            have hq7 := takeP_le (n := nn2) (b := b6) hq6
            have htz := takeB_size s p6 b6 nn2
            generalize takeB s p6 b6 nn2 = t at HWK htz ⊢
            generalize takeP s p6 b6 nn2 = p7 at HWK hq7 hrd
            generalize takeO s p6 b6 nn2 = b7 at HWK hrd
            have hs32 := hg.size
            have S32 := hide (S31.out.read hg hrd)
            have HI32 := hide (HI31.out.keep (W' := w32) (fun k a b c => hg.block k c (by simp; omega)))
            have OR32 := hide ((OR31.out.grownP hg (by omega)).wide (Nat.le_refl _) hs32)
            clear hg hrd S31 HI31 OR31
            go_wp2_with fail
            refine (sreadR_any t _ (by omega)).mono ?_
            rintro e w33 ⟨v, rfl, ho, b33⟩
            have hnr := readD_near t
            generalize readD t = xr at HWK ho hnr ⊢
            obtain ⟨na, nc, rfl⟩ := owns_lenS ho
            have hs33 := b33.size
            have S33 := S32.out.later b33
            have HI33 := HI32.out.below b33 (by omega)
            have OR33 := OR32.out.below b33 (Nat.le_refl _)
            have HN33 : NearOwn w33 w32.heap.size w33.heap.size (xr, .slice na xr.near.length nc) := ⟨ho, fun k hk => (ho.lt k hk).2⟩
            have BA : Below w33.heap.size w33 (w33.alloc (.cells #[.int .i64 xr.area, .int .i64 xr.kind, .int .i64 xr.owner, .int .i64 xr.key, .int .i64 xr.seq, .slice na xr.near.length nc, .int .i64 xr.cost, .bool xr.far] 51)) := (Below.refl _ _).alloc (Nat.le_refl _) _
            have S34 := hide (S33.later BA)
            have HI34 := hide (HI33.below BA (by omega))
            have OR34 := hide (OR33.below BA hs33)
            have HN34 := hide (HN33.keep (W' := w33.alloc (.cells #[.int .i64 xr.area, .int .i64 xr.kind, .int .i64 xr.owner, .int .i64 xr.key, .int .i64 xr.seq, .slice na xr.near.length nc, .int .i64 xr.cost, .bool xr.far] 51)) (fun k a b c => BA.block k (by omega)))
            have GR := hide (heap_alloc_new w33 (.cells #[.int .i64 xr.area, .int .i64 xr.kind, .int .i64 xr.owner, .int .i64 xr.key, .int .i64 xr.seq, .slice na xr.near.length nc, .int .i64 xr.cost, .bool xr.far] 51))
            have hs34 : w33.heap.size ≤ (w33.alloc (.cells #[.int .i64 xr.area, .int .i64 xr.kind, .int .i64 xr.owner, .int .i64 xr.key, .int .i64 xr.seq, .slice na xr.near.length nc, .int .i64 xr.cost, .bool xr.far] 51)).heap.size := BA.size
            clear ho b33 S32 HI32 OR32 S33 HI33 OR33 HN33 BA
            simp only [recC]
            go_upto_region 18 with fail
            obtain ⟨zr, hzr⟩ : ∃ z, z = w33.heap.size := ⟨_, rfl⟩
            obtain ⟨w34, hw34⟩ : ∃ W, W = w33.alloc (.cells #[.int .i64 xr.area, .int .i64 xr.kind, .int .i64 xr.owner, .int .i64 xr.key, .int .i64 xr.seq, .slice na xr.near.length nc, .int .i64 xr.cost, .bool xr.far] 51) := ⟨_, rfl⟩
            rw [← hw34] at S34 HI34 OR34 HN34 GR hs34 ⊢
            rw [← hzr] at GR ⊢
            clear hw34 hzr
            have y5 := cells_at S34.out.box 5
            have rc0 := cells_at GR.out 0
            have rc1 := cells_at GR.out 1
            have rc2 := cells_at GR.out 2
            have rc3 := cells_at GR.out 3
            have rc4 := cells_at GR.out 4
            have rc5 := cells_at GR.out 5
            have rc6 := cells_at GR.out 6
            have rc7 := cells_at GR.out 7
            simp at y5 rc0 rc1 rc2 rc3 rc4 rc5 rc6 rc7
            have hbs : m ≤ (w34.alloc (.cells (encP (xr, .slice na xr.near.length nc)).toArray 51)).heap.size := by simp; omega
            have HBS := hide hbs
            have hp1 : ps.length + 1 ≤ 1000000000 := by omega
            have HP1 := hide hp1
            clear hbs hp1
            go_wp2_with (first
              | (at_builtin; refine append_struct5 encP_len (by omega) (by omega) _ rfl _ _ 25 rfl m 51 Tryz.underlying25 (.agg (recC zeroRD (.slice none 0 0))) rfl Tryz.infoRec _ ps (xr, .slice na xr.near.length nc) (encP_one _ _ _ _) rfl (OR34.out.row.alloc _) ⟨w34.heap.size, 0, none⟩ 1 rfl (news_struct (cs := encP (xr, .slice na xr.near.length nc))) HP1.out HBS.out ?_))
            intro v' w36 ho36 hg36
            clear y5 rc0 rc1 rc2 rc3 rc4 rc5 rc6 rc7
            have hrow : ∀ k, (Value.slice oa ps.length oc).ownBlock = some k → m ≤ k := fun k e => (OR34.out.row.lt k e).1
            have h4 := (OR34.out.keep (W' := w34.alloc (.cells (encP (xr, .slice na xr.near.length nc)).toArray 51)) (fun j _ _ h3 => Below.heap_alloc _ _ _ h3))
            have ow5 := h4.push2 (p := (xr, .slice na xr.near.length nc)) (by simp; omega) (by omega) ((HN34.out.keep (fun j _ _ h3 => Below.heap_alloc _ _ _ h3)).wide (Nat.le_refl _) (by simp; omega)) ho36 hg36
            have S36 := (S34.out.alloc (.cells (encP (xr, .slice na xr.near.length nc)).toArray 51)).row hg36 (fun k e => by have := hrow k e; omega)
            have HI36 := HI34.out.keep (W' := w36) (fun k a b c => (hg36.block k (by simp; omega) (fun e => by have := hrow k e.symm; omega)).trans (Below.heap_alloc _ _ _ c))
            obtain ⟨va, vc, rfl⟩ := owns_lenS ho36
            have y5 := cells_at S36.box 5
            have fy := frozen_at S36.box 5
            simp at y5
            have hs36 := hg36.size
            simp at hs36
            have S37 := hide (S36.set 5 (.slice va (ps ++ [(xr, Value.slice na xr.near.length nc)]).length vc))
            have HI37 := hide (HI36.keep (W' := w36.setCell ⟨q, 5, none⟩ (.slice va (ps ++ [(xr, Value.slice na xr.near.length nc)]).length vc)) (fun k a b c => heap_setCell_other _ ⟨q, 5, none⟩ _ _ (by show k ≠ q; omega)))
            have OR37 := hide ((ow5.keep (W' := w36.setCell ⟨q, 5, none⟩ (.slice va (ps ++ [(xr, Value.slice na xr.near.length nc)]).length vc)) (fun k a b c => heap_setCell_other _ ⟨q, 5, none⟩ _ _ (by show k ≠ q; omega))).wide (hi' := (w36.setCell ⟨q, 5, none⟩ (.slice va (ps ++ [(xr, Value.slice na xr.near.length nc)]).length vc)).heap.size) (Nat.le_refl _) (by simp))
            have htt2 : tot (ps ++ [(xr, Value.slice na xr.near.length nc)]) ≤ 7 * (ps.length + 1) := by
              have e1 : tot [(xr, Value.slice na xr.near.length nc)] = 1 + xr.near.length := by simp [tot]
              rw [tot_append, e1]
              omega
            have hfs : fsts (ps ++ [(xr, Value.slice na xr.near.length nc)]) = fsts ps ++ [xr] := by simp [fsts]
            have HFS := hide hfs
            clear ho36 hg36 h4 ow5 S36 HI36 S34 HI34 OR34 HN34 GR hfs hrow
            go_wp2
            obtain ⟨w37, hw37⟩ : ∃ W, W = w36.setCell ⟨q, 5, none⟩ (.slice va (ps.length + 1) vc) := ⟨_, rfl⟩
            simp only [List.length_append, List.length_cons, List.length_nil, Nat.zero_add] at S37 HI37 OR37
            rw [← hw37] at S37 HI37 OR37
            first
              | rw [← hw37]
              | skip
            have hmw2 : m ≤ w37.heap.size := by rw [hw37]; simp; omega
            clear hw37 y5 fy
            go_roundw
            case rel => exact ⟨ps.length + 1, ps ++ [(xr, Value.slice na xr.near.length nc)], p7, b7, _, by omega, by go_num, by simp, hq7, S37.out, HI37.out, OR37.out, htt2, hmw2, hide (fun h => by rw [HFS.out]; exact HWK.out h)⟩
            case measure => simp [intOf]; omega
          | true =>
            go_wp2_with fail
            go_meet
            case rel => exact ⟨ps, p2, true, _, by omega, S.out, HI.out, OR.out, by omega, hmw, hide (fun h => by have := (HAL.out h).2.2.2; cases this)⟩
        · go_wp2_with fail
          go_meet
          case rel => exact ⟨ps, p2, b2, _, by omega, S.out, HI.out, OR.out, by omega, hmw, hide (fun h => by have h3 := (HAL.out h).1; have h4 := (HAW.out h).1.list; omega)⟩
      · go_wp2_with fail
        go_meet
        case rel => exact ⟨ps, p2, b2, _, by omega, S.out, HI.out, OR.out, by omega, hmw, hide (fun h => by
          obtain ⟨a1, a2, a3, a4⟩ := HAL.out h
          have a5 := HMM.out h
          rw [show ps.length = xs.length by omega, List.take_length] at a2
          exact ⟨a2, a4⟩)⟩
  go_wp2
  go_loopw [9] (fun i wr => ∃ (k : Nat) (l : List Int) (p : Nat) (b : Bool) (u : Value), k ≤ 50 ∧ i = .int .i64 (k : Int) ∧ l.length = k ∧ p ≤ s.size ∧ RpSt w wr z q s p b #[.int .i64 q0.v, .int .i64 q1.v, .int .i64 q2.v, .int .i64 q3.v, u, .slice none 0 0] ∧ wr.ownsRow (q + 1) 3 1 u k (flat intE l) ∧ Hid (A → k ≤ x.heard.length ∧ l = x.heard.take k ∧ p = rpP x + k ∧ b = false)) (fun i _ => 51 - (intOf i).toNat)
  case atStart => exact ⟨0, [], q4.p, q4.b, _, by omega, rfl, rfl, hq4, S11.out, World.ownsRow_nil _ _ _ _, hide (fun h => ⟨by omega, by simp, by rw [HW4.out h]; rfl, by rw [HW4.out h]⟩)⟩
  case round =>
    clear S11
    obtain ⟨k, l, p, b, u, hk, rfl, hll, hp, hst, hown, HAL⟩ := hrel
    subst hll
    obtain ⟨ua, uc, rfl⟩ := owns_lenS hown
    have c2 := cells_at hst.rd 2
    simp at c2
    have S := hide hst
    have OW := hide hown
    clear hst hown
    by_cases h1 : (l.length : Int) < (nn : Int)
    · by_cases h2 : (l.length : Int) < 50
      · cases b with
        | false =>
          have hzl := lt_of_heap S.out.rd
          have hql := lt_of_heap S.out.box
          have hzq := S.out.o2
          have hp2 := oneR_le9 (b := false) hp
          have HWK := hide (show A → (l.length + 1 ≤ x.heard.length ∧ l ++ [(oneR s p false).v] = x.heard.take (l.length + 1) ∧ (oneR s p false).p = rpP x + (l.length + 1) ∧ (oneR s p false).b = false) from fun h => by
            obtain ⟨a1, a2, a3, a4⟩ := HAL.out h
            have a5 := HNN.out h
            have a6 : l.length < x.heard.length := by omega
            have a7 := (HAW.out h).1.he l.length _ (List.getElem?_eq_getElem a6)
            rw [a3, a7]
            refine ⟨by omega, ?_, rfl, rfl⟩
            rw [List.take_succ_eq_append_getElem a6, ← a2])
          have HC1 := hide (fun W h => CO.out z p false W hp h)
          generalize oneR s p false = r1 at HC1 hp2 HWK
          have HUZ := hide (show (Value.slice ua l.length uc).ownBlock ≠ some z from fun e => by have := (OW.out.lt z e).1; omega)
          have HUQ := hide (show (Value.slice ua l.length uc).ownBlock ≠ some q from fun e => by have := (OW.out.lt q e).1; omega)
          clear HAL
          go_wp2
          clear c2
          refine wp_region_noPanic ?_
          refine wp_region_start (S := fun _ => True) (by kernel_rfl) 8 rfl trivial (fun ops hops _ => ?_)
          refine take_do 0 (oi := ?_) (v := ?_) ?_ (by rw [hops.out]; kernel_rfl) ?_ ?_ ?_ trivial ?_
          rotate_left 2
          · rw [hops.out]; simp only [List.getElem?_toArray, List.getElem?_cons_succ, List.getElem?_cons_zero]; rfl
          · rw [hops.out]; kernel_rfl
          · intro W hW; (try dsimp only at hW); go_simp <;> with_reducible rfl
          · exact fun _ _ _ h => h
          try simp only [Act.put, List.setIfInBounds_toArray, List.set_cons_zero, List.set_cons_succ]
          refine take_do 2 (oi := ?_) (v := ?_) ?_ (by rw [hops.out]; kernel_rfl) ?_ ?_ ?_ trivial ?_
          rotate_left 2
          · rw [hops.out]; simp only [List.getElem?_toArray, List.getElem?_cons_succ, List.getElem?_cons_zero]; rfl
          · rw [hops.out]; kernel_rfl
          · intro W hW; (try dsimp only at hW); go_simp <;> with_reducible rfl
          · exact fun _ _ _ h => h
          try simp only [Act.put, List.setIfInBounds_toArray, List.set_cons_zero, List.set_cons_succ]
          refine rp_dag z q (q + 1) _ _ _ _ _ l ua uc s p r1.p r1.b r1.v wr.drew _ ops hops hzl hql hzq S.out.rd (by omega) (show q + 1 ≤ wr.heap.size by omega) HC1.out S.out.box (owns_keepB OW.out (fun _ _ => rfl)) HUZ.out HUQ.out ?_
          intro W7 w8 g1 va vc h67 c7 h78 o8 b8 c8
          clear hops ops
          have S8 := hide (((S.out.drew.read h67 c7).row h78 (fun k e => by have := (OW.out.lt k e).1; omega)).set 4 (.slice va (l.length + 1) vc))
          have O9 := hide (owns_set (p := q) (j := 4) (u := .slice va (l.length + 1) vc) o8 (by omega))
          obtain ⟨w9, hw9⟩ : ∃ W, W = w8.setCell ⟨q, 4, none⟩ (.slice va (l.length + 1) vc) := ⟨_, rfl⟩
          rw [← hw9] at S8 O9 ⊢
          clear hw9 h67 c7 h78 o8 b8 c8 OW S HC1 HUZ HUQ
          go_wp2
          go_roundw
          case rel => exact ⟨l.length + 1, l ++ [r1.v], r1.p, r1.b, _, by omega, by go_num, by simp, hp2, S8.out, O9.out, HWK⟩
          case measure => simp [intOf]; omega
        | true =>
          go_wp2_with fail
          go_meet
          case rel => exact ⟨l, p, true, _, by omega, hp, S.out, OW.out, hide (fun h => by have := (HAL.out h).2.2.2; cases this)⟩
      · go_wp2_with fail
        go_meet
        case rel => exact ⟨l, p, b, _, by omega, hp, S.out, OW.out, hide (fun h => by have h3 := (HAL.out h).1; have h4 := (HAW.out h).1.few; omega)⟩
    · go_wp2_with fail
      go_meet
      case rel => exact ⟨l, p, b, _, by omega, hp, S.out, OW.out, hide (fun h => by
        obtain ⟨a1, a2, a3, a4⟩ := HAL.out h
        have a5 := HNN.out h
        have a6 : l.length = x.heard.length := by omega
        rw [a6, List.take_length] at a2
        exact ⟨a2, by rw [a3, a6], a4⟩)⟩
end Go.Proofs.YtchmmekhfcojgaaGreatDoor
