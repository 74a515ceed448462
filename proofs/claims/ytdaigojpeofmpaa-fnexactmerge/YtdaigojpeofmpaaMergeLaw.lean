/-
  laws.FnExactMerge: its walk.
-/
import Derived.Test.YtdaigojpeofmpaaMergeI
import Derived.Test.YtdaigojpeofmpaaLaw5K
namespace Go.Proofs.Ytdaigojpeofmpaa
open Go.RowKit

theorem tot_mergeL (ps ts : List RP) : tot (mergeL ps ts) ≤ tot ps + tot ts := by
  unfold mergeL
  split
  · exact tot_fold ps ts
  · omega

set_option maxRecDepth 100000 in
set_option maxHeartbeats 4000000 in
theorem fnExactMerge_walk (v0 : Value) (ps0 : List RP) (v1 : Value) (ps1 : List RP) (w : World) (hx0 : RecsAt w v0 ps0 w.heap.size ∧ ps0.length ≤ maxLen ∧ ∀ p ∈ ps0, p.1.near.length ≤ maxLen) (hx1 : RecsAt w v1 ps1 w.heap.size ∧ ps1.length ≤ maxLen ∧ ∀ p ∈ ps1, p.1.near.length ≤ maxLen) :
    Calls Try.prog 4 #[v0, v1] w fun e w' => e = .returned (.bool true) ∧ Below w.heap.size w w' := by
  obtain ⟨hx0, hl0, hm0⟩ := hx0
  obtain ⟨xa0, xc0, rfl⟩ := hx0.shape
  have HX0 := hide hx0
  clear hx0
  obtain ⟨hx1, hl1, hm1⟩ := hx1
  obtain ⟨xa1, xc1, rfl⟩ := hx1.shape
  have HX1 := hide hx1
  clear hx1
  have HS0 := hide (fun W q => szRecordS_any (.slice xa0 ps0.length xc0) ps0 q W hl0 hm0)
  have HS1 := hide (fun W q => szRecordS_any (.slice xa1 ps1.length xc1) ps1 q W hl1 hm1)
  clear hm0 hl0 hm1 hl1
  have BW0 : Below w.heap.size w w := Below.refl _ _
  go_enter Try.func4, Try.ntmps4
  go_wp2_with fail
  refine (HS0.out _ 1048576 (by omega) (by omega) ((HX0.out.later BW0 (Nat.le_refl _)).more BW0.size)).mono ?_
  rintro e w1 ⟨z0, rfl, hz0, b1⟩
  have hs1 := b1.size
  have BW1 : Below w.heap.size w w1 := b1
  clear b1
  rcases hz0 with hz0 | ⟨hz0, hy0⟩
  · go_wp2
    go_ret
    exact ⟨rfl, BW1⟩
  have HY0 := hide hy0
  have hzu0 : z0 ≤ 1048576 := by omega
  clear hy0
  go_wp2_with fail
  refine (HS1.out _ z0 (by omega) (by omega) ((HX1.out.later BW1 (Nat.le_refl _)).more BW1.size)).mono ?_
  rintro e w2 ⟨z1, rfl, hz1, b2⟩
  have hs2 := b2.size
  have BW2 : Below w.heap.size w w2 := BW1.trans (b2.mono BW1.size)
  clear b2 BW1
  rcases hz1 with hz1 | ⟨hz1, hy1⟩
  · go_wp2
    go_ret
    exact ⟨rfl, BW2⟩
  have HY1 := hide hy1
  have hzu1 : z1 ≤ 1048576 := by omega
  clear hy1
  have hT0 : tot ps0 ≤ 1048576 := by have := HY0.out; have := HY1.out; omega
  have hT1 : tot ps1 ≤ 1048576 := by have := HY0.out; have := HY1.out; omega
  have hTT : tot ps0 + tot ps1 ≤ 1048576 := by have := HY0.out; have := HY1.out; omega
  have hTR : totD (mergeD (fsts ps0) (fsts ps1)) ≤ 1048576 := by rw [← mergeL_fsts, ← tot_D]; exact Nat.le_trans (tot_mergeL _ _) hTT
  have HTO0 := hide (fun W hb => toRecS_own (.slice xa0 ps0.length xc0) ps0 w W HX0.out hb hT0)
  have HTO1 := hide (fun W hb => toRecS_own (.slice xa1 ps1.length xc1) ps1 w W HX1.out hb hT1)
  have HSP := hide (fun v qs lo hi (hf : fsts qs = fsts ps0) u rs l2 h2 (hg : fsts rs = fsts ps1) W hv hh hu hk => by have h := smerge_any v u qs rs W.heap.size W (RecsIn.wide (RecsOwn.in (lo := lo) (hi := hi) hv) hh) (RecsIn.wide (RecsOwn.in (lo := l2) (hi := h2) hu) hk) (Nat.le_refl _) (by rw [tot_eq hf, tot_eq hg]; exact hTT); rw [mergeL_fsts, hf, hg] at h; exact h)
  have HIM := hide (fun v qs lo hi (hf : fsts qs = fsts ps0) u rs l2 h2 (hg : fsts rs = fsts ps1) W hv hh hu hk => by have h := imerge_any v u qs rs W.heap.size W (RecsIn.wide (RecsOwn.in (lo := lo) (hi := hi) hv) hh) (RecsIn.wide (RecsOwn.in (lo := l2) (hi := h2) hu) hk) (Nat.le_refl _) (by rw [tot_eq hf, tot_eq hg]; exact hTT); rw [hf, hg] at h; exact h)
  clear HX0 HS0 HX1 HS1
  go_wp2_with fail
  refine (HTO0.out _ BW2).mono ?_
  rintro e w3 ⟨vA0, qA0, rfl, fA0, oA0, b3⟩
  obtain ⟨aA0, cA0, rfl⟩ := owns_lenS oA0.row
  have hs3 := b3.size
  have BW3 : Below w.heap.size w w3 := BW2.trans (b3.mono BW2.size)
  clear b3 BW2
  have KA03 := hide oA0
  have TA0 : tot qA0 ≤ 1048576 := by rw [tot_eq fA0]; exact hT0
  have FA0 := hide fA0
  clear oA0 fA0
  go_wp2_with fail
  refine (HTO1.out _ BW3).mono ?_
  rintro e w4 ⟨vA1, qA1, rfl, fA1, oA1, b4⟩
  obtain ⟨aA1, cA1, rfl⟩ := owns_lenS oA1.row
  have hs4 := b4.size
  have BW4 : Below w.heap.size w w4 := BW3.trans (b4.mono BW3.size)
  have KA04 := hide (KA03.out.below b4 (by omega))
  clear b4 BW3 KA03
  have KA14 := hide oA1
  have TA1 : tot qA1 ≤ 1048576 := by rw [tot_eq fA1]; exact hT1
  have FA1 := hide fA1
  clear oA1 fA1
  go_wp2_with fail
  refine (HSP.out _ _ _ _ FA0.out _ _ _ _ FA1.out _ KA04.out (by omega) KA14.out (by omega)).mono ?_
  rintro e w5 ⟨vW, qW, rfl, fW, oW, b5⟩
  obtain ⟨aW, cW, rfl⟩ := owns_lenS oW.row
  have hs5 := b5.size
  have BW5 : Below w.heap.size w w5 := BW4.trans (b5.mono BW4.size)
  have KA05 := hide (KA04.out.below b5 (by omega))
  have KA15 := hide (KA14.out.below b5 (by omega))
  clear b5 BW4 KA04 KA14
  have KW5 := hide oW
  have TW : tot qW ≤ 1048576 := by rw [tot_D, fW]; exact hTR
  have FW := hide fW
  clear oW fW
  clear KA05
  clear KA15
  go_wp2_with fail
  refine (HTO0.out _ BW5).mono ?_
  rintro e w6 ⟨vX0, qX0, rfl, fX0, oX0, b6⟩
  obtain ⟨aX0, cX0, rfl⟩ := owns_lenS oX0.row
  have hs6 := b6.size
  have BW6 : Below w.heap.size w w6 := BW5.trans (b6.mono BW5.size)
  have KW6 := hide (KW5.out.below b6 (by omega))
  clear b6 BW5 KW5
  have KX06 := hide oX0
  have TX0 : tot qX0 ≤ 1048576 := by rw [tot_eq fX0]; exact hT0
  have FX0 := hide fX0
  clear oX0 fX0
  go_wp2_with fail
  refine (HTO1.out _ BW6).mono ?_
  rintro e w7 ⟨vX1, qX1, rfl, fX1, oX1, b7⟩
  obtain ⟨aX1, cX1, rfl⟩ := owns_lenS oX1.row
  have hs7 := b7.size
  have BW7 : Below w.heap.size w w7 := BW6.trans (b7.mono BW6.size)
  have KW7 := hide (KW6.out.below b7 (by omega))
  have KX07 := hide (KX06.out.below b7 (by omega))
  clear b7 BW6 KW6 KX06
  have KX17 := hide oX1
  have TX1 : tot qX1 ≤ 1048576 := by rw [tot_eq fX1]; exact hT1
  have FX1 := hide fX1
  clear oX1 fX1
  go_wp2_with fail
  refine (HIM.out _ _ _ _ FX0.out _ _ _ _ FX1.out _ KX07.out (by omega) KX17.out (by omega)).mono ?_
  rintro e w8 ⟨vG, qG, rfl, fG, oG, b8⟩
  obtain ⟨aG, cG, rfl⟩ := owns_lenS oG.row
  have hs8 := b8.size
  have BW8 : Below w.heap.size w w8 := BW7.trans (b8.mono BW7.size)
  have KW8 := hide (KW7.out.below b8 (by omega))
  have KX08 := hide (KX07.out.below b8 (by omega))
  have KX18 := hide (KX17.out.below b8 (by omega))
  clear b8 BW7 KW7 KX07 KX17
  have KG8 := hide oG
  have TG : tot qG ≤ 1048576 := by rw [tot_D, fG]; exact hTR
  have FG := hide fG
  clear oG fG
  go_wp2_with fail
  refine (eqRecS_own _ _ _ _ _ _ _ _ _ KG8.out KW8.out (FG.out.trans FW.out.symm) TG (by omega) (by omega)).mono ?_
  rintro e w9 ⟨rfl, b9⟩
  have hs9 := b9.size
  have BW9 : Below w.heap.size w w9 := BW8.trans (b9.mono BW8.size)
  have KW9 := hide (KW8.out.below b9 (by omega))
  have KX09 := hide (KX08.out.below b9 (by omega))
  have KX19 := hide (KX18.out.below b9 (by omega))
  have KG9 := hide (KG8.out.below b9 (by omega))
  clear b9 BW8 KW8 KX08 KX18 KG8
  go_wp2_with fail
  refine (HTO0.out _ BW9).mono ?_
  rintro e w10 ⟨vY0, qY0, rfl, fY0, oY0, b10⟩
  obtain ⟨aY0, cY0, rfl⟩ := owns_lenS oY0.row
  have hs10 := b10.size
  have BW10 : Below w.heap.size w w10 := BW9.trans (b10.mono BW9.size)
  have KW10 := hide (KW9.out.below b10 (by omega))
  have KX010 := hide (KX09.out.below b10 (by omega))
  have KX110 := hide (KX19.out.below b10 (by omega))
  have KG10 := hide (KG9.out.below b10 (by omega))
  clear b10 BW9 KW9 KX09 KX19 KG9
  have KY010 := hide oY0
  have TY0 : tot qY0 ≤ 1048576 := by rw [tot_eq fY0]; exact hT0
  have FY0 := hide fY0
  clear oY0 fY0
  go_wp2_with fail
  refine (eqRecS_own _ _ _ _ _ _ _ _ _ KX010.out KY010.out (FX0.out.trans FY0.out.symm) TX0 (by omega) (by omega)).mono ?_
  rintro e w11 ⟨rfl, b11⟩
  have hs11 := b11.size
  have BW11 : Below w.heap.size w w11 := BW10.trans (b11.mono BW10.size)
  have KW11 := hide (KW10.out.below b11 (by omega))
  have KX011 := hide (KX010.out.below b11 (by omega))
  have KX111 := hide (KX110.out.below b11 (by omega))
  have KG11 := hide (KG10.out.below b11 (by omega))
  have KY011 := hide (KY010.out.below b11 (by omega))
  clear b11 BW10 KW10 KX010 KX110 KG10 KY010
  clear KY011
  go_wp2_with fail
  refine (HTO1.out _ BW11).mono ?_
  rintro e w12 ⟨vY1, qY1, rfl, fY1, oY1, b12⟩
  obtain ⟨aY1, cY1, rfl⟩ := owns_lenS oY1.row
  have hs12 := b12.size
  have BW12 : Below w.heap.size w w12 := BW11.trans (b12.mono BW11.size)
  have KW12 := hide (KW11.out.below b12 (by omega))
  have KX012 := hide (KX011.out.below b12 (by omega))
  have KX112 := hide (KX111.out.below b12 (by omega))
  have KG12 := hide (KG11.out.below b12 (by omega))
  clear b12 BW11 KW11 KX011 KX111 KG11
  have KY112 := hide oY1
  have TY1 : tot qY1 ≤ 1048576 := by rw [tot_eq fY1]; exact hT1
  have FY1 := hide fY1
  clear oY1 fY1
  go_wp2_with fail
  refine (eqRecS_own _ _ _ _ _ _ _ _ _ KX112.out KY112.out (FX1.out.trans FY1.out.symm) TX1 (by omega) (by omega)).mono ?_
  rintro e w13 ⟨rfl, b13⟩
  have hs13 := b13.size
  have BW13 : Below w.heap.size w w13 := BW12.trans (b13.mono BW12.size)
  have KW13 := hide (KW12.out.below b13 (by omega))
  have KX013 := hide (KX012.out.below b13 (by omega))
  have KX113 := hide (KX112.out.below b13 (by omega))
  have KG13 := hide (KG12.out.below b13 (by omega))
  have KY113 := hide (KY112.out.below b13 (by omega))
  clear b13 BW12 KW12 KX012 KX112 KG12 KY112
  clear KY113
  go_wp2_with fail
  refine (markRecordS_any _ _ _ _ 1 _ KX013.out TX0 (by omega) (by omega)).mono ?_
  rintro e w14 ⟨rfl, oX0, b14⟩
  have hs14 := b14.size
  have BW14 : Below w.heap.size w w14 := BW13.trans ((b14.below (by omega)).mono (by omega))
  have KW14 := hide (KW13.out.frame b14 (by omega))
  have KX114 := hide (KX113.out.frame b14 (by omega))
  have KG14 := hide (KG13.out.frame b14 (by omega))
  clear b14 BW13 KW13 KX113 KG13
  have KX014 := hide oX0
  clear oX0
  have hE := mkE_tot 1 qX0
  go_wp2_with fail
  refine (markRecordS_any _ _ _ _ (mkE 1 qX0) _ KX114.out TX1 (by omega) (by omega)).mono ?_
  rintro e w15 ⟨rfl, oX1, b15⟩
  have hs15 := b15.size
  have BW15 : Below w.heap.size w w15 := BW14.trans ((b15.below (by omega)).mono (by omega))
  have KW15 := hide (KW14.out.frame b15 (by omega))
  have KX015 := hide (KX014.out.frame b15 (by omega))
  have KG15 := hide (KG14.out.frame b15 (by omega))
  clear b15 BW14 KW14 KX014 KG14
  have KX115 := hide oX1
  clear oX1
  have hpos : ¬ mkE (mkE 1 qX0) qX1 < 0 := by have h1 := mkE_tot 1 qX0; have h2 := mkE_tot (mkE 1 qX0) qX1; omega
  go_wp2_with fail
  refine (eqRecS_own _ _ _ _ _ _ _ _ _ KG15.out KW15.out (FG.out.trans FW.out.symm) TG (by omega) (by omega)).mono ?_
  rintro e w16 ⟨rfl, b16⟩
  have hs16 := b16.size
  have BW16 : Below w.heap.size w w16 := BW15.trans (b16.mono BW15.size)
  have KW16 := hide (KW15.out.below b16 (by omega))
  have KX016 := hide (KX015.out.below b16 (by omega))
  have KX116 := hide (KX115.out.below b16 (by omega))
  have KG16 := hide (KG15.out.below b16 (by omega))
  clear b16 BW15 KW15 KX015 KX115 KG15
  clear KX016
  clear KX116
  go_wp2_with fail
  refine (markRecordS_any _ _ _ _ 1 _ KG16.out TG (by omega) (by omega)).mono ?_
  rintro e w17 ⟨rfl, oG, b17⟩
  have hs17 := b17.size
  have BW17 : Below w.heap.size w w17 := BW16.trans ((b17.below (by omega)).mono (by omega))
  have KW17 := hide (KW16.out.frame b17 (by omega))
  clear b17 BW16 KW16
  have KG17 := hide oG
  clear oG
  have hposG := mkE_pos qG
  go_wp2_with fail
  refine (heldS_own _ _ _ _ _ KG17.out TG (by omega)).mono ?_
  rintro e w18 ⟨rfl, rfl⟩
  go_wp2_with fail
  refine (HTO0.out _ BW17).mono ?_
  rintro e w18 ⟨vB0, qB0, rfl, fB0, oB0, b18⟩
  obtain ⟨aB0, cB0, rfl⟩ := owns_lenS oB0.row
  have hs18 := b18.size
  have BW18 : Below w.heap.size w w18 := BW17.trans (b18.mono BW17.size)
  have KW18 := hide (KW17.out.below b18 (by omega))
  have KG18 := hide (KG17.out.below b18 (by omega))
  clear b18 BW17 KW17 KG17
  have KB018 := hide oB0
  have TB0 : tot qB0 ≤ 1048576 := by rw [tot_eq fB0]; exact hT0
  have FB0 := hide fB0
  clear oB0 fB0
  go_wp2_with fail
  refine (HTO1.out _ BW18).mono ?_
  rintro e w19 ⟨vB1, qB1, rfl, fB1, oB1, b19⟩
  obtain ⟨aB1, cB1, rfl⟩ := owns_lenS oB1.row
  have hs19 := b19.size
  have BW19 : Below w.heap.size w w19 := BW18.trans (b19.mono BW18.size)
  have KW19 := hide (KW18.out.below b19 (by omega))
  have KG19 := hide (KG18.out.below b19 (by omega))
  have KB019 := hide (KB018.out.below b19 (by omega))
  clear b19 BW18 KW18 KG18 KB018
  have KB119 := hide oB1
  have TB1 : tot qB1 ≤ 1048576 := by rw [tot_eq fB1]; exact hT1
  have FB1 := hide fB1
  clear oB1 fB1
  go_wp2_with fail
  refine (HIM.out _ _ _ _ FB0.out _ _ _ _ FB1.out _ KB019.out (by omega) KB119.out (by omega)).mono ?_
  rintro e w20 ⟨vH, qH, rfl, fH, oH, b20⟩
  obtain ⟨aH, cH, rfl⟩ := owns_lenS oH.row
  have hs20 := b20.size
  have BW20 : Below w.heap.size w w20 := BW19.trans (b20.mono BW19.size)
  have KW20 := hide (KW19.out.below b20 (by omega))
  have KG20 := hide (KG19.out.below b20 (by omega))
  have KB020 := hide (KB019.out.below b20 (by omega))
  have KB120 := hide (KB119.out.below b20 (by omega))
  clear b20 BW19 KW19 KG19 KB019 KB119
  have KH20 := hide oH
  have TH : tot qH ≤ 1048576 := by rw [tot_D, fH]; exact hTR
  have FH := hide fH
  clear oH fH
  go_wp2_with fail
  refine (eqRecS_own _ _ _ _ _ _ _ _ _ KH20.out KW20.out (FH.out.trans FW.out.symm) TH (by omega) (by omega)).mono ?_
  rintro e w21 ⟨rfl, b21⟩
  have hs21 := b21.size
  have BW21 : Below w.heap.size w w21 := BW20.trans (b21.mono BW20.size)
  have KW21 := hide (KW20.out.below b21 (by omega))
  have KG21 := hide (KG20.out.below b21 (by omega))
  have KB021 := hide (KB020.out.below b21 (by omega))
  have KB121 := hide (KB120.out.below b21 (by omega))
  have KH21 := hide (KH20.out.below b21 (by omega))
  clear b21 BW20 KW20 KG20 KB020 KB120 KH20
  go_wp2_with fail
  refine (heldS_own _ _ _ _ _ KG21.out TG (by omega)).mono ?_
  rintro e w22 ⟨rfl, rfl⟩
  go_wp2
  go_ret
  exact ⟨rfl, BW21⟩
end Go.Proofs.Ytdaigojpeofmpaa
