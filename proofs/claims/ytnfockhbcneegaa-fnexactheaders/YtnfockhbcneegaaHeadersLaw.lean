/-
  laws.FnExactHeaders: its walk.
-/
import Derived.Test.YtnfockhbcneegaaHeadS
import Derived.Test.YtnfockhbcneegaaLaw5K
namespace Go.Proofs.Ytnfockhbcneegaa
open Go.RowKit

theorem totD_head (xs : List RecD) : totD (xs.map headD) ≤ totD xs := by
  induction xs with
  | nil => simp [totD]
  | cons x xs ih => rw [List.map_cons, totD_cons, totD_cons]; simp only [headD, List.length_nil]; omega

set_option maxRecDepth 100000 in
set_option maxHeartbeats 4000000 in
theorem fnExactHeaders_walk (v0 : Value) (ps0 : List RP) (a1 : Int) (w : World) (hx0 : RecsAt w v0 ps0 w.heap.size ∧ ps0.length ≤ maxLen ∧ ∀ p ∈ ps0, p.1.near.length ≤ maxLen) (_ : (Lit.int .i64 a1).wf = true) :
    Calls Try.prog 5 #[v0, .int .i64 a1] w fun e w' => e = .returned (.bool true) ∧ Below w.heap.size w w' := by
  obtain ⟨hx0, hl0, hm0⟩ := hx0
  obtain ⟨xa0, xc0, rfl⟩ := hx0.shape
  have HX0 := hide hx0
  clear hx0
  have HS0 := hide (fun W q => szRecordS_any (.slice xa0 ps0.length xc0) ps0 q W hl0 hm0)
  clear hm0 hl0
  have BW0 : Below w.heap.size w w := Below.refl _ _
  go_enter Try.func5, Try.ntmps5
  go_wp2_with fail
  refine (HS0.out _ 1048576 (by omega) (by omega) ((HX0.out.later BW0 (Nat.le_refl _)).more BW0.size)).mono ?_
  rintro e w1 ⟨z0, rfl, hz0, b1⟩
  have hs1 := b1.size
  have BW1 : Below w.heap.size w w1 := b1
  clear b1
  rcases hz0 with hz0 | ⟨hz0, hy0⟩
  · go_wp2
    go_ret
    exact ⟨rfl, BW1⟩
  have HY0 := hide hy0
  have hzu0 : z0 ≤ 1048576 := by omega
  clear hy0
  have hT0 : tot ps0 ≤ 1048576 := by have := HY0.out; omega
  have hTR : totD (((fsts ps0).filter (inScope a1)).map headD) ≤ 1048576 := Nat.le_trans (totD_head _) (Nat.le_trans (totD_filter _ _) (by rw [← tot_D]; exact hT0))
  have HTO0 := hide (fun W hb => toRecS_own (.slice xa0 ps0.length xc0) ps0 w W HX0.out hb hT0)
  have HSP := hide (fun v qs lo hi (hf : fsts qs = fsts ps0) W hv hh => by have h := sheaders_any v qs hi a1 W (RecsOwn.in (lo := lo) hv) hh (by rw [tot_eq hf]; exact hT0); rw [hf] at h; exact h)
  have HIM := hide (fun v qs lo hi (hf : fsts qs = fsts ps0) W hv hh => by have h := iheaders_any v qs hi a1 W (RecsOwn.in (lo := lo) hv) hh (by rw [tot_eq hf]; exact hT0); rw [hf] at h; exact h)
  clear HX0 HS0
  go_wp2_with fail
  refine (HTO0.out _ BW1).mono ?_
  rintro e w2 ⟨vA0, qA0, rfl, fA0, oA0, b2⟩
  obtain ⟨aA0, cA0, rfl⟩ := owns_lenS oA0.row
  have hs2 := b2.size
  have BW2 : Below w.heap.size w w2 := BW1.trans (b2.mono BW1.size)
  clear b2 BW1
  have KA02 := hide oA0
  have TA0 : tot qA0 ≤ 1048576 := by rw [tot_eq fA0]; exact hT0
  have FA0 := hide fA0
  clear oA0 fA0
  go_wp2_with fail
  refine (HSP.out _ _ _ _ FA0.out _ KA02.out (by omega)).mono ?_
  rintro e w3 ⟨vW, qW, rfl, fW, oW, b3⟩
  obtain ⟨aW, cW, rfl⟩ := owns_lenS oW.row
  have hs3 := b3.size
  have BW3 : Below w.heap.size w w3 := BW2.trans (b3.mono BW2.size)
  have KA03 := hide (KA02.out.below b3 (by omega))
  clear b3 BW2 KA02
  have KW3 := hide oW
  have TW : tot qW ≤ 1048576 := by rw [tot_D, fW]; exact hTR
  have FW := hide fW
  clear oW fW
  clear KA03
  go_wp2_with fail
  refine (HTO0.out _ BW3).mono ?_
  rintro e w4 ⟨vX0, qX0, rfl, fX0, oX0, b4⟩
  obtain ⟨aX0, cX0, rfl⟩ := owns_lenS oX0.row
  have hs4 := b4.size
  have BW4 : Below w.heap.size w w4 := BW3.trans (b4.mono BW3.size)
  have KW4 := hide (KW3.out.below b4 (by omega))
  clear b4 BW3 KW3
  have KX04 := hide oX0
  have TX0 : tot qX0 ≤ 1048576 := by rw [tot_eq fX0]; exact hT0
  have FX0 := hide fX0
  clear oX0 fX0
  go_wp2_with fail
  refine (HIM.out _ _ _ _ FX0.out _ KX04.out (by omega)).mono ?_
  rintro e w5 ⟨vG, qG, rfl, fG, oG, b5⟩
  obtain ⟨aG, cG, rfl⟩ := owns_lenS oG.row
  have hs5 := b5.size
  have BW5 : Below w.heap.size w w5 := BW4.trans (b5.mono BW4.size)
  have KW5 := hide (KW4.out.below b5 (by omega))
  have KX05 := hide (KX04.out.below b5 (by omega))
  clear b5 BW4 KW4 KX04
  have KG5 := hide oG
  have TG : tot qG ≤ 1048576 := by rw [tot_D, fG]; exact hTR
  have FG := hide fG
  clear oG fG
  go_wp2_with fail
  refine (eqRecS_own _ _ _ _ _ _ _ _ _ KG5.out KW5.out (FG.out.trans FW.out.symm) TG (by omega) (by omega)).mono ?_
  rintro e w6 ⟨rfl, b6⟩
  have hs6 := b6.size
  have BW6 : Below w.heap.size w w6 := BW5.trans (b6.mono BW5.size)
  have KW6 := hide (KW5.out.below b6 (by omega))
  have KX06 := hide (KX05.out.below b6 (by omega))
  have KG6 := hide (KG5.out.below b6 (by omega))
  clear b6 BW5 KW5 KX05 KG5
  go_wp2_with fail
  refine (HTO0.out _ BW6).mono ?_
  rintro e w7 ⟨vY0, qY0, rfl, fY0, oY0, b7⟩
  obtain ⟨aY0, cY0, rfl⟩ := owns_lenS oY0.row
  have hs7 := b7.size
  have BW7 : Below w.heap.size w w7 := BW6.trans (b7.mono BW6.size)
  have KW7 := hide (KW6.out.below b7 (by omega))
  have KX07 := hide (KX06.out.below b7 (by omega))
  have KG7 := hide (KG6.out.below b7 (by omega))
  clear b7 BW6 KW6 KX06 KG6
  have KY07 := hide oY0
  have TY0 : tot qY0 ≤ 1048576 := by rw [tot_eq fY0]; exact hT0
  have FY0 := hide fY0
  clear oY0 fY0
  go_wp2_with fail
  refine (eqRecS_own _ _ _ _ _ _ _ _ _ KX07.out KY07.out (FX0.out.trans FY0.out.symm) TX0 (by omega) (by omega)).mono ?_
  rintro e w8 ⟨rfl, b8⟩
  have hs8 := b8.size
  have BW8 : Below w.heap.size w w8 := BW7.trans (b8.mono BW7.size)
  have KW8 := hide (KW7.out.below b8 (by omega))
  have KX08 := hide (KX07.out.below b8 (by omega))
  have KG8 := hide (KG7.out.below b8 (by omega))
  have KY08 := hide (KY07.out.below b8 (by omega))
  clear b8 BW7 KW7 KX07 KG7 KY07
  clear KY08
  go_wp2_with fail
  refine (markRecordS_any _ _ _ _ 1 _ KX08.out TX0 (by omega) (by omega)).mono ?_
  rintro e w9 ⟨rfl, oX0, b9⟩
  have hs9 := b9.size
  have BW9 : Below w.heap.size w w9 := BW8.trans ((b9.below (by omega)).mono (by omega))
  have KW9 := hide (KW8.out.frame b9 (by omega))
  have KG9 := hide (KG8.out.frame b9 (by omega))
  clear b9 BW8 KW8 KG8
  have KX09 := hide oX0
  clear oX0
  have hpos := mkE_pos qX0
  go_wp2_with fail
  refine (eqRecS_own _ _ _ _ _ _ _ _ _ KG9.out KW9.out (FG.out.trans FW.out.symm) TG (by omega) (by omega)).mono ?_
  rintro e w10 ⟨rfl, b10⟩
  have hs10 := b10.size
  have BW10 : Below w.heap.size w w10 := BW9.trans (b10.mono BW9.size)
  have KW10 := hide (KW9.out.below b10 (by omega))
  have KX010 := hide (KX09.out.below b10 (by omega))
  have KG10 := hide (KG9.out.below b10 (by omega))
  clear b10 BW9 KW9 KX09 KG9
  clear KX010
  go_wp2_with fail
  refine (markRecordS_any _ _ _ _ 1 _ KG10.out TG (by omega) (by omega)).mono ?_
  rintro e w11 ⟨rfl, oG, b11⟩
  have hs11 := b11.size
  have BW11 : Below w.heap.size w w11 := BW10.trans ((b11.below (by omega)).mono (by omega))
  have KW11 := hide (KW10.out.frame b11 (by omega))
  clear b11 BW10 KW10
  have KG11 := hide oG
  clear oG
  have hposG := mkE_pos qG
  go_wp2_with fail
  refine (heldS_own _ _ _ _ _ KG11.out TG (by omega)).mono ?_
  rintro e w12 ⟨rfl, rfl⟩
  go_wp2_with fail
  refine (HTO0.out _ BW11).mono ?_
  rintro e w12 ⟨vB0, qB0, rfl, fB0, oB0, b12⟩
  obtain ⟨aB0, cB0, rfl⟩ := owns_lenS oB0.row
  have hs12 := b12.size
  have BW12 : Below w.heap.size w w12 := BW11.trans (b12.mono BW11.size)
  have KW12 := hide (KW11.out.below b12 (by omega))
  have KG12 := hide (KG11.out.below b12 (by omega))
  clear b12 BW11 KW11 KG11
  have KB012 := hide oB0
  have TB0 : tot qB0 ≤ 1048576 := by rw [tot_eq fB0]; exact hT0
  have FB0 := hide fB0
  clear oB0 fB0
  go_wp2_with fail
  refine (HIM.out _ _ _ _ FB0.out _ KB012.out (by omega)).mono ?_
  rintro e w13 ⟨vH, qH, rfl, fH, oH, b13⟩
  obtain ⟨aH, cH, rfl⟩ := owns_lenS oH.row
  have hs13 := b13.size
  have BW13 : Below w.heap.size w w13 := BW12.trans (b13.mono BW12.size)
  have KW13 := hide (KW12.out.below b13 (by omega))
  have KG13 := hide (KG12.out.below b13 (by omega))
  have KB013 := hide (KB012.out.below b13 (by omega))
  clear b13 BW12 KW12 KG12 KB012
  have KH13 := hide oH
  have TH : tot qH ≤ 1048576 := by rw [tot_D, fH]; exact hTR
  have FH := hide fH
  clear oH fH
  go_wp2_with fail
  refine (eqRecS_own _ _ _ _ _ _ _ _ _ KH13.out KW13.out (FH.out.trans FW.out.symm) TH (by omega) (by omega)).mono ?_
  rintro e w14 ⟨rfl, b14⟩
  have hs14 := b14.size
  have BW14 : Below w.heap.size w w14 := BW13.trans (b14.mono BW13.size)
  have KW14 := hide (KW13.out.below b14 (by omega))
  have KG14 := hide (KG13.out.below b14 (by omega))
  have KB014 := hide (KB013.out.below b14 (by omega))
  have KH14 := hide (KH13.out.below b14 (by omega))
  clear b14 BW13 KW13 KG13 KB013 KH13
  go_wp2_with fail
  refine (heldS_own _ _ _ _ _ KG14.out TG (by omega)).mono ?_
  rintro e w15 ⟨rfl, rfl⟩
  go_wp2
  go_ret
  exact ⟨rfl, BW14⟩
end Go.Proofs.Ytnfockhbcneegaa
