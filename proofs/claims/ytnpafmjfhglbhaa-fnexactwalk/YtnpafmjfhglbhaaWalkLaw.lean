/-
  laws.FnExactWalk: its walk.
-/
import Derived.Test.YtnpafmjfhglbhaaWalkS
namespace Go.Proofs.Ytnpafmjfhglbhaa
open Go.RowKit

theorem walkF_len (D : List (List LnD)) (z : Int) (ps : List Int) : ∀ (n : Nat) (a : Int) (way way' : List Int), walkF D z ps n a way = some way' → way'.length ≤ way.length + n
  | 0, a, way, way', h => by
    unfold walkF at h
    split at h
    · cases h; omega
    · cases h
  | n + 1, a, way, way', h => by
    unfold walkF at h
    split at h
    · cases h; omega
    · split at h
      · cases h
      · have := walkF_len D z ps n _ _ _ h
        rw [List.length_append] at this
        simp at this
        omega

theorem walkD_len (D : List (List LnD)) (a z : Int) (ps : List Int) : (walkD D a z ps).length ≤ 13 := by
  unfold walkD
  cases h : walkO D a z ps with
  | none => simp
  | some way =>
    have := walkF_len D z ps 12 a [a] way h
    simpa using this

set_option maxRecDepth 100000 in
set_option maxHeartbeats 4000000 in
theorem fnExactWalk_walk (v0 : Value) (ls0 : List LLP) (a1 a2 : Int) (v3 : Value) (al1 : List Int) (w : World) (hx0 : LLAt w v0 ls0 w.heap.size ∧ ls0.length ≤ maxLen ∧ ∀ p ∈ ls0, p.2.length ≤ maxLen ∧ ∀ x ∈ p.2, x.1.hops.length ≤ maxLen) (_ : (Lit.int .i64 a1).wf = true) (_ : (Lit.int .i64 a2).wf = true) (hx1 : HopsAt w v3 al1 w.heap.size ∧ al1.length ≤ maxLen) :
    Calls Try.prog 4 #[v0, .int .i64 a1, .int .i64 a2, v3] w fun e w' => e = .returned (.bool true) ∧ Below w.heap.size w w' := by
  obtain ⟨hx0, hl0, hm0⟩ := hx0
  obtain ⟨hx1, hl1⟩ := hx1
  obtain ⟨xa0, xc0, rfl⟩ := hx0.shape
  obtain ⟨xa1, xc1, rfl⟩ := hx1.shape
  have hmx : maxLen ≤ 9223372036854775807 := by unfold maxLen; omega
  have hl1 : (al1.length : Int) ≤ 9223372036854775807 := by omega
  clear hmx
  have HX0 := hide hx0
  have HX1 := hide hx1
  clear hx0 hx1
  have HS0 := hide (fun W q => szLineSS_any (.slice xa0 ls0.length xc0) ls0 q W hl0 hm0)
  clear hm0 hl0
  have BW0 : Below w.heap.size w w := Below.refl _ _
  by_cases hAL : al1.length ≤ 1048576
  case neg =>
    have hgt : ¬ (al1.length : Int) ≤ 1048576 := by omega
    clear HX0 HX1 HS0
    go_enter Try.func4, Try.ntmps4
    go_wp2
    go_ret
    exact ⟨rfl, BW0⟩
  have hle : (al1.length : Int) ≤ 1048576 := by omega
  go_enter Try.func4, Try.ntmps4
  go_wp2_with fail
  refine (HS0.out _ 1048576 (by omega) (by omega) ((HX0.out.later BW0 (Nat.le_refl _)).more BW0.size)).mono ?_
  rintro e w1 ⟨z0, rfl, hz0, b1⟩
  have hs1 := b1.size
  have BW1 : Below w.heap.size w w1 := b1
  clear b1
  rcases hz0 with hz0 | ⟨hz0, hy0⟩
  · go_wp2
    go_ret
    exact ⟨rfl, BW1⟩
  have hT0 : totLL ls0 ≤ 1048576 := by omega
  clear hy0
  have HTO0 := hide (fun W (hb : Below w.heap.size w W) => toLineSS_any (.slice xa0 ls0.length xc0) ls0 W hT0 (HX0.out.then hb))
  have HTO1 := hide (fun W hb => toInts_own (.slice xa1 al1.length xc1) al1 w W HX1.out hb hAL)
  obtain ⟨R, hR⟩ : ∃ R, R = walkD (datLL ls0) a1 a2 al1 := ⟨_, rfl⟩
  obtain ⟨T, hT⟩ : ∃ T, T = walkB (datLL ls0) a1 a2 al1 := ⟨_, rfl⟩
  have hRL : R.length ≤ 1048576 := by rw [hR]; exact Nat.le_trans (walkD_len _ _ _ _) (by omega)
  have HSP := hide (fun v qs f lo hi (hf : datLL qs = datLL ls0) u lo2 hi2 W (hv : LLOwn W lo hi v qs f) (hh : hi ≤ W.heap.size) (hu : IntsOwn W lo2 hi2 u al1) (hh2 : hi2 ≤ W.heap.size) => by have h := swalk_any v u qs a1 a2 al1 W (hv.at.more hh) (by rw [totLL_eq hf]; exact hT0) (RowAt.more hu.at hh2); unfold WalkRes at h; rw [hf, ← hR, ← hT] at h; exact h)
  have HIM := hide (fun v qs f lo hi (hf : datLL qs = datLL ls0) u lo2 hi2 W (hv : LLOwn W lo hi v qs f) (hh : hi ≤ W.heap.size) (hu : IntsOwn W lo2 hi2 u al1) (hh2 : hi2 ≤ W.heap.size) => by have h := iwalk_any v u qs a1 a2 al1 W (hv.at.more hh) (by rw [totLL_eq hf]; exact hT0) (RowAt.more hu.at hh2); unfold WalkRes at h; rw [hf, ← hR, ← hT] at h; exact h)
  clear HX0 HX1 HS0 hR hT
  go_wp2_with fail
  refine (HTO0.out _ BW1).mono ?_
  rintro e w2 ⟨vA0, qA0, ffA0, rfl, fA0, oA0, b2⟩
  obtain ⟨aA0, cA0, rfl⟩ := owns_lenS oA0.row
  have hs2 := b2.size
  have BW2 : Below w.heap.size w w2 := BW1.trans (b2.mono BW1.size)
  clear b2 BW1
  have KA02 := hide oA0
  have TA0 : totLL qA0 ≤ 1048576 := by rw [totLL_eq fA0]; exact hT0
  have FA0 := hide fA0
  clear oA0 fA0
  go_wp2_with fail
  refine (HTO1.out _ BW2).mono ?_
  rintro e w3 ⟨vA1, rfl, oA1, b3⟩
  obtain ⟨aA1, cA1, rfl⟩ := owns_lenS oA1.row
  have hs3 := b3.size
  have BW3 : Below w.heap.size w w3 := BW2.trans (b3.mono BW2.size)
  have KA03 := hide (KA02.out.below b3 (by omega))
  clear b3 BW2 KA02
  have KA13 := hide oA1
  clear oA1
  go_wp2_with fail
  refine (HSP.out _ _ _ _ _ FA0.out _ _ _ _ KA03.out (by omega) KA13.out (by omega)).mono ?_
  rintro e w4 ⟨vW, rfl, oW, b4⟩
  obtain ⟨aW, cW, rfl⟩ := owns_lenS oW.row
  have hs4 := b4.size
  have BW4 : Below w.heap.size w w4 := BW3.trans (b4.mono BW3.size)
  have KA04 := hide (KA03.out.below b4 (by omega))
  have KA14 := hide (KA13.out.below b4 (by omega))
  clear b4 BW3 KA03 KA13
  have KW4 := hide oW
  clear oW
  clear KA04
  clear KA14
  go_wp2_with fail
  refine (HTO0.out _ BW4).mono ?_
  rintro e w5 ⟨vX0, qX0, ffX0, rfl, fX0, oX0, b5⟩
  obtain ⟨aX0, cX0, rfl⟩ := owns_lenS oX0.row
  have hs5 := b5.size
  have BW5 : Below w.heap.size w w5 := BW4.trans (b5.mono BW4.size)
  have KW5 := hide (KW4.out.below b5 (by omega))
  clear b5 BW4 KW4
  have KX05 := hide oX0
  have TX0 : totLL qX0 ≤ 1048576 := by rw [totLL_eq fX0]; exact hT0
  have FX0 := hide fX0
  clear oX0 fX0
  go_wp2_with fail
  refine (HTO1.out _ BW5).mono ?_
  rintro e w6 ⟨vX1, rfl, oX1, b6⟩
  obtain ⟨aX1, cX1, rfl⟩ := owns_lenS oX1.row
  have hs6 := b6.size
  have BW6 : Below w.heap.size w w6 := BW5.trans (b6.mono BW5.size)
  have KW6 := hide (KW5.out.below b6 (by omega))
  have KX06 := hide (KX05.out.below b6 (by omega))
  clear b6 BW5 KW5 KX05
  have KX16 := hide oX1
  clear oX1
  go_wp2_with fail
  refine (HIM.out _ _ _ _ _ FX0.out _ _ _ _ KX06.out (by omega) KX16.out (by omega)).mono ?_
  rintro e w7 ⟨vG, rfl, oG, b7⟩
  obtain ⟨aG, cG, rfl⟩ := owns_lenS oG.row
  have hs7 := b7.size
  have BW7 : Below w.heap.size w w7 := BW6.trans (b7.mono BW6.size)
  have KW7 := hide (KW6.out.below b7 (by omega))
  have KX07 := hide (KX06.out.below b7 (by omega))
  have KX17 := hide (KX16.out.below b7 (by omega))
  clear b7 BW6 KW6 KX06 KX16
  have KG7 := hide oG
  clear oG
  have hTT : (T != T) = false := by cases T <;> rfl
  have hTN : (!(T == T)) = false := by cases T <;> rfl
  go_wp2_with fail
  refine (eqInts_own _ _ _ _ _ _ _ _ KG7.out KW7.out hRL (by omega) (by omega)).mono ?_
  rintro e w8 ⟨rfl, b8⟩
  have hs8 := b8.size
  have BW8 : Below w.heap.size w w8 := BW7.trans (b8.mono BW7.size)
  have KW8 := hide (KW7.out.below b8 (by omega))
  have KX08 := hide (KX07.out.below b8 (by omega))
  have KX18 := hide (KX17.out.below b8 (by omega))
  have KG8 := hide (KG7.out.below b8 (by omega))
  clear b8 BW7 KW7 KX07 KX17 KG7
  go_wp2_with fail
  refine (HTO0.out _ BW8).mono ?_
  rintro e w9 ⟨vY0, qY0, ffY0, rfl, fY0, oY0, b9⟩
  obtain ⟨aY0, cY0, rfl⟩ := owns_lenS oY0.row
  have hs9 := b9.size
  have BW9 : Below w.heap.size w w9 := BW8.trans (b9.mono BW8.size)
  have KW9 := hide (KW8.out.below b9 (by omega))
  have KX09 := hide (KX08.out.below b9 (by omega))
  have KX19 := hide (KX18.out.below b9 (by omega))
  have KG9 := hide (KG8.out.below b9 (by omega))
  clear b9 BW8 KW8 KX08 KX18 KG8
  have KY09 := hide oY0
  have TY0 : totLL qY0 ≤ 1048576 := by rw [totLL_eq fY0]; exact hT0
  have FY0 := hide fY0
  clear oY0 fY0
  go_wp2_with fail
  refine (eqLineSS_same _ _ _ _ _ (KX09.out.at.more (by omega)) (KY09.out.at.more (by omega)) TX0 (FX0.out.trans FY0.out.symm)).mono ?_
  rintro e w10 ⟨rfl, b10⟩
  have hs10 := b10.size
  have BW10 : Below w.heap.size w w10 := BW9.trans (b10.mono BW9.size)
  have KW10 := hide (KW9.out.below b10 (by omega))
  have KX010 := hide (KX09.out.below b10 (by omega))
  have KX110 := hide (KX19.out.below b10 (by omega))
  have KG10 := hide (KG9.out.below b10 (by omega))
  have KY010 := hide (KY09.out.below b10 (by omega))
  clear b10 BW9 KW9 KX09 KX19 KG9 KY09
  clear KY010
  go_wp2_with fail
  refine (HTO1.out _ BW10).mono ?_
  rintro e w11 ⟨vY1, rfl, oY1, b11⟩
  obtain ⟨aY1, cY1, rfl⟩ := owns_lenS oY1.row
  have hs11 := b11.size
  have BW11 : Below w.heap.size w w11 := BW10.trans (b11.mono BW10.size)
  have KW11 := hide (KW10.out.below b11 (by omega))
  have KX011 := hide (KX010.out.below b11 (by omega))
  have KX111 := hide (KX110.out.below b11 (by omega))
  have KG11 := hide (KG10.out.below b11 (by omega))
  clear b11 BW10 KW10 KX010 KX110 KG10
  have KY111 := hide oY1
  clear oY1
  go_wp2_with fail
  refine (eqInts_own _ _ _ _ _ _ _ _ KX111.out KY111.out hAL (by omega) (by omega)).mono ?_
  rintro e w12 ⟨rfl, b12⟩
  have hs12 := b12.size
  have BW12 : Below w.heap.size w w12 := BW11.trans (b12.mono BW11.size)
  have KW12 := hide (KW11.out.below b12 (by omega))
  have KX012 := hide (KX011.out.below b12 (by omega))
  have KX112 := hide (KX111.out.below b12 (by omega))
  have KG12 := hide (KG11.out.below b12 (by omega))
  have KY112 := hide (KY111.out.below b12 (by omega))
  clear b12 BW11 KW11 KX011 KX111 KG11 KY111
  clear KY112
  go_wp2_with fail
  refine (markLineSS_any _ _ _ _ _ 1 _ KX012.out TX0 (by omega) (by omega)).mono ?_
  rintro e w13 ⟨mk0, rfl, hmk1, hmk2, b13⟩
  have hs13 := b13.size
  have BW13 : Below w.heap.size w w13 := BW12.trans ((b13.below (by omega)).mono (by omega))
  have KW13 := hide (KW12.out.frame b13 (by omega))
  have KX113 := hide (KX112.out.frame b13 (by omega))
  have KG13 := hide (KG12.out.frame b13 (by omega))
  clear b13 BW12 KW12 KX112 KG12
  clear KX012
  go_wp2_with fail
  refine (markInts_own _ _ _ _ mk0 _ KX113.out hAL (by omega) (by omega)).mono ?_
  rintro e w14 ⟨rfl, oX1, b14⟩
  have hs14 := b14.size
  have BW14 : Below w.heap.size w w14 := BW13.trans ((b14.below (by omega)).mono (by omega))
  have KW14 := hide (KW13.out.frame b14 (by omega))
  have KG14 := hide (KG13.out.frame b14 (by omega))
  clear b14 BW13 KW13 KG13
  have KX114 := hide oX1
  clear oX1
  have hpos : ¬ mk0 + (al1.length : Int) < 0 := by omega
  clear KX114
  go_wp2_with fail
  refine (eqInts_own _ _ _ _ _ _ _ _ KG14.out KW14.out hRL (by omega) (by omega)).mono ?_
  rintro e w15 ⟨rfl, b15⟩
  have hs15 := b15.size
  have BW15 : Below w.heap.size w w15 := BW14.trans (b15.mono BW14.size)
  have KW15 := hide (KW14.out.below b15 (by omega))
  have KG15 := hide (KG14.out.below b15 (by omega))
  clear b15 BW14 KW14 KG14
  go_wp2_with fail
  refine (markInts_own _ _ _ _ 1 _ KG15.out hRL (by omega) (by omega)).mono ?_
  rintro e w16 ⟨rfl, oG, b16⟩
  have hs16 := b16.size
  have BW16 : Below w.heap.size w w16 := BW15.trans ((b16.below (by omega)).mono (by omega))
  have KW16 := hide (KW15.out.frame b16 (by omega))
  clear b16 BW15 KW15
  have KG16 := hide oG
  clear oG
  go_wp2_with fail
  refine (heldInts_own _ _ _ _ 1 _ KG16.out hRL (by omega) (by omega) (by omega)).mono ?_
  rintro e w17 ⟨rfl, rfl⟩
  have hpos2 : ¬ 1 + (R.length : Int) < 0 := by omega
  go_wp2_with fail
  refine (HTO0.out _ BW16).mono ?_
  rintro e w17 ⟨vB0, qB0, ffB0, rfl, fB0, oB0, b17⟩
  obtain ⟨aB0, cB0, rfl⟩ := owns_lenS oB0.row
  have hs17 := b17.size
  have BW17 : Below w.heap.size w w17 := BW16.trans (b17.mono BW16.size)
  have KW17 := hide (KW16.out.below b17 (by omega))
  have KG17 := hide (KG16.out.below b17 (by omega))
  clear b17 BW16 KW16 KG16
  have KB017 := hide oB0
  have TB0 : totLL qB0 ≤ 1048576 := by rw [totLL_eq fB0]; exact hT0
  have FB0 := hide fB0
  clear oB0 fB0
  go_wp2_with fail
  refine (HTO1.out _ BW17).mono ?_
  rintro e w18 ⟨vB1, rfl, oB1, b18⟩
  obtain ⟨aB1, cB1, rfl⟩ := owns_lenS oB1.row
  have hs18 := b18.size
  have BW18 : Below w.heap.size w w18 := BW17.trans (b18.mono BW17.size)
  have KW18 := hide (KW17.out.below b18 (by omega))
  have KG18 := hide (KG17.out.below b18 (by omega))
  have KB018 := hide (KB017.out.below b18 (by omega))
  clear b18 BW17 KW17 KG17 KB017
  have KB118 := hide oB1
  clear oB1
  go_wp2_with fail
  refine (HIM.out _ _ _ _ _ FB0.out _ _ _ _ KB018.out (by omega) KB118.out (by omega)).mono ?_
  rintro e w19 ⟨vH, rfl, oH, b19⟩
  obtain ⟨aH, cH, rfl⟩ := owns_lenS oH.row
  have hs19 := b19.size
  have BW19 : Below w.heap.size w w19 := BW18.trans (b19.mono BW18.size)
  have KW19 := hide (KW18.out.below b19 (by omega))
  have KG19 := hide (KG18.out.below b19 (by omega))
  have KB019 := hide (KB018.out.below b19 (by omega))
  have KB119 := hide (KB118.out.below b19 (by omega))
  clear b19 BW18 KW18 KG18 KB018 KB118
  have KH19 := hide oH
  clear oH
  clear KB019
  clear KB119
  go_wp2_with fail
  refine (eqInts_own _ _ _ _ _ _ _ _ KH19.out KW19.out hRL (by omega) (by omega)).mono ?_
  rintro e w20 ⟨rfl, b20⟩
  have hs20 := b20.size
  have BW20 : Below w.heap.size w w20 := BW19.trans (b20.mono BW19.size)
  have KW20 := hide (KW19.out.below b20 (by omega))
  have KG20 := hide (KG19.out.below b20 (by omega))
  have KH20 := hide (KH19.out.below b20 (by omega))
  clear b20 BW19 KW19 KG19 KH19
  go_wp2_with fail
  refine (heldInts_own _ _ _ _ 1 _ KG20.out hRL (by omega) (by omega) (by omega)).mono ?_
  rintro e w21 ⟨rfl, rfl⟩
  go_wp2
  go_ret
  exact ⟨rfl, BW20⟩
end Go.Proofs.Ytnpafmjfhglbhaa
