/-
  laws.FnExactTrueTold: its walk.
-/
import Derived.Test.YthgihhngddhejaaTtT
namespace Go.Proofs.Ythgihhngddhejaa
open Go.RowKit

set_option maxRecDepth 100000 in
set_option maxHeartbeats 4000000 in
theorem fnExactTrueTold_walk (v0 : Value) (ps0 : List RP) (v1 : Value) (ps1 : List RP) (w : World) (hx0 : RecsAt w v0 ps0 w.heap.size ∧ ps0.length ≤ maxLen ∧ ∀ p ∈ ps0, p.1.near.length ≤ maxLen) (hx1 : RecsAt w v1 ps1 w.heap.size ∧ ps1.length ≤ maxLen ∧ ∀ p ∈ ps1, p.1.near.length ≤ maxLen) :
    Calls Try.prog 3 #[v0, v1] w fun e w' => e = .returned (.bool true) ∧ Below w.heap.size w w' := by
  obtain ⟨hx0, hl0, hm0⟩ := hx0
  obtain ⟨xa0, xc0, rfl⟩ := hx0.shape
  have HX0 := hide hx0
  clear hx0
  obtain ⟨hx1, hl1, hm1⟩ := hx1
  obtain ⟨xa1, xc1, rfl⟩ := hx1.shape
  have HX1 := hide hx1
  clear hx1
  have HS0 := hide (fun W q => szRecordS_any (.slice xa0 ps0.length xc0) ps0 q W hl0 hm0)
  have HS1 := hide (fun W q => szRecordS_any (.slice xa1 ps1.length xc1) ps1 q W hl1 hm1)
  clear hm0 hl0 hm1 hl1
  have BW0 : Below w.heap.size w w := Below.refl _ _
  go_enter Try.func3, Try.ntmps3
  go_wp2_with fail
  refine (HS0.out _ 1048576 (by omega) (by omega) ((HX0.out.later BW0 (Nat.le_refl _)).more BW0.size)).mono ?_
  rintro e w1 ⟨z0, rfl, hz0, b1⟩
  have hs1 := b1.size
  have BW1 : Below w.heap.size w w1 := b1
  clear b1
  rcases hz0 with hz0 | ⟨hz0, hy0⟩
  · go_wp2
    go_ret
    exact ⟨rfl, BW1⟩
  have HY0 := hide hy0
  have hzu0 : z0 ≤ 1048576 := by omega
  clear hy0
  go_wp2_with fail
  refine (HS1.out _ z0 (by omega) (by omega) ((HX1.out.later BW1 (Nat.le_refl _)).more BW1.size)).mono ?_
  rintro e w2 ⟨z1, rfl, hz1, b2⟩
  have hs2 := b2.size
  have BW2 : Below w.heap.size w w2 := BW1.trans (b2.mono BW1.size)
  clear b2 BW1
  rcases hz1 with hz1 | ⟨hz1, hy1⟩
  · go_wp2
    go_ret
    exact ⟨rfl, BW2⟩
  have HY1 := hide hy1
  have hzu1 : z1 ≤ 1048576 := by omega
  clear hy1
  have hT0 : tot ps0 ≤ 1048576 := by have := HY0.out; have := HY1.out; omega
  have hT1 : tot ps1 ≤ 1048576 := by have := HY0.out; have := HY1.out; omega
  have HTO0 := hide (fun W hb => toRecS_own (.slice xa0 ps0.length xc0) ps0 w W HX0.out hb hT0)
  have HTO1 := hide (fun W hb => toRecS_own (.slice xa1 ps1.length xc1) ps1 w W HX1.out hb hT1)
  obtain ⟨R, hR⟩ : ∃ R, R = trueB (fsts ps0) (fsts ps1) := ⟨_, rfl⟩
  have HSP := hide (fun v qs lo hi (hf : fsts qs = fsts ps0) u rs l2 h2 (hg : fsts rs = fsts ps1) W (hv : RecsOwn W lo hi v qs) (hh : hi ≤ W.heap.size) (hu : RecsOwn W l2 h2 u rs) (hk : h2 ≤ W.heap.size) => by have h := strue_any v u qs rs W (by rw [tot_eq hf]; exact hT0) (by rw [tot_eq hg]; exact hT1) (hv.at.more hh) (hu.at.more hk); rw [hf, hg, ← hR] at h; exact h)
  have HIM := hide (fun v qs lo hi (hf : fsts qs = fsts ps0) u rs l2 h2 (hg : fsts rs = fsts ps1) W (hv : RecsOwn W lo hi v qs) (hh : hi ≤ W.heap.size) (hu : RecsOwn W l2 h2 u rs) (hk : h2 ≤ W.heap.size) => by have h := itrue_any v u qs rs W (by rw [tot_eq hf]; exact hT0) (by rw [tot_eq hg]; exact hT1) (hv.at.more hh) (hu.at.more hk); rw [hf, hg, ← hR] at h; exact h)
  clear HX0 HS0 HX1 HS1 hR
  go_wp2_with fail
  refine (HTO0.out _ BW2).mono ?_
  rintro e w3 ⟨vA0, qA0, rfl, fA0, oA0, b3⟩
  obtain ⟨aA0, cA0, rfl⟩ := owns_lenS oA0.row
  have hs3 := b3.size
  have BW3 : Below w.heap.size w w3 := BW2.trans (b3.mono BW2.size)
  clear b3 BW2
  have KA03 := hide oA0
  have TA0 : tot qA0 ≤ 1048576 := by rw [tot_eq fA0]; exact hT0
  have FA0 := hide fA0
  clear oA0 fA0
  go_wp2_with fail
  refine (HTO1.out _ BW3).mono ?_
  rintro e w4 ⟨vA1, qA1, rfl, fA1, oA1, b4⟩
  obtain ⟨aA1, cA1, rfl⟩ := owns_lenS oA1.row
  have hs4 := b4.size
  have BW4 : Below w.heap.size w w4 := BW3.trans (b4.mono BW3.size)
  have KA04 := hide (KA03.out.below b4 (by omega))
  clear b4 BW3 KA03
  have KA14 := hide oA1
  have TA1 : tot qA1 ≤ 1048576 := by rw [tot_eq fA1]; exact hT1
  have FA1 := hide fA1
  clear oA1 fA1
  go_wp2_with fail
  refine (HSP.out _ _ _ _ FA0.out _ _ _ _ FA1.out _ KA04.out (by omega) KA14.out (by omega)).mono ?_
  rintro e w5 ⟨rfl, b5⟩
  have hs5 := b5.size
  have BW5 : Below w.heap.size w w5 := BW4.trans (b5.mono BW4.size)
  have KA05 := hide (KA04.out.below b5 (by omega))
  have KA15 := hide (KA14.out.below b5 (by omega))
  clear b5 BW4 KA04 KA14
  clear KA05
  clear KA15
  go_wp2_with fail
  refine (HTO0.out _ BW5).mono ?_
  rintro e w6 ⟨vX0, qX0, rfl, fX0, oX0, b6⟩
  obtain ⟨aX0, cX0, rfl⟩ := owns_lenS oX0.row
  have hs6 := b6.size
  have BW6 : Below w.heap.size w w6 := BW5.trans (b6.mono BW5.size)
  clear b6 BW5
  have KX06 := hide oX0
  have TX0 : tot qX0 ≤ 1048576 := by rw [tot_eq fX0]; exact hT0
  have FX0 := hide fX0
  clear oX0 fX0
  go_wp2_with fail
  refine (HTO1.out _ BW6).mono ?_
  rintro e w7 ⟨vX1, qX1, rfl, fX1, oX1, b7⟩
  obtain ⟨aX1, cX1, rfl⟩ := owns_lenS oX1.row
  have hs7 := b7.size
  have BW7 : Below w.heap.size w w7 := BW6.trans (b7.mono BW6.size)
  have KX07 := hide (KX06.out.below b7 (by omega))
  clear b7 BW6 KX06
  have KX17 := hide oX1
  have TX1 : tot qX1 ≤ 1048576 := by rw [tot_eq fX1]; exact hT1
  have FX1 := hide fX1
  clear oX1 fX1
  go_wp2_with fail
  refine (HIM.out _ _ _ _ FX0.out _ _ _ _ FX1.out _ KX07.out (by omega) KX17.out (by omega)).mono ?_
  rintro e w8 ⟨rfl, b8⟩
  have hs8 := b8.size
  have BW8 : Below w.heap.size w w8 := BW7.trans (b8.mono BW7.size)
  have KX08 := hide (KX07.out.below b8 (by omega))
  have KX18 := hide (KX17.out.below b8 (by omega))
  clear b8 BW7 KX07 KX17
  go_wp2_with fail
  refine (HTO0.out _ BW8).mono ?_
  rintro e w9 ⟨vY0, qY0, rfl, fY0, oY0, b9⟩
  obtain ⟨aY0, cY0, rfl⟩ := owns_lenS oY0.row
  have hs9 := b9.size
  have BW9 : Below w.heap.size w w9 := BW8.trans (b9.mono BW8.size)
  have KX09 := hide (KX08.out.below b9 (by omega))
  have KX19 := hide (KX18.out.below b9 (by omega))
  clear b9 BW8 KX08 KX18
  have KY09 := hide oY0
  have TY0 : tot qY0 ≤ 1048576 := by rw [tot_eq fY0]; exact hT0
  have FY0 := hide fY0
  clear oY0 fY0
  go_wp2_with fail
  refine (eqRecS_own _ _ _ _ _ _ _ _ _ KX09.out KY09.out (FX0.out.trans FY0.out.symm) TX0 (by omega) (by omega)).mono ?_
  rintro e w10 ⟨rfl, b10⟩
  have hs10 := b10.size
  have BW10 : Below w.heap.size w w10 := BW9.trans (b10.mono BW9.size)
  have KX010 := hide (KX09.out.below b10 (by omega))
  have KX110 := hide (KX19.out.below b10 (by omega))
  have KY010 := hide (KY09.out.below b10 (by omega))
  clear b10 BW9 KX09 KX19 KY09
  clear KY010
  go_wp2_with fail
  refine (HTO1.out _ BW10).mono ?_
  rintro e w11 ⟨vY1, qY1, rfl, fY1, oY1, b11⟩
  obtain ⟨aY1, cY1, rfl⟩ := owns_lenS oY1.row
  have hs11 := b11.size
  have BW11 : Below w.heap.size w w11 := BW10.trans (b11.mono BW10.size)
  have KX011 := hide (KX010.out.below b11 (by omega))
  have KX111 := hide (KX110.out.below b11 (by omega))
  clear b11 BW10 KX010 KX110
  have KY111 := hide oY1
  have TY1 : tot qY1 ≤ 1048576 := by rw [tot_eq fY1]; exact hT1
  have FY1 := hide fY1
  clear oY1 fY1
  go_wp2_with fail
  refine (eqRecS_own _ _ _ _ _ _ _ _ _ KX111.out KY111.out (FX1.out.trans FY1.out.symm) TX1 (by omega) (by omega)).mono ?_
  rintro e w12 ⟨rfl, b12⟩
  have hs12 := b12.size
  have BW12 : Below w.heap.size w w12 := BW11.trans (b12.mono BW11.size)
  have KX012 := hide (KX011.out.below b12 (by omega))
  have KX112 := hide (KX111.out.below b12 (by omega))
  have KY112 := hide (KY111.out.below b12 (by omega))
  clear b12 BW11 KX011 KX111 KY111
  go_wp2
  go_ret
  exact ⟨rfl, BW12⟩
end Go.Proofs.Ythgihhngddhejaa
