/-
  laws.FnExactStoreOk: its walk.
-/
import Derived.Test.YtohjphhocdgpgaaStoreS
import Derived.Test.YtohjphhocdgpgaaLaw5K
namespace Go.Proofs.Ytohjphhocdgpgaa
open Go.RowKit

set_option maxRecDepth 100000 in
set_option maxHeartbeats 4000000 in
theorem fnExactStoreOk_walk (v0 : Value) (ps0 : List RP) (w : World) (hx0 : RecsAt w v0 ps0 w.heap.size ∧ ps0.length ≤ maxLen ∧ ∀ p ∈ ps0, p.1.near.length ≤ maxLen) :
    Calls Try.prog 9 #[v0] w fun e w' => e = .returned (.bool true) ∧ Below w.heap.size w w' := by
  obtain ⟨hx0, hl0, hm0⟩ := hx0
  obtain ⟨xa0, xc0, rfl⟩ := hx0.shape
  have HX0 := hide hx0
  clear hx0
  have HS0 := hide (fun W q => szRecordS_any (.slice xa0 ps0.length xc0) ps0 q W hl0 hm0)
  clear hm0 hl0
  have BW0 : Below w.heap.size w w := Below.refl _ _
  go_enter Try.func9, Try.ntmps9
  go_wp2_with fail
  refine (HS0.out _ 1048576 (by omega) (by omega) ((HX0.out.later BW0 (Nat.le_refl _)).more BW0.size)).mono ?_
  rintro e w1 ⟨z0, rfl, hz0, b1⟩
  have hs1 := b1.size
  have BW1 : Below w.heap.size w w1 := b1
  clear b1
  rcases hz0 with hz0 | ⟨hz0, hy0⟩
  · go_wp2
    go_ret
    exact ⟨rfl, BW1⟩
  have hT0 : tot ps0 ≤ 1048576 := by omega
  clear hy0
  have HTO0 := hide (fun W hb => toRecS_own (.slice xa0 ps0.length xc0) ps0 w W HX0.out hb hT0)
  obtain ⟨R, hR⟩ : ∃ R, R = storeB (fsts ps0) := ⟨_, rfl⟩
  have HSP := hide (fun v qs lo hi (hf : fsts qs = fsts ps0) W (hv : RecsOwn W lo hi v qs) (hh : hi ≤ W.heap.size) => by have h := sstoreOk_any v qs W (by rw [tot_eq hf]; exact hT0) (hv.at.more hh); rw [hf, ← hR] at h; exact h)
  have HIM := hide (fun v qs lo hi (hf : fsts qs = fsts ps0) W (hv : RecsOwn W lo hi v qs) (hh : hi ≤ W.heap.size) => by have h := istoreOk_any v qs W (by rw [tot_eq hf]; exact hT0) (hv.at.more hh); rw [hf, ← hR] at h; exact h)
  clear HX0 HS0 hR
  go_wp2_with fail
  refine (HTO0.out _ BW1).mono ?_
  rintro e w2 ⟨vA0, qA0, rfl, fA0, oA0, b2⟩
  obtain ⟨aA0, cA0, rfl⟩ := owns_lenS oA0.row
  have hs2 := b2.size
  have BW2 : Below w.heap.size w w2 := BW1.trans (b2.mono BW1.size)
  clear b2 BW1
  have KA02 := hide oA0
  have TA0 : tot qA0 ≤ 1048576 := by rw [tot_eq fA0]; exact hT0
  have FA0 := hide fA0
  clear oA0 fA0
  go_wp2_with fail
  refine (HSP.out _ _ _ _ FA0.out _ KA02.out (by omega)).mono ?_
  rintro e w3 ⟨rfl, b3⟩
  have hs3 := b3.size
  have BW3 : Below w.heap.size w w3 := BW2.trans (b3.mono BW2.size)
  have KA03 := hide (KA02.out.below b3 (by omega))
  clear b3 BW2 KA02
  clear KA03
  go_wp2_with fail
  refine (HTO0.out _ BW3).mono ?_
  rintro e w4 ⟨vX0, qX0, rfl, fX0, oX0, b4⟩
  obtain ⟨aX0, cX0, rfl⟩ := owns_lenS oX0.row
  have hs4 := b4.size
  have BW4 : Below w.heap.size w w4 := BW3.trans (b4.mono BW3.size)
  clear b4 BW3
  have KX04 := hide oX0
  have TX0 : tot qX0 ≤ 1048576 := by rw [tot_eq fX0]; exact hT0
  have FX0 := hide fX0
  clear oX0 fX0
  go_wp2_with fail
  refine (HIM.out _ _ _ _ FX0.out _ KX04.out (by omega)).mono ?_
  rintro e w5 ⟨rfl, b5⟩
  have hs5 := b5.size
  have BW5 : Below w.heap.size w w5 := BW4.trans (b5.mono BW4.size)
  have KX05 := hide (KX04.out.below b5 (by omega))
  clear b5 BW4 KX04
  go_wp2_with fail
  refine (HTO0.out _ BW5).mono ?_
  rintro e w6 ⟨vY0, qY0, rfl, fY0, oY0, b6⟩
  obtain ⟨aY0, cY0, rfl⟩ := owns_lenS oY0.row
  have hs6 := b6.size
  have BW6 : Below w.heap.size w w6 := BW5.trans (b6.mono BW5.size)
  have KX06 := hide (KX05.out.below b6 (by omega))
  clear b6 BW5 KX05
  have KY06 := hide oY0
  have TY0 : tot qY0 ≤ 1048576 := by rw [tot_eq fY0]; exact hT0
  have FY0 := hide fY0
  clear oY0 fY0
  go_wp2_with fail
  refine (eqRecS_own _ _ _ _ _ _ _ _ _ KX06.out KY06.out (FX0.out.trans FY0.out.symm) TX0 (by omega) (by omega)).mono ?_
  rintro e w7 ⟨rfl, b7⟩
  have hs7 := b7.size
  have BW7 : Below w.heap.size w w7 := BW6.trans (b7.mono BW6.size)
  have KX07 := hide (KX06.out.below b7 (by omega))
  have KY07 := hide (KY06.out.below b7 (by omega))
  clear b7 BW6 KX06 KY06
  go_wp2
  go_ret
  exact ⟨rfl, BW7⟩
end Go.Proofs.Ytohjphhocdgpgaa
