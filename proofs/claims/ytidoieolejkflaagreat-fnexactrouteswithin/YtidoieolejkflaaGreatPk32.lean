/-
  The law FnExactRoutesWithin answers true at every argument, and each argument reads afterwards as it read before; no condition. (Here: from the walk to the given statement.)
  laws.FnExactRoutesWithin: its walk.
-/
import Derived.Test.YtidoieolejkflaaGreatPk19
import Derived.Test.YtidoieolejkflaaGreatPk30
import Derived.Test.YtidoieolejkflaaGreatPk31
import Derived.ProofKit
import Derived.OpenShut
import Derived.ShutString
import Derived.ChangeOld
namespace Go.Proofs.YtidoieolejkflaaGreat
open Go.RowKit

set_option maxRecDepth 100000 in
set_option maxHeartbeats 4000000 in
theorem fnExactRoutesWithin_walk (v0 : Value) (ps0 : List RP) (v1 : Value) (al1 : List Int) (a2 : Int) (w : World) (hx0 : RecsAt w v0 ps0 w.heap.size ∧ ps0.length ≤ maxLen ∧ ∀ p ∈ ps0, p.1.near.length ≤ maxLen) (hx1 : HopsAt w v1 al1 w.heap.size ∧ al1.length ≤ maxLen) (_ : (Lit.int .i64 a2).wf = true) :
    Calls Tryz.prog 5 #[v0, v1, .int .i64 a2] w fun e w' => e = .returned (.bool true) ∧ Below w.heap.size w w' := by
  obtain ⟨hx0, hl0, hm0⟩ := hx0
  obtain ⟨hx1, hl1⟩ := hx1
  obtain ⟨xa0, xc0, rfl⟩ := hx0.shape
  obtain ⟨xa1, xc1, rfl⟩ := hx1.shape
  have hmx : maxLen ≤ 9223372036854775807 := by unfold maxLen; omega
  have hl1 : (al1.length : Int) ≤ 9223372036854775807 := by omega
  clear hmx
  have HX0 := hide hx0
  have HX1 := hide hx1
  clear hx0 hx1
  have HS0 := hide (fun W q => szRecordS_any (.slice xa0 ps0.length xc0) ps0 q W hl0 hm0)
  clear hm0 hl0
  have BW0 : Below w.heap.size w w := Below.refl _ _
  by_cases hAL : al1.length ≤ 1048576
  case neg =>
    have hgt : ¬ (al1.length : Int) ≤ 1048576 := by omega
    clear HX0 HX1 HS0
    go_enter Tryz.func5, Tryz.ntmps5
    go_wp2
    go_ret
    exact ⟨rfl, BW0⟩
  have hle : (al1.length : Int) ≤ 1048576 := by omega
  go_enter Tryz.func5, Tryz.ntmps5
  go_wp2_with fail
  refine (HS0.out _ 1048576 (by omega) (by omega) ((HX0.out.later BW0 (Nat.le_refl _)).more BW0.size)).mono ?_
  rintro e w1 ⟨z0, rfl, hz0, b1⟩
  have hs1 := b1.size
  have BW1 : Below w.heap.size w w1 := b1
  clear b1
  rcases hz0 with hz0 | ⟨hz0, hy0⟩
  · go_wp2
    go_ret
    exact ⟨rfl, BW1⟩
  have hT0 : tot ps0 ≤ 1048576 := by omega
  clear hy0
  have HTO0 := hide (fun W hb => toRecS_own (.slice xa0 ps0.length xc0) ps0 w W HX0.out hb hT0)
  have HTO1 := hide (fun W hb => toInts_own (.slice xa1 al1.length xc1) al1 w W HX1.out hb hAL)
  have HSP := hide (fun v qs lo hi (hf : fsts qs = fsts ps0) u lo2 hi2 W (hv : RecsOwn W lo hi v qs) (hh : hi ≤ W.heap.size) (hu : IntsOwn W lo2 hi2 u al1) (hh2 : hi2 ≤ W.heap.size) => by have h := swithin_any v u qs al1 W.heap.size a2 W (hv.in.wide hh) (RowAt.more hu.at hh2) (Nat.le_refl _) (by rw [tot_eq hf]; exact hT0) hAL; rw [hf] at h; exact h)
  have HIM := hide (fun v qs lo hi (hf : fsts qs = fsts ps0) u lo2 hi2 W (hv : RecsOwn W lo hi v qs) (hh : hi ≤ W.heap.size) (hu : IntsOwn W lo2 hi2 u al1) (hh2 : hi2 ≤ W.heap.size) => by have h := iwithin_any v u qs al1 W.heap.size a2 W (hv.in.wide hh) (RowAt.more hu.at hh2) (Nat.le_refl _) (by rw [tot_eq hf]; exact hT0) hAL; rw [hf] at h; exact h)
  clear HX0 HX1 HS0
  go_wp2_with fail
  refine (HTO0.out _ BW1).mono ?_
  rintro e w2 ⟨vA0, qA0, rfl, fA0, oA0, b2⟩
  obtain ⟨aA0, cA0, rfl⟩ := owns_lenS oA0.row
  have hs2 := b2.size
  have BW2 : Below w.heap.size w w2 := BW1.trans (b2.mono BW1.size)
  clear b2 BW1
  have KA02 := hide oA0
  have TA0 : tot qA0 ≤ 1048576 := by rw [tot_eq fA0]; exact hT0
  have FA0 := hide fA0
  clear oA0 fA0
  go_wp2_with fail
  refine (HTO1.out _ BW2).mono ?_
  rintro e w3 ⟨vA1, rfl, oA1, b3⟩
  obtain ⟨aA1, cA1, rfl⟩ := owns_lenS oA1.row
  have hs3 := b3.size
  have BW3 : Below w.heap.size w w3 := BW2.trans (b3.mono BW2.size)
  have KA03 := hide (KA02.out.below b3 (by omega))
  clear b3 BW2 KA02
  have KA13 := hide oA1
  clear oA1
  go_wp2_with fail
  refine (HSP.out _ _ _ _ FA0.out _ _ _ _ KA03.out (by omega) KA13.out (by omega)).mono ?_
  rintro e w4 ⟨vW, qW, rfl, fW, oW, b4⟩
  obtain ⟨aW, cW, rfl⟩ := owns_lenS oW.row
  have hs4 := b4.size
  have BW4 : Below w.heap.size w w4 := BW3.trans (b4.mono BW3.size)
  have KA04 := hide (KA03.out.below b4 (by omega))
  have KA14 := hide (KA13.out.below b4 (by omega))
  clear b4 BW3 KA03 KA13
  have KW4 := hide oW
  have TW : totW qW ≤ 1048576 := Nat.le_trans (good_tot (by have h := asc_tos fW.1 (fun d hd => (fW.good (fun to d h => withinS_good h) d hd).node); simpa [fstsW] using h) (fun d hd => (fW.good (fun to d h => withinS_good h) d hd).len)) (by omega)
  have FW := hide fW
  clear oW fW
  clear KA04
  clear KA14
  go_wp2_with fail
  refine (HTO0.out _ BW4).mono ?_
  rintro e w5 ⟨vX0, qX0, rfl, fX0, oX0, b5⟩
  obtain ⟨aX0, cX0, rfl⟩ := owns_lenS oX0.row
  have hs5 := b5.size
  have BW5 : Below w.heap.size w w5 := BW4.trans (b5.mono BW4.size)
  have KW5 := hide (KW4.out.below b5 (by omega))
  clear b5 BW4 KW4
  have KX05 := hide oX0
  have TX0 : tot qX0 ≤ 1048576 := by rw [tot_eq fX0]; exact hT0
  have FX0 := hide fX0
  clear oX0 fX0
  go_wp2_with fail
  refine (HTO1.out _ BW5).mono ?_
  rintro e w6 ⟨vX1, rfl, oX1, b6⟩
  obtain ⟨aX1, cX1, rfl⟩ := owns_lenS oX1.row
  have hs6 := b6.size
  have BW6 : Below w.heap.size w w6 := BW5.trans (b6.mono BW5.size)
  have KW6 := hide (KW5.out.below b6 (by omega))
  have KX06 := hide (KX05.out.below b6 (by omega))
  clear b6 BW5 KW5 KX05
  have KX16 := hide oX1
  clear oX1
  go_wp2_with fail
  refine (HIM.out _ _ _ _ FX0.out _ _ _ _ KX06.out (by omega) KX16.out (by omega)).mono ?_
  rintro e w7 ⟨vG, qG, rfl, fG, oG, b7⟩
  obtain ⟨aG, cG, rfl⟩ := owns_lenS oG.row
  have hs7 := b7.size
  have BW7 : Below w.heap.size w w7 := BW6.trans (b7.mono BW6.size)
  have KW7 := hide (KW6.out.below b7 (by omega))
  have KX07 := hide (KX06.out.below b7 (by omega))
  have KX17 := hide (KX16.out.below b7 (by omega))
  clear b7 BW6 KW6 KX06 KX16
  have KG7 := hide oG
  have TG : totW qG ≤ 1048576 := Nat.le_trans (good_tot (by have h := asc_tos fG.1 (fun d hd => (fG.good (fun to d h => withinS_good h) d hd).node); simpa [fstsW] using h) (fun d hd => (fG.good (fun to d h => withinS_good h) d hd).len)) (by omega)
  have FG := hide fG
  clear oG fG
  go_wp2_with fail
  refine (eqWayS_own _ _ _ _ _ _ _ _ _ KG7.out KW7.out (FG.out.unique FW.out) TG (by omega) (by omega)).mono ?_
  rintro e w8 ⟨rfl, b8⟩
  have hs8 := b8.size
  have BW8 : Below w.heap.size w w8 := BW7.trans (b8.mono BW7.size)
  have KW8 := hide (KW7.out.below b8 (by omega))
  have KX08 := hide (KX07.out.below b8 (by omega))
  have KX18 := hide (KX17.out.below b8 (by omega))
  have KG8 := hide (KG7.out.below b8 (by omega))
  clear b8 BW7 KW7 KX07 KX17 KG7
  go_wp2_with fail
  refine (HTO0.out _ BW8).mono ?_
  rintro e w9 ⟨vY0, qY0, rfl, fY0, oY0, b9⟩
  obtain ⟨aY0, cY0, rfl⟩ := owns_lenS oY0.row
  have hs9 := b9.size
  have BW9 : Below w.heap.size w w9 := BW8.trans (b9.mono BW8.size)
  have KW9 := hide (KW8.out.below b9 (by omega))
  have KX09 := hide (KX08.out.below b9 (by omega))
  have KX19 := hide (KX18.out.below b9 (by omega))
  have KG9 := hide (KG8.out.below b9 (by omega))
  clear b9 BW8 KW8 KX08 KX18 KG8
  have KY09 := hide oY0
  have TY0 : tot qY0 ≤ 1048576 := by rw [tot_eq fY0]; exact hT0
  have FY0 := hide fY0
  clear oY0 fY0
  go_wp2_with fail
  refine (eqRecS_own _ _ _ _ _ _ _ _ _ KX09.out KY09.out (FX0.out.trans FY0.out.symm) TX0 (by omega) (by omega)).mono ?_
  rintro e w10 ⟨rfl, b10⟩
  have hs10 := b10.size
  have BW10 : Below w.heap.size w w10 := BW9.trans (b10.mono BW9.size)
  have KW10 := hide (KW9.out.below b10 (by omega))
  have KX010 := hide (KX09.out.below b10 (by omega))
  have KX110 := hide (KX19.out.below b10 (by omega))
  have KG10 := hide (KG9.out.below b10 (by omega))
  have KY010 := hide (KY09.out.below b10 (by omega))
  clear b10 BW9 KW9 KX09 KX19 KG9 KY09
  clear KY010
  go_wp2_with fail
  refine (HTO1.out _ BW10).mono ?_
  rintro e w11 ⟨vY1, rfl, oY1, b11⟩
  obtain ⟨aY1, cY1, rfl⟩ := owns_lenS oY1.row
  have hs11 := b11.size
  have BW11 : Below w.heap.size w w11 := BW10.trans (b11.mono BW10.size)
  have KW11 := hide (KW10.out.below b11 (by omega))
  have KX011 := hide (KX010.out.below b11 (by omega))
  have KX111 := hide (KX110.out.below b11 (by omega))
  have KG11 := hide (KG10.out.below b11 (by omega))
  clear b11 BW10 KW10 KX010 KX110 KG10
  have KY111 := hide oY1
  clear oY1
  go_wp2_with fail
  refine (eqInts_own _ _ _ _ _ _ _ _ KX111.out KY111.out hAL (by omega) (by omega)).mono ?_
  rintro e w12 ⟨rfl, b12⟩
  have hs12 := b12.size
  have BW12 : Below w.heap.size w w12 := BW11.trans (b12.mono BW11.size)
  have KW12 := hide (KW11.out.below b12 (by omega))
  have KX012 := hide (KX011.out.below b12 (by omega))
  have KX112 := hide (KX111.out.below b12 (by omega))
  have KG12 := hide (KG11.out.below b12 (by omega))
  have KY112 := hide (KY111.out.below b12 (by omega))
  clear b12 BW11 KW11 KX011 KX111 KG11 KY111
  clear KY112
  go_wp2_with fail
  refine (markRecordS_any _ _ _ _ 1 _ KX012.out TX0 (by omega) (by omega)).mono ?_
  rintro e w13 ⟨rfl, oX0, b13⟩
  have hs13 := b13.size
  have BW13 : Below w.heap.size w w13 := BW12.trans ((b13.below (by omega)).mono (by omega))
  have KW13 := hide (KW12.out.frame b13 (by omega))
  have KX113 := hide (KX112.out.frame b13 (by omega))
  have KG13 := hide (KG12.out.frame b13 (by omega))
  clear b13 BW12 KW12 KX112 KG12
  have KX013 := hide oX0
  clear oX0
  have hmt := mkE_tot 1 qX0
  obtain ⟨mk0, hmk0⟩ : ∃ m, m = mkE 1 qX0 := ⟨_, rfl⟩
  rw [← hmk0] at hmt ⊢
  have hmk1 : 0 ≤ mk0 := by omega
  have hmk2 : mk0 ≤ 100000000 := by omega
  clear hmt hmk0
  clear KX013
  go_wp2_with fail
  refine (markInts_own _ _ _ _ mk0 _ KX113.out hAL (by omega) (by omega)).mono ?_
  rintro e w14 ⟨rfl, oX1, b14⟩
  have hs14 := b14.size
  have BW14 : Below w.heap.size w w14 := BW13.trans ((b14.below (by omega)).mono (by omega))
  have KW14 := hide (KW13.out.frame b14 (by omega))
  have KG14 := hide (KG13.out.frame b14 (by omega))
  clear b14 BW13 KW13 KG13
  have KX114 := hide oX1
  clear oX1
  have hpos : ¬ mk0 + (al1.length : Int) < 0 := by omega
  clear KX114
  go_wp2_with fail
  refine (eqWayS_own _ _ _ _ _ _ _ _ _ KG14.out KW14.out (FG.out.unique FW.out) TG (by omega) (by omega)).mono ?_
  rintro e w15 ⟨rfl, b15⟩
  have hs15 := b15.size
  have BW15 : Below w.heap.size w w15 := BW14.trans (b15.mono BW14.size)
  have KW15 := hide (KW14.out.below b15 (by omega))
  have KG15 := hide (KG14.out.below b15 (by omega))
  clear b15 BW14 KW14 KG14
  go_wp2_with fail
  refine (markWayS_any _ _ _ _ 1 _ KG15.out TG (by omega) (by omega)).mono ?_
  rintro e w16 ⟨rfl, oG, b16⟩
  have hs16 := b16.size
  have BW16 : Below w.heap.size w w16 := BW15.trans ((b16.below (by omega)).mono (by omega))
  have KW16 := hide (KW15.out.frame b16 (by omega))
  clear b16 BW15 KW15
  have KG16 := hide oG
  clear oG
  have hposG := mkWE_pos qG
  go_wp2_with fail
  refine (heldWS_own _ _ _ _ _ KG16.out TG (by omega)).mono ?_
  rintro e w17 ⟨rfl, rfl⟩
  go_wp2_with fail
  refine (HTO0.out _ BW16).mono ?_
  rintro e w17 ⟨vB0, qB0, rfl, fB0, oB0, b17⟩
  obtain ⟨aB0, cB0, rfl⟩ := owns_lenS oB0.row
  have hs17 := b17.size
  have BW17 : Below w.heap.size w w17 := BW16.trans (b17.mono BW16.size)
  have KW17 := hide (KW16.out.below b17 (by omega))
  have KG17 := hide (KG16.out.below b17 (by omega))
  clear b17 BW16 KW16 KG16
  have KB017 := hide oB0
  have TB0 : tot qB0 ≤ 1048576 := by rw [tot_eq fB0]; exact hT0
  have FB0 := hide fB0
  clear oB0 fB0
  go_wp2_with fail
  refine (HTO1.out _ BW17).mono ?_
  rintro e w18 ⟨vB1, rfl, oB1, b18⟩
  obtain ⟨aB1, cB1, rfl⟩ := owns_lenS oB1.row
  have hs18 := b18.size
  have BW18 : Below w.heap.size w w18 := BW17.trans (b18.mono BW17.size)
  have KW18 := hide (KW17.out.below b18 (by omega))
  have KG18 := hide (KG17.out.below b18 (by omega))
  have KB018 := hide (KB017.out.below b18 (by omega))
  clear b18 BW17 KW17 KG17 KB017
  have KB118 := hide oB1
  clear oB1
  go_wp2_with fail
  refine (HIM.out _ _ _ _ FB0.out _ _ _ _ KB018.out (by omega) KB118.out (by omega)).mono ?_
  rintro e w19 ⟨vH, qH, rfl, fH, oH, b19⟩
  obtain ⟨aH, cH, rfl⟩ := owns_lenS oH.row
  have hs19 := b19.size
  have BW19 : Below w.heap.size w w19 := BW18.trans (b19.mono BW18.size)
  have KW19 := hide (KW18.out.below b19 (by omega))
  have KG19 := hide (KG18.out.below b19 (by omega))
  have KB019 := hide (KB018.out.below b19 (by omega))
  have KB119 := hide (KB118.out.below b19 (by omega))
  clear b19 BW18 KW18 KG18 KB018 KB118
  have KH19 := hide oH
  have TH : totW qH ≤ 1048576 := Nat.le_trans (good_tot (by have h := asc_tos fH.1 (fun d hd => (fH.good (fun to d h => withinS_good h) d hd).node); simpa [fstsW] using h) (fun d hd => (fH.good (fun to d h => withinS_good h) d hd).len)) (by omega)
  have FH := hide fH
  clear oH fH
  clear KB019
  clear KB119
  go_wp2_with fail
  refine (eqWayS_own _ _ _ _ _ _ _ _ _ KH19.out KW19.out (FH.out.unique FW.out) TH (by omega) (by omega)).mono ?_
  rintro e w20 ⟨rfl, b20⟩
  have hs20 := b20.size
  have BW20 : Below w.heap.size w w20 := BW19.trans (b20.mono BW19.size)
  have KW20 := hide (KW19.out.below b20 (by omega))
  have KG20 := hide (KG19.out.below b20 (by omega))
  have KH20 := hide (KH19.out.below b20 (by omega))
  clear b20 BW19 KW19 KG19 KH19
  go_wp2_with fail
  refine (heldWS_own _ _ _ _ _ KG20.out TG (by omega)).mono ?_
  rintro e w21 ⟨rfl, rfl⟩
  go_wp2
  go_ret
  exact ⟨rfl, BW20⟩
end Go.Proofs.YtidoieolejkflaaGreat
namespace Go.Proofs.YtidoieolejkflaaGreat
namespace fnExactRoutesWithin
open Go.ChangeShapes Go.WideShapes Go.ChangeAt Go.RowKit
open Go.ChangeMaps (open_string shut_string)
set_option linter.unusedVariables false

theorem own : ownKnob Tryz.prog.godebug = none := by kernel_rfl
theorem laidOut : laidOutB Tryz.prog = true := by kernel_rfl

set_option maxRecDepth 100000 in
theorem lifted (os : Os) (started : os.Started) (H : Type) (enc : TypeId × Value → H) :
    ReturnsInHanded {} Tryz.checked os 5 .any (Rows.fnExactRoutesWithinSpec.pre6 enc Tryz.prog Tryz.f5 Rows.fnExactRoutesWithinRow.domain false) (Rows.fnExactRoutesWithinSpec.post enc Tryz.prog Tryz.f5 false true false false) := by
  refine returnsInHanded_of_change (C := Tryz.checked) own started (by kernel_rfl) Tryz.func5
    (ChangeSpec.witness6 (enc := enc) (C := Tryz.checked) false ⟨#[], #[.slice none 0 0, .slice none 0 0, .int .i64 0], []⟩ 8 (by kernel_rfl) (by kernel_rfl) (by kernel_rfl) (by kernel_rfl)) ?_
  intro W base args ds gs before hval0 hW hcnd _
  have hval : ∀ (j : Nat) t v, Tryz.f5.params[j]? = some t → args[j]? = some v → Value.okWide Tryz.prog W .any base t v := hval0
  have hW' := hW
  obtain ⟨p, q, hA0, hV, rfl, hfz, hnd⟩ := hW
  have hA : DataW.TrodAll enc Tryz.prog W 0 (fun _ => true) true Tryz.f5.params.toList args.toList ds p := hA0
  rw [Tryz.params5] at hA hval
  obtain ⟨v0, vs0, d0, ds0, p0, q0, hargs, rfl, rfl, h0, r0⟩ := trodAll_cons hA
  obtain ⟨v1, vs1, d1, ds1, p1, q1, rfl, rfl, rfl, h1, r1⟩ := trodAll_cons r0
  obtain ⟨v2, vs2, d2, ds2, p2, q2, rfl, rfl, rfl, h2, r2⟩ := trodAll_cons r1
  obtain ⟨rfl, rfl, rfl⟩ := trodAll_nil r2
  obtain rfl : args = #[v0, v1, v2] := by cases args; simp_all
  obtain ⟨rfl, rfl⟩ := trodVars_none hV
  have k0 := h0
  have lt0 : ∀ x ∈ p0, x.block < W.heap.size := by obtain ⟨m, hm⟩ := k0; exact DataW.trod_lt m _ _ _ hm
  obtain ⟨x0, w0⟩ := open_records (hval 0 57 v0 rfl rfl) h0
  have k1 := h1
  have lt1 : ∀ x ∈ p1, x.block < W.heap.size := by obtain ⟨m, hm⟩ := k1; exact DataW.trod_lt m _ _ _ hm
  obtain ⟨x1, w1⟩ := open_intL (hval 1 34 v1 rfl rfl) h1
  obtain ⟨a2, rfl, rfl, rfl, w2⟩ := open_int Tryz.underlying3 (hval 2 3 v2 rfl rfl) h2
  clear hA0 hval0
  refine (fnExactRoutesWithin_walk v0 x0 v1 x1 a2 W w0 w1 w2).mono fun e W' ⟨he, bel⟩ => ?_
  subst he
  exact ⟨_, rfl, _, _, _, [], _, [], hW', trodAll_mk1 (shut_bool Tryz.underlying4 _), (trodAll_cons_mk (Below.trod laidOut (by kernel_rfl) (of_decide_eq_true (by kernel_rfl)) k0 bel lt0) (trodAll_cons_mk (Below.trod laidOut (by kernel_rfl) (of_decide_eq_true (by kernel_rfl)) k1 bel lt1) (trodAll_cons_mk (shut_int Tryz.underlying3 w2) trodAll_mk0))), rfl, bel.frame _, fun h => by cases h⟩

theorem over : Rows.fnExactRoutesWithinRow.holds Tryz.pinned (OpenSpec.ofChange Rows.fnExactRoutesWithinSpec) :=
  OpenClaim.holds_of_wide 5 Tryz.f5 rfl rfl rfl rfl rfl rfl rfl ⟨rfl, rfl, rfl, rfl, rfl⟩ rfl rfl rfl rfl rfl (by kernel_rfl) Tryz.func5 (by kernel_rfl)
    (of_decide_eq_true (by kernel_rfl)) (by unfold Func.isWrapper; first | (rw [if_pos (by decide +kernel)]; kernel_rfl) | (rw [if_neg (by decide +kernel)]; exact ⟨rfl, rfl⟩))
    (fun os started H enc _ => lifted os started H enc)
end fnExactRoutesWithin

theorem fnExactRoutesWithin_proved : Rows.FnExactRoutesWithinSaid := fnExactRoutesWithin.over
#print axioms fnExactRoutesWithin_proved
end Go.Proofs.YtidoieolejkflaaGreat
