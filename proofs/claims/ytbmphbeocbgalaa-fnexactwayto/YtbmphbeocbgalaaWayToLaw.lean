/-
  laws.FnExactWayTo: its walk.
-/
import Derived.Test.YtbmphbeocbgalaaWLawK
import Derived.Test.YtbmphbeocbgalaaWayToS
import Derived.Test.YtbmphbeocbgalaaWayToI
namespace Go.Proofs.Ytbmphbeocbgalaa
open Go.RowKit

set_option linter.unusedSimpArgs false

theorem wayTo_bound {xs : List WayD} {z : Int} {n : Nat} (h : totWD xs ≤ n) : (wayToD xs z).hops.length ≤ n := by
  unfold wayToD
  cases e : xs.find? (fun x => x.to == z) with
  | none => exact Nat.zero_le _
  | some x =>
    have hm := List.mem_of_find?_eq_some e
    have : ∀ ys : List WayD, ∀ y ∈ ys, y.hops.length ≤ totWD ys := by
      intro ys
      induction ys with
      | nil => intro y hy; simp at hy
      | cons a ys ih =>
        intro y hy
        rw [totWD_cons]
        rcases List.mem_cons.1 hy with rfl | h1
        · omega
        · have := ih y h1; omega
    exact Nat.le_trans (this xs x hm) h

set_option maxRecDepth 100000 in
set_option maxHeartbeats 8000000 in
theorem fnExactWayTo_walk (v0 : Value) (ps0 : List WP) (a1 : Int) (w : World) (hx0 : WaysAt w v0 ps0 w.heap.size ∧ ps0.length ≤ maxLen ∧ ∀ p ∈ ps0, p.1.hops.length ≤ maxLen) (_ : (Lit.int .i64 a1).wf = true) :
    Calls Try.prog 4 #[v0, .int .i64 a1] w fun e w' => e = .returned (.bool true) ∧ Below w.heap.size w w' := by
  obtain ⟨hx0, hl0, hm0⟩ := hx0
  obtain ⟨xa0, xc0, rfl⟩ := hx0.shape
  have HX0 := hide hx0
  clear hx0
  have HS0 := hide (fun W q => szWayS_any (.slice xa0 ps0.length xc0) ps0 q W hl0 hm0)
  clear hm0 hl0
  have BW0 : Below w.heap.size w w := Below.refl _ _
  go_enter Try.func4, Try.ntmps4
  go_wp2_with fail
  refine (HS0.out _ 1048576 (by omega) (by omega) ((HX0.out.later BW0 (Nat.le_refl _)).more BW0.size)).mono ?_
  rintro e w1 ⟨z0, rfl, hz0, b1⟩
  have hs1 := b1.size
  have BW1 : Below w.heap.size w w1 := b1
  clear b1
  rcases hz0 with hz0 | ⟨hz0, hy0⟩
  · go_wp2
    go_ret
    exact ⟨rfl, BW1⟩
  have hT0 : totW ps0 ≤ 1048576 := by omega
  clear hy0
  have HTO0 := hide (fun W hb => toWayS_own (.slice xa0 ps0.length xc0) ps0 w W HX0.out hb hT0)
  have hDN0 : (wayToD (fstsW ps0) a1).hops.length ≤ 1048576 := wayTo_bound (by rw [← totW_D]; exact hT0)
  have HEQ := hide eqWay_own
  have HMK := hide markWay_any
  have HHD := hide heldWay_any
  obtain ⟨D, hD⟩ : ∃ D, D = wayToD (fstsW ps0) a1 := ⟨_, rfl⟩
  rw [← hD] at hDN0
  obtain ⟨F, hF⟩ : ∃ F, F = wayToB (fstsW ps0) a1 := ⟨_, rfl⟩
  have HSP := hide (fun v qs lo hi (hf : fstsW qs = fstsW ps0) W hv hh => by have h := swayTo_any v qs lo hi a1 W hv hh (by rw [totW_eq hf]; exact hT0); rw [hf] at h; rw [← hD, ← hF] at h; exact h)
  have HIM := hide (fun v qs lo hi (hf : fstsW qs = fstsW ps0) W hv hh => by have h := iwayTo_any v qs lo hi a1 W hv hh (by rw [totW_eq hf]; exact hT0); rw [hf] at h; rw [← hD, ← hF] at h; exact h)
  have hDN : D.hops.length ≤ 1048576 := hDN0
  clear HX0 HS0 hD hF
  unfold wayC at *
  go_wp2_with fail
  refine (HTO0.out _ BW1).mono ?_
  rintro e w2 ⟨vA0, qA0, rfl, fA0, oA0, b2⟩
  obtain ⟨aA0, cA0, rfl⟩ := owns_lenS oA0.row
  have hs2 := b2.size
  have BW2 : Below w.heap.size w w2 := BW1.trans (b2.mono BW1.size)
  clear b2 BW1
  have KA02 := hide oA0
  have TA0 : totW qA0 ≤ 1048576 := by rw [totW_eq fA0]; exact hT0
  have FA0 := hide fA0
  clear oA0 fA0
  go_wp2_with fail
  refine (HSP.out _ _ _ _ FA0.out _ KA02.out (by omega)).mono ?_
  rintro e w3 ⟨vW, rfl, oW, b3⟩
  obtain ⟨aW, cW, rfl⟩ := owns_lenS oW
  have hs3 := b3.size
  have BW3 : Below w.heap.size w w3 := BW2.trans (b3.mono BW2.size)
  have KA03 := hide (KA02.out.below b3 (by omega))
  clear b3 BW2 KA02
  have bx := wbox_new oW hs3
  unfold wayC at bx
  have b4 : Below w3.heap.size w3 (w3.alloc (.cells #[.int .i64 D.to, .int .i64 D.cost, .slice aW D.hops.length cW] 27)) := (Below.refl _ _).alloc (Nat.le_refl _) _
  obtain ⟨w4, hw4⟩ : ∃ W, W = (w3.alloc (.cells #[.int .i64 D.to, .int .i64 D.cost, .slice aW D.hops.length cW] 27)) := ⟨_, rfl⟩
  obtain ⟨zW, hzW⟩ : ∃ z, z = w3.heap.size := ⟨_, rfl⟩
  rw [← hw4, ← hzW] at bx
  rw [← hw4] at b4
  have hs4 := b4.size
  have BW4 : Below w.heap.size w w4 := BW3.trans (b4.mono BW3.size)
  have KA04 := hide (KA03.out.below b4 (by omega))
  clear b4 BW3 KA03
  have KW4 := hide bx
  clear bx oW
  clear KA04
  go_wp2_with fail
  rw [← hw4, ← hzW]
  clear hw4 hzW
  refine (HTO0.out _ BW4).mono ?_
  rintro e w5 ⟨vX0, qX0, rfl, fX0, oX0, b5⟩
  obtain ⟨aX0, cX0, rfl⟩ := owns_lenS oX0.row
  have hs5 := b5.size
  have BW5 : Below w.heap.size w w5 := BW4.trans (b5.mono BW4.size)
  have KW5 := hide (KW4.out.below b5 (by omega))
  clear b5 BW4 KW4
  have KX05 := hide oX0
  have TX0 : totW qX0 ≤ 1048576 := by rw [totW_eq fX0]; exact hT0
  have FX0 := hide fX0
  clear oX0 fX0
  go_wp2_with fail
  refine (HIM.out _ _ _ _ FX0.out _ KX05.out (by omega)).mono ?_
  rintro e w6 ⟨vG, rfl, oG, b6⟩
  obtain ⟨aG, cG, rfl⟩ := owns_lenS oG
  have hs6 := b6.size
  have BW6 : Below w.heap.size w w6 := BW5.trans (b6.mono BW5.size)
  have KW6 := hide (KW5.out.below b6 (by omega))
  have KX06 := hide (KX05.out.below b6 (by omega))
  clear b6 BW5 KW5 KX05
  have bx := wbox_new oG hs6
  unfold wayC at bx
  have b7 : Below w6.heap.size w6 (w6.alloc (.cells #[.int .i64 D.to, .int .i64 D.cost, .slice aG D.hops.length cG] 27)) := (Below.refl _ _).alloc (Nat.le_refl _) _
  obtain ⟨w7, hw7⟩ : ∃ W, W = (w6.alloc (.cells #[.int .i64 D.to, .int .i64 D.cost, .slice aG D.hops.length cG] 27)) := ⟨_, rfl⟩
  obtain ⟨zG, hzG⟩ : ∃ z, z = w6.heap.size := ⟨_, rfl⟩
  rw [← hw7, ← hzG] at bx
  rw [← hw7] at b7
  have hs7 := b7.size
  have BW7 : Below w.heap.size w w7 := BW6.trans (b7.mono BW6.size)
  have KW7 := hide (KW6.out.below b7 (by omega))
  have KX07 := hide (KX06.out.below b7 (by omega))
  clear b7 BW6 KW6 KX06
  have KG7 := hide bx
  clear bx oG
  have hb := KG7.out.b.box
  unfold wayC at hb
  have s0 := cells_at hb 0
  have s1 := cells_at hb 1
  have s2 := cells_at hb 2
  simp at s0 s1 s2
  clear hb
  have hb := KW7.out.b.box
  unfold wayC at hb
  have t0 := cells_at hb 0
  have t1 := cells_at hb 1
  have t2 := cells_at hb 2
  simp at t0 t1 t2
  clear hb
  rw [hw7] at s0 s1 s2
  rw [hzG] at s0 s1 s2
  rw [hw7] at t0 t1 t2
  go_wp2_with fail
  rw [← hw7, ← hzG]
  clear hw7 hzG
  refine (HEQ.out _ _ D _ KG7.out.wayAt KW7.out.wayAt hDN).mono ?_
  rintro e w8 ⟨rfl, b8⟩
  clear s0 s1 s2 t0 t1 t2
  have hs8 := b8.size
  have BW8 : Below w.heap.size w w8 := BW7.trans (b8.mono BW7.size)
  have KW8 := hide (KW7.out.below b8 (by omega))
  have KX08 := hide (KX07.out.below b8 (by omega))
  have KG8 := hide (KG7.out.below b8 (by omega))
  clear b8 BW7 KW7 KX07 KG7
  go_wp2_with fail
  refine (HTO0.out _ BW8).mono ?_
  rintro e w9 ⟨vY0, qY0, rfl, fY0, oY0, b9⟩
  obtain ⟨aY0, cY0, rfl⟩ := owns_lenS oY0.row
  have hs9 := b9.size
  have BW9 : Below w.heap.size w w9 := BW8.trans (b9.mono BW8.size)
  have KW9 := hide (KW8.out.below b9 (by omega))
  have KX09 := hide (KX08.out.below b9 (by omega))
  have KG9 := hide (KG8.out.below b9 (by omega))
  clear b9 BW8 KW8 KX08 KG8
  have KY09 := hide oY0
  have TY0 : totW qY0 ≤ 1048576 := by rw [totW_eq fY0]; exact hT0
  have FY0 := hide fY0
  clear oY0 fY0
  go_wp2_with fail
  refine (eqWayS_own _ _ _ _ _ _ _ _ _ KX09.out KY09.out (FX0.out.trans FY0.out.symm) TX0 (by omega) (by omega)).mono ?_
  rintro e w10 ⟨rfl, b10⟩
  have hs10 := b10.size
  have BW10 : Below w.heap.size w w10 := BW9.trans (b10.mono BW9.size)
  have KW10 := hide (KW9.out.below b10 (by omega))
  have KX010 := hide (KX09.out.below b10 (by omega))
  have KG10 := hide (KG9.out.below b10 (by omega))
  have KY010 := hide (KY09.out.below b10 (by omega))
  clear b10 BW9 KW9 KX09 KG9 KY09
  clear KY010
  go_wp2_with fail
  refine (markWayS_any _ _ _ _ 1 _ KX010.out TX0 (by omega) (by omega)).mono ?_
  rintro e w11 ⟨rfl, oX0, b11⟩
  have hs11 := b11.size
  have BW11 : Below w.heap.size w w11 := BW10.trans ((b11.below (by omega)).mono (by omega))
  have KW11 := hide (KW10.out.frame b11 (by omega))
  have KG11 := hide (KG10.out.frame b11 (by omega))
  clear b11 BW10 KW10 KG10
  have KX011 := hide oX0
  clear oX0
  have hpos := mkWE_pos qX0
  clear KX011
  have hb := KG11.out.b.box
  unfold wayC at hb
  have s0 := cells_at hb 0
  have s1 := cells_at hb 1
  have s2 := cells_at hb 2
  simp at s0 s1 s2
  clear hb
  have hb := KW11.out.b.box
  unfold wayC at hb
  have t0 := cells_at hb 0
  have t1 := cells_at hb 1
  have t2 := cells_at hb 2
  simp at t0 t1 t2
  clear hb
  go_wp2_with fail
  refine (HEQ.out _ _ D _ KG11.out.wayAt KW11.out.wayAt hDN).mono ?_
  rintro e w12 ⟨rfl, b12⟩
  clear s0 s1 s2 t0 t1 t2
  have hs12 := b12.size
  have BW12 : Below w.heap.size w w12 := BW11.trans (b12.mono BW11.size)
  have KW12 := hide (KW11.out.below b12 (by omega))
  have KG12 := hide (KG11.out.below b12 (by omega))
  clear b12 BW11 KW11 KG11
  have hb := KG12.out.b.box
  unfold wayC at hb
  have t0 := cells_at hb 0
  have t1 := cells_at hb 1
  have t2 := cells_at hb 2
  simp at t0 t1 t2
  clear hb
  go_wp2_with fail
  refine (HMK.out _ D _ 1 _ KG12.out.b.own hDN (by omega) (by omega)).mono ?_
  rintro e w13 ⟨rfl, og, k13⟩
  have b13 := Frame.grown k13 (fun k hk => ⟨(KG12.out.b.own.lt k hk).1, KG12.out.uh k hk⟩)
  have hgb : w13.heap[zG]? = some (.cells #[.int .i64 D.to, .int .i64 D.cost, .slice aG D.hops.length cG] 27) := (k13.block _ (lt_of_heap KG12.out.b.box) (own_type_ne2 KG12.out.b.own KG12.out.b.box (by decide))).trans KG12.out.b.box
  clear k13
  clear t0 t1 t2
  have hs13 := b13.size
  have BW13 : Below w.heap.size w w13 := BW12.trans ((b13.below (by omega)).mono (by omega))
  have KW13 := hide (KW12.out.frame b13 (by omega))
  clear b13 BW12 KW12
  have GB13 := hide hgb
  have GO13 := hide og
  clear hgb og
  clear KG12
  have t0 := cells_at GB13.out 0
  have t1 := cells_at GB13.out 1
  have t2 := cells_at GB13.out 2
  simp at t0 t1 t2
  go_wp2_with fail
  refine (HHD.out _ D D.hops.length 1 _ (HopsM GO13.out) hDN (by omega) (by omega)).mono ?_
  rintro e w14 ⟨rfl, b14⟩
  clear t0 t1 t2
  have GB14 := hide ((b14.block _ (lt_of_heap GB13.out)).trans GB13.out)
  have GO14 := hide (owns_below GO13.out b14 (Nat.le_refl _))
  clear GB13 GO13
  have hs14 := b14.size
  have BW14 : Below w.heap.size w w14 := BW13.trans (b14.mono BW13.size)
  have KW14 := hide (KW13.out.below b14 (by omega))
  clear b14 BW13 KW13
  have hpos2 : ¬ 1 + (D.hops.length : Int) < 0 := by omega
  go_wp2_with fail
  refine (HTO0.out _ BW14).mono ?_
  rintro e w15 ⟨vB0, qB0, rfl, fB0, oB0, b15⟩
  obtain ⟨aB0, cB0, rfl⟩ := owns_lenS oB0.row
  have GB15 := hide ((b15.block _ (lt_of_heap GB14.out)).trans GB14.out)
  have GO15 := hide (owns_below GO14.out b15 (Nat.le_refl _))
  clear GB14 GO14
  have hs15 := b15.size
  have BW15 : Below w.heap.size w w15 := BW14.trans (b15.mono BW14.size)
  have KW15 := hide (KW14.out.below b15 (by omega))
  clear b15 BW14 KW14
  have KB015 := hide oB0
  have TB0 : totW qB0 ≤ 1048576 := by rw [totW_eq fB0]; exact hT0
  have FB0 := hide fB0
  clear oB0 fB0
  go_wp2_with fail
  refine (HIM.out _ _ _ _ FB0.out _ KB015.out (by omega)).mono ?_
  rintro e w16 ⟨vH, rfl, oH, b16⟩
  obtain ⟨aH, cH, rfl⟩ := owns_lenS oH
  have GB16 := hide ((b16.block _ (lt_of_heap GB15.out)).trans GB15.out)
  have GO16 := hide (owns_below GO15.out b16 (Nat.le_refl _))
  clear GB15 GO15
  have hs16 := b16.size
  have BW16 : Below w.heap.size w w16 := BW15.trans (b16.mono BW15.size)
  have KW16 := hide (KW15.out.below b16 (by omega))
  have KB016 := hide (KB015.out.below b16 (by omega))
  clear b16 BW15 KW15 KB015
  have bx := wbox_new oH hs16
  unfold wayC at bx
  have b17 : Below w16.heap.size w16 (w16.alloc (.cells #[.int .i64 D.to, .int .i64 D.cost, .slice aH D.hops.length cH] 27)) := (Below.refl _ _).alloc (Nat.le_refl _) _
  obtain ⟨w17, hw17⟩ : ∃ W, W = (w16.alloc (.cells #[.int .i64 D.to, .int .i64 D.cost, .slice aH D.hops.length cH] 27)) := ⟨_, rfl⟩
  obtain ⟨zH, hzH⟩ : ∃ z, z = w16.heap.size := ⟨_, rfl⟩
  rw [← hw17, ← hzH] at bx
  rw [← hw17] at b17
  have GB17 := hide ((b17.block _ (lt_of_heap GB16.out)).trans GB16.out)
  have GO17 := hide (owns_below GO16.out b17 (Nat.le_refl _))
  clear GB16 GO16
  have hs17 := b17.size
  have BW17 : Below w.heap.size w w17 := BW16.trans (b17.mono BW16.size)
  have KW17 := hide (KW16.out.below b17 (by omega))
  have KB017 := hide (KB016.out.below b17 (by omega))
  clear b17 BW16 KW16 KB016
  have KH17 := hide bx
  clear bx oH
  clear KB017
  have hb := KH17.out.b.box
  unfold wayC at hb
  have s0 := cells_at hb 0
  have s1 := cells_at hb 1
  have s2 := cells_at hb 2
  simp at s0 s1 s2
  clear hb
  have hb := KW17.out.b.box
  unfold wayC at hb
  have t0 := cells_at hb 0
  have t1 := cells_at hb 1
  have t2 := cells_at hb 2
  simp at t0 t1 t2
  clear hb
  rw [hw17] at s0 s1 s2
  rw [hzH] at s0 s1 s2
  rw [hw17] at t0 t1 t2
  go_wp2_with fail
  rw [← hw17, ← hzH]
  clear hw17 hzH
  refine (HEQ.out _ _ D _ KH17.out.wayAt KW17.out.wayAt hDN).mono ?_
  rintro e w18 ⟨rfl, b18⟩
  clear s0 s1 s2 t0 t1 t2
  have GB18 := hide ((b18.block _ (lt_of_heap GB17.out)).trans GB17.out)
  have GO18 := hide (owns_below GO17.out b18 (Nat.le_refl _))
  clear GB17 GO17
  have hs18 := b18.size
  have BW18 : Below w.heap.size w w18 := BW17.trans (b18.mono BW17.size)
  have KW18 := hide (KW17.out.below b18 (by omega))
  have KH18 := hide (KH17.out.below b18 (by omega))
  clear b18 BW17 KW17 KH17
  have t0 := cells_at GB18.out 0
  have t1 := cells_at GB18.out 1
  have t2 := cells_at GB18.out 2
  simp at t0 t1 t2
  go_wp2_with fail
  refine (HHD.out _ D D.hops.length 1 _ (HopsM GO18.out) hDN (by omega) (by omega)).mono ?_
  rintro e w19 ⟨rfl, b19⟩
  clear t0 t1 t2
  have GB19 := hide ((b19.block _ (lt_of_heap GB18.out)).trans GB18.out)
  have GO19 := hide (owns_below GO18.out b19 (Nat.le_refl _))
  clear GB18 GO18
  have hs19 := b19.size
  have BW19 : Below w.heap.size w w19 := BW18.trans (b19.mono BW18.size)
  have KW19 := hide (KW18.out.below b19 (by omega))
  have KH19 := hide (KH18.out.below b19 (by omega))
  clear b19 BW18 KW18 KH18
  go_wp2
  go_ret
  exact ⟨rfl, BW19⟩
end Go.Proofs.Ytbmphbeocbgalaa
