/-
  laws.FnExactInstall: its walk.
-/
import Derived.Test.YtohjphhocdgpgaaBoxK
import Derived.Test.YtohjphhocdgpgaaInstT
namespace Go.Proofs.Ytohjphhocdgpgaa
open Go.RowKit

set_option linter.unusedSimpArgs false

theorem recAt_of5 {W : World} {lo : Nat} {x : RecD} {u : Value} (h : W.ownsRow lo 67 2 u x.near.length (flat nrE x.near)) : RecAt W (.agg (recC x u)) x W.heap.size := ⟨u, rfl, owns_rowAt h⟩

set_option maxRecDepth 100000 in
set_option maxHeartbeats 20000000 in
theorem fnExactInstall_walk (v0 : Value) (ps0 : List RP) (v1 : Value) (x : RecD) (w : World) (hx0 : RecsAt w v0 ps0 w.heap.size ∧ ps0.length ≤ maxLen ∧ ∀ p ∈ ps0, p.1.near.length ≤ maxLen) (hx1 : RecAt w v1 x w.heap.size ∧ x.near.length ≤ maxLen) :
    Calls Try.prog 11 #[v0, v1] w fun e w' => e = .returned (.bool true) ∧ Below w.heap.size w w' := by
  obtain ⟨hx0, hl0, hm0⟩ := hx0
  obtain ⟨xa0, xc0, rfl⟩ := hx0.shape
  obtain ⟨hx1, hl1⟩ := hx1
  have hl1 : (x.near.length : Int) ≤ 9223372036854775807 := by have : maxLen = 9223372036854775807 := rfl; omega
  have hxx := hx1
  obtain ⟨vn, rfl, hnn⟩ := hx1
  obtain ⟨ra, rc, rfl⟩ := hnn.shape
  clear hnn
  have HX0 := hide hx0
  have HX1 := hide hxx
  clear hx0 hxx
  have HS0 := hide (fun W q => szRecordS_any (.slice xa0 ps0.length xc0) ps0 q W hl0 hm0)
  have HS1 := hide (fun W q => szRecord_any x ra x.near.length rc q W hl1)
  clear hm0 hl0 hl1
  unfold recC at *
  have BW0 : Below w.heap.size w (w.alloc (.cells #[.int .i64 x.area, .int .i64 x.kind, .int .i64 x.owner, .int .i64 x.key, .int .i64 x.seq, .slice ra x.near.length rc, .int .i64 x.cost, .bool x.far] 39)) := (Below.refl _ _).alloc (Nat.le_refl _) _
  have KB0 := hide (heap_alloc_new w (.cells #[.int .i64 x.area, .int .i64 x.kind, .int .i64 x.owner, .int .i64 x.key, .int .i64 x.seq, .slice ra x.near.length rc, .int .i64 x.cost, .bool x.far] 39))
  obtain ⟨w0, hw0⟩ : ∃ w0, w0 = w.alloc (.cells #[.int .i64 x.area, .int .i64 x.kind, .int .i64 x.owner, .int .i64 x.key, .int .i64 x.seq, .slice ra x.near.length rc, .int .i64 x.cost, .bool x.far] 39) := ⟨_, rfl⟩
  rw [← hw0] at BW0 KB0
  go_enter Try.func11, Try.ntmps11
  go_wp2_with fail
  rw [← hw0]
  clear hw0
  refine (HS0.out _ 1048576 (by omega) (by omega) ((HX0.out.later BW0 (Nat.le_refl _)).more BW0.size)).mono ?_
  rintro e w1 ⟨z0, rfl, hz0, b1⟩
  have BW1 : Below w.heap.size w w1 := BW0.trans (b1.mono BW0.size)
  have KB1 := hide ((b1.block _ (lt_of_heap KB0.out)).trans KB0.out)
  clear b1 BW0 KB0
  rcases hz0 with hz0 | ⟨hz0, hy0⟩
  · go_wp2
    go_ret
    exact ⟨rfl, BW1⟩
  have hT0 : tot ps0 ≤ 1048576 := by omega
  have hzu0 : z0 ≤ 1048576 := by omega
  have HY0 := hide hy0
  clear hy0
  have s0 := cells_at KB1.out 0
  have s1 := cells_at KB1.out 1
  have s2 := cells_at KB1.out 2
  have s3 := cells_at KB1.out 3
  have s4 := cells_at KB1.out 4
  have s5 := cells_at KB1.out 5
  have s6 := cells_at KB1.out 6
  have s7 := cells_at KB1.out 7
  simp at s0 s1 s2 s3 s4 s5 s6 s7
  obtain ⟨z1, hz1e⟩ : ∃ z1, z1 = szR z0 x.near.length := ⟨_, rfl⟩
  have HS1b := hide (fun W => HS1.out W z0 hz0 hzu0)
  rw [← hz1e] at HS1b
  have hzz := szR_neg (q := z0) (n := x.near.length)
  rw [← hz1e] at hzz
  clear hz1e HS1
  go_wp2_with fail
  refine (HS1b.out _).mono ?_
  rintro e w2 ⟨rfl, b2⟩
  have BW2 : Below w.heap.size w w2 := BW1.trans (b2.mono BW1.size)
  have KB2 := hide ((b2.block _ (lt_of_heap KB1.out)).trans KB1.out)
  clear b2 BW1 KB1 HS1b
  rcases hzz with hz1 | ⟨hz1, hy1⟩
  · go_wp2
    go_ret
    exact ⟨rfl, BW2⟩
  have hT1 : x.near.length ≤ 1048576 := by have := HY0.out; omega
  clear hy1 s0 s1 s2 s3 s4 s5 s6 s7
  have HTO0 := hide (fun W hb => toRecS_own (.slice xa0 ps0.length xc0) ps0 w W HX0.out hb hT0)
  have HTO1 := hide (fun W hb => toRec_own _ x w W HX1.out hb hT1)
  have hTR := Nat.le_trans (insD_tot (fsts ps0) x) (show 1057 ≤ 1048576 by omega)
  have HEQ := hide eqRec_own
  have HMK := hide markRecord_any
  obtain ⟨L, hD⟩ : ∃ D, D = insD (fsts ps0) x := ⟨_, rfl⟩
  rw [← hD] at hTR
  obtain ⟨F, hF⟩ : ∃ F, F = insB (fsts ps0) x := ⟨_, rfl⟩
  have HSP := hide (fun v qs lo hi (hf : fsts qs = fsts ps0) u rlo W (hv : RecsOwn W lo hi v qs) (hh : hi ≤ W.heap.size) (hr : W.ownsRow rlo 67 2 u x.near.length (flat nrE x.near)) => by have h := sInst_any v qs W.heap.size (x, u) W (hv.in.wide hh) (Nat.le_refl _) (by rw [tot_eq hf]; exact hT0) ⟨owns_baseS hr (Nat.zero_le _), fun k hk => (hr.lt k hk).2⟩ hT1; rw [hf] at h; simp only [] at h; rw [← hD, ← hF] at h; exact h)
  have HIM := hide (fun v qs lo hi (hf : fsts qs = fsts ps0) u rlo W (hv : RecsOwn W lo hi v qs) (hh : hi ≤ W.heap.size) (hr : W.ownsRow rlo 67 2 u x.near.length (flat nrE x.near)) => by have h := iinst_any v qs W.heap.size (x, u) W (hv.in.wide hh) (Nat.le_refl _) (by rw [tot_eq hf]; exact hT0) ⟨owns_baseS hr (Nat.zero_le _), fun k hk => (hr.lt k hk).2⟩ hT1; rw [hf] at h; simp only [] at h; rw [← hD, ← hF] at h; exact h)
  clear HX0 HX1 HS0 hD hF
  unfold recC at *
  have s0 := cells_at KB2.out 0
  have s1 := cells_at KB2.out 1
  have s2 := cells_at KB2.out 2
  have s3 := cells_at KB2.out 3
  have s4 := cells_at KB2.out 4
  have s5 := cells_at KB2.out 5
  have s6 := cells_at KB2.out 6
  have s7 := cells_at KB2.out 7
  simp at s0 s1 s2 s3 s4 s5 s6 s7
  have hq2 := lt_of_heap KB2.out
  have hzwl := lt_of_heap KB2.out
  have BWD : Below w.heap.size w w2.drew := BW2.drew
  go_wp2
  go_region_held3 (fun W => W.cell? ⟨w.heap.size, 0, none⟩ = some (.int .i64 x.area) ∧ W.cell? ⟨w.heap.size, 1, none⟩ = some (.int .i64 x.kind) ∧ W.cell? ⟨w.heap.size, 2, none⟩ = some (.int .i64 x.owner) ∧ W.cell? ⟨w.heap.size, 3, none⟩ = some (.int .i64 x.key) ∧ W.cell? ⟨w.heap.size, 4, none⟩ = some (.int .i64 x.seq) ∧ W.cell? ⟨w.heap.size, 5, none⟩ = some (.slice ra x.near.length rc) ∧ W.cell? ⟨w.heap.size, 6, none⟩ = some (.int .i64 x.cost) ∧ W.cell? ⟨w.heap.size, 7, none⟩ = some (.bool x.far)) (first | go_keep | (refine ⟨?_, ?_, ?_, ?_, ?_, ?_, ?_, ?_⟩ <;> (rw [bW.cell (Nat.lt_of_lt_of_le (by assumption) (Nat.le_trans bA.size bR.size)), bR.cell (Nat.lt_of_lt_of_le (by assumption) bA.size), bA.cell (by assumption)]; assumption)) | (refine ⟨?_, ?_, ?_, ?_, ?_, ?_, ?_, ?_⟩ <;> (rw [bR.cell (Nat.lt_of_lt_of_le (by assumption) bA.size), bA.cell (by assumption)]; assumption)) | (refine ⟨?_, ?_, ?_, ?_, ?_, ?_, ?_, ?_⟩ <;> (rw [bA.cell (by assumption)]; assumption))) (first | (go_at_call 43; refine (HTO0.out _ BWD).mono ?_; rintro e wa ⟨vA, qA, rfl, fA, oA, bA⟩; obtain ⟨aA, cA, rfl⟩ := owns_lenS oA.row) | (go_at_call 32; refine (HTO1.out _ (BWD.trans (bA.mono BWD.size))).mono ?_; rintro e wb ⟨vR, rfl, oR, bR⟩; obtain ⟨aR, cR, rfl⟩ := owns_lenS oR) | (go_at_call 49; refine (HSP.out _ qA _ _ fA _ _ _ (oA.below bR (Nat.le_refl _)) bR.size oR).mono ?_; rintro e w3 ⟨vW, qW, rfl, fW, oW, bW⟩; obtain ⟨aW, cW, rfl⟩ := owns_lenS oW.row))
  clear s0 s1 s2 s3 s4 s5 s6 s7
  have b3 : Below w2.heap.size w2 w3 := (Below.refl _ _).drew.trans ((bA.trans (bR.mono bA.size)).trans (bW.mono (Nat.le_trans bA.size bR.size)))
  have oW2 := oW.wide (show w2.heap.size ≤ wb.heap.size from Nat.le_trans bA.size bR.size) (Nat.le_refl _)
  clear bA bR bW oA oR fA oW hzwl BWD
  have KB3 := hide ((b3.block _ (lt_of_heap KB2.out)).trans KB2.out)
  clear KB2
  have hs3 := b3.size
  have BW3 : Below w.heap.size w w3 := BW2.trans (b3.mono BW2.size)
  clear b3 BW2
  have KW3 := hide oW2
  have TW : tot qW ≤ 1048576 := by rw [tot_D, fW]; exact hTR
  have FW := hide fW
  clear oW2 fW
  go_wp2_with fail
  refine (HTO0.out _ BW3).mono ?_
  rintro e w4 ⟨vX0, qX0, rfl, fX0, oX0, b4⟩
  obtain ⟨aX0, cX0, rfl⟩ := owns_lenS oX0.row
  have KB4 := hide ((b4.block _ (lt_of_heap KB3.out)).trans KB3.out)
  clear KB3
  have hs4 := b4.size
  have BW4 : Below w.heap.size w w4 := BW3.trans (b4.mono BW3.size)
  have KW4 := hide (KW3.out.below b4 (by omega))
  clear b4 BW3 KW3
  have KX04 := hide oX0
  have TX0 : tot qX0 ≤ 1048576 := by rw [tot_eq fX0]; exact hT0
  have FX0 := hide fX0
  clear oX0 fX0
  have s0 := cells_at KB4.out 0
  have s1 := cells_at KB4.out 1
  have s2 := cells_at KB4.out 2
  have s3 := cells_at KB4.out 3
  have s4 := cells_at KB4.out 4
  have s5 := cells_at KB4.out 5
  have s6 := cells_at KB4.out 6
  have s7 := cells_at KB4.out 7
  simp at s0 s1 s2 s3 s4 s5 s6 s7
  go_wp2_with fail
  refine (HTO1.out _ BW4).mono ?_
  rintro e w5 ⟨v1x, rfl, o1x, b5⟩
  obtain ⟨xa1, xc1, rfl⟩ := owns_lenS o1x
  clear s0 s1 s2 s3 s4 s5 s6 s7
  have KB5 := hide ((b5.block _ (lt_of_heap KB4.out)).trans KB4.out)
  clear KB4
  have hs5 := b5.size
  have BW5 : Below w.heap.size w w5 := BW4.trans (b5.mono BW4.size)
  have KW5 := hide (KW4.out.below b5 (by omega))
  have KX05 := hide (KX04.out.below b5 (by omega))
  clear b5 BW4 KW4 KX04
  have bx1 := box_new o1x hs5
  unfold recC at bx1
  have b6 : Below w5.heap.size w5 (w5.alloc (.cells #[.int .i64 x.area, .int .i64 x.kind, .int .i64 x.owner, .int .i64 x.key, .int .i64 x.seq, .slice xa1 x.near.length xc1, .int .i64 x.cost, .bool x.far] 26)) := (Below.refl _ _).alloc (Nat.le_refl _) _
  obtain ⟨w6, hw6⟩ : ∃ W, W = (w5.alloc (.cells #[.int .i64 x.area, .int .i64 x.kind, .int .i64 x.owner, .int .i64 x.key, .int .i64 x.seq, .slice xa1 x.near.length xc1, .int .i64 x.cost, .bool x.far] 26)) := ⟨_, rfl⟩
  obtain ⟨zX, hzX⟩ : ∃ z, z = w5.heap.size := ⟨_, rfl⟩
  rw [← hw6, ← hzX] at bx1
  rw [← hw6] at b6
  unfold recC at *
  have KB6 := hide ((b6.block _ (lt_of_heap KB5.out)).trans KB5.out)
  clear KB5
  have hs6 := b6.size
  have BW6 : Below w.heap.size w w6 := BW5.trans (b6.mono BW5.size)
  have KW6 := hide (KW5.out.below b6 (by omega))
  have KX06 := hide (KX05.out.below b6 (by omega))
  clear b6 BW5 KW5 KX05
  have KX16 := hide bx1
  clear bx1 o1x
  have hb := KX16.out.b.box
  unfold recC at hb
  have t0 := cells_at hb 0
  have t1 := cells_at hb 1
  have t2 := cells_at hb 2
  have t3 := cells_at hb 3
  have t4 := cells_at hb 4
  have t5 := cells_at hb 5
  have t6 := cells_at hb 6
  have t7 := cells_at hb 7
  simp at t0 t1 t2 t3 t4 t5 t6 t7
  clear hb
  rw [hw6] at t0 t1 t2 t3 t4 t5 t6 t7
  rw [hzX] at t0 t1 t2 t3 t4 t5 t6 t7
  go_wp2_with fail
  rw [← hw6, ← hzX]
  clear hw6 hzX
  refine (HIM.out _ qX0 _ _ FX0.out _ _ _ KX06.out (by omega) KX16.out.b.own).mono ?_
  rintro e w7 ⟨vG, qG, rfl, fG, oG, b7⟩
  obtain ⟨aG, cG, rfl⟩ := owns_lenS oG.row
  clear t0 t1 t2 t3 t4 t5 t6 t7
  have KB7 := hide ((b7.block _ (lt_of_heap KB6.out)).trans KB6.out)
  clear KB6
  have hs7 := b7.size
  have BW7 : Below w.heap.size w w7 := BW6.trans (b7.mono BW6.size)
  have KW7 := hide (KW6.out.below b7 (by omega))
  have KX07 := hide (KX06.out.below b7 (by omega))
  have KX17 := hide (KX16.out.below b7 (by omega))
  clear b7 BW6 KW6 KX06 KX16
  have KG7 := hide oG
  have TG : tot qG ≤ 1048576 := by rw [tot_D, fG]; exact hTR
  have FG := hide fG
  clear oG fG
  go_wp2_with fail
  refine (eqRecS_own _ _ _ _ _ _ _ _ _ KG7.out KW7.out (FG.out.trans FW.out.symm) TG (by omega) (by omega)).mono ?_
  rintro e w8 ⟨rfl, b8⟩
  have KB8 := hide ((b8.block _ (lt_of_heap KB7.out)).trans KB7.out)
  clear KB7
  have hs8 := b8.size
  have BW8 : Below w.heap.size w w8 := BW7.trans (b8.mono BW7.size)
  have KW8 := hide (KW7.out.below b8 (by omega))
  have KX08 := hide (KX07.out.below b8 (by omega))
  have KX18 := hide (KX17.out.below b8 (by omega))
  have KG8 := hide (KG7.out.below b8 (by omega))
  clear b8 BW7 KW7 KX07 KX17 KG7
  go_wp2_with fail
  refine (HTO0.out _ BW8).mono ?_
  rintro e w9 ⟨vY0, qY0, rfl, fY0, oY0, b9⟩
  obtain ⟨aY0, cY0, rfl⟩ := owns_lenS oY0.row
  have KB9 := hide ((b9.block _ (lt_of_heap KB8.out)).trans KB8.out)
  clear KB8
  have hs9 := b9.size
  have BW9 : Below w.heap.size w w9 := BW8.trans (b9.mono BW8.size)
  have KW9 := hide (KW8.out.below b9 (by omega))
  have KX09 := hide (KX08.out.below b9 (by omega))
  have KX19 := hide (KX18.out.below b9 (by omega))
  have KG9 := hide (KG8.out.below b9 (by omega))
  clear b9 BW8 KW8 KX08 KX18 KG8
  have KY09 := hide oY0
  have TY0 : tot qY0 ≤ 1048576 := by rw [tot_eq fY0]; exact hT0
  have FY0 := hide fY0
  clear oY0 fY0
  go_wp2_with fail
  refine (eqRecS_own _ _ _ _ _ _ _ _ _ KX09.out KY09.out (FX0.out.trans FY0.out.symm) TX0 (by omega) (by omega)).mono ?_
  rintro e w10 ⟨rfl, b10⟩
  have KB10 := hide ((b10.block _ (lt_of_heap KB9.out)).trans KB9.out)
  clear KB9
  have hs10 := b10.size
  have BW10 : Below w.heap.size w w10 := BW9.trans (b10.mono BW9.size)
  have KW10 := hide (KW9.out.below b10 (by omega))
  have KX010 := hide (KX09.out.below b10 (by omega))
  have KX110 := hide (KX19.out.below b10 (by omega))
  have KG10 := hide (KG9.out.below b10 (by omega))
  have KY010 := hide (KY09.out.below b10 (by omega))
  clear b10 BW9 KW9 KX09 KX19 KG9 KY09
  clear KY010
  have hb := KX110.out.b.box
  unfold recC at hb
  have t0 := cells_at hb 0
  have t1 := cells_at hb 1
  have t2 := cells_at hb 2
  have t3 := cells_at hb 3
  have t4 := cells_at hb 4
  have t5 := cells_at hb 5
  have t6 := cells_at hb 6
  have t7 := cells_at hb 7
  simp at t0 t1 t2 t3 t4 t5 t6 t7
  clear hb
  have s0 := cells_at KB10.out 0
  have s1 := cells_at KB10.out 1
  have s2 := cells_at KB10.out 2
  have s3 := cells_at KB10.out 3
  have s4 := cells_at KB10.out 4
  have s5 := cells_at KB10.out 5
  have s6 := cells_at KB10.out 6
  have s7 := cells_at KB10.out 7
  simp at s0 s1 s2 s3 s4 s5 s6 s7
  have hzXl := lt_of_heap KX110.out.b.box
  have hzwl := lt_of_heap KB10.out
  have KXD := hide (KX110.out.below ((Below.refl w10.heap.size w10).drew) (by omega))
  have BWD : Below w.heap.size w w10.drew := BW10.drew
  go_wp2
  go_region_held3 (fun W => W.cell? ⟨w.heap.size, 0, none⟩ = some (.int .i64 x.area) ∧ W.cell? ⟨w.heap.size, 1, none⟩ = some (.int .i64 x.kind) ∧ W.cell? ⟨w.heap.size, 2, none⟩ = some (.int .i64 x.owner) ∧ W.cell? ⟨w.heap.size, 3, none⟩ = some (.int .i64 x.key) ∧ W.cell? ⟨w.heap.size, 4, none⟩ = some (.int .i64 x.seq) ∧ W.cell? ⟨w.heap.size, 5, none⟩ = some (.slice ra x.near.length rc) ∧ W.cell? ⟨w.heap.size, 6, none⟩ = some (.int .i64 x.cost) ∧ W.cell? ⟨w.heap.size, 7, none⟩ = some (.bool x.far) ∧ W.cell? ⟨zX, 0, none⟩ = some (.int .i64 x.area) ∧ W.cell? ⟨zX, 1, none⟩ = some (.int .i64 x.kind) ∧ W.cell? ⟨zX, 2, none⟩ = some (.int .i64 x.owner) ∧ W.cell? ⟨zX, 3, none⟩ = some (.int .i64 x.key) ∧ W.cell? ⟨zX, 4, none⟩ = some (.int .i64 x.seq) ∧ W.cell? ⟨zX, 5, none⟩ = some (.slice xa1 x.near.length xc1) ∧ W.cell? ⟨zX, 6, none⟩ = some (.int .i64 x.cost) ∧ W.cell? ⟨zX, 7, none⟩ = some (.bool x.far)) (first | go_keep | (refine ⟨?_, ?_, ?_, ?_, ?_, ?_, ?_, ?_, ?_, ?_, ?_, ?_, ?_, ?_, ?_, ?_⟩ <;> (rw [b7.cell (Nat.lt_of_lt_of_le (by assumption) b6.size), b6.cell (by assumption)]; assumption)) | (refine ⟨?_, ?_, ?_, ?_, ?_, ?_, ?_, ?_, ?_, ?_, ?_, ?_, ?_, ?_, ?_, ?_⟩ <;> (rw [b6.cell (by assumption)]; assumption))) (first | (go_at_call 32; refine (HTO1.out _ BWD).mono ?_; rintro e wa ⟨v6, rfl, o6, b6⟩; obtain ⟨a6, c6, rfl⟩ := owns_lenS o6) | (go_at_call 33; refine (HEQ.out _ _ x _ (KXD.out.recAt.then b6) (recAt_of5 o6) hT1).mono ?_; rintro e wb ⟨rfl, b7⟩))
  clear s0 s1 s2 s3 s4 s5 s6 s7 t0 t1 t2 t3 t4 t5 t6 t7
  have b11 : Below w10.heap.size w10 wb := (Below.refl _ _).drew.trans (b6.trans (b7.mono b6.size))
  obtain ⟨w11, hw11⟩ : ∃ W, W = wb := ⟨_, rfl⟩
  rw [← hw11] at b11 ⊢
  clear hw11 b6 b7 o6 KXD BWD hzXl hzwl
  have KB11 := hide ((b11.block _ (lt_of_heap KB10.out)).trans KB10.out)
  clear KB10
  have hs11 := b11.size
  have BW11 : Below w.heap.size w w11 := BW10.trans (b11.mono BW10.size)
  have KW11 := hide (KW10.out.below b11 (by omega))
  have KX011 := hide (KX010.out.below b11 (by omega))
  have KX111 := hide (KX110.out.below b11 (by omega))
  have KG11 := hide (KG10.out.below b11 (by omega))
  clear b11 BW10 KW10 KX010 KX110 KG10
  go_wp2_with fail
  refine (markRecordS_any _ _ _ _ 1 _ KX011.out TX0 (by omega) (by omega)).mono ?_
  rintro e w12 ⟨rfl, oX0, b12⟩
  have KB12 := hide ((b12.block _ (lt_of_heap KB11.out) (.inl (by omega))).trans KB11.out)
  clear KB11
  have hs12 := b12.size
  have BW12 : Below w.heap.size w w12 := BW11.trans ((b12.below (by omega)).mono (by omega))
  have KW12 := hide (KW11.out.frame b12 (by omega))
  have KX112 := hide (KX111.out.frame b12 (by omega))
  have KG12 := hide (KG11.out.frame b12 (by omega))
  clear b12 BW11 KW11 KX111 KG11
  have KX012 := hide oX0
  clear oX0
  have hE := mkE_tot 1 qX0
  have hb := KX112.out.b.box
  unfold recC at hb
  have t0 := cells_at hb 0
  have t1 := cells_at hb 1
  have t2 := cells_at hb 2
  have t3 := cells_at hb 3
  have t4 := cells_at hb 4
  have t5 := cells_at hb 5
  have t6 := cells_at hb 6
  have t7 := cells_at hb 7
  simp at t0 t1 t2 t3 t4 t5 t6 t7
  clear hb
  go_wp2_with fail
  refine (HMK.out _ x _ (mkE 1 qX0) _ KX112.out.b.own hT1 (by omega) (by omega)).mono ?_
  rintro e w13 ⟨rfl, _, k13⟩
  have b13 := Frame.grown k13 (fun k hk => ⟨(KX112.out.b.own.lt k hk).1, KX112.out.uh k hk⟩)
  clear k13
  clear t0 t1 t2 t3 t4 t5 t6 t7
  clear KX012
  have KB13 := hide ((b13.block _ (lt_of_heap KB12.out) (.inl (by omega))).trans KB12.out)
  clear KB12
  have hs13 := b13.size
  have BW13 : Below w.heap.size w w13 := BW12.trans ((b13.below (by omega)).mono (by omega))
  have KW13 := hide (KW12.out.frame b13 (by omega))
  have KG13 := hide (KG12.out.frame b13 (by omega))
  clear b13 BW12 KW12 KG12
  have hpos : ¬ mkE 1 qX0 + 2 * (x.near.length : Int) < 0 := by omega
  go_wp2_with fail
  refine (eqRecS_own _ _ _ _ _ _ _ _ _ KG13.out KW13.out (FG.out.trans FW.out.symm) TG (by omega) (by omega)).mono ?_
  rintro e w14 ⟨rfl, b14⟩
  have KB14 := hide ((b14.block _ (lt_of_heap KB13.out)).trans KB13.out)
  clear KB13
  have hs14 := b14.size
  have BW14 : Below w.heap.size w w14 := BW13.trans (b14.mono BW13.size)
  have KW14 := hide (KW13.out.below b14 (by omega))
  have KG14 := hide (KG13.out.below b14 (by omega))
  clear b14 BW13 KW13 KG13
  go_wp2_with fail
  refine (markRecordS_any _ _ _ _ 1 _ KG14.out TG (by omega) (by omega)).mono ?_
  rintro e w15 ⟨rfl, oG, b15⟩
  have KB15 := hide ((b15.block _ (lt_of_heap KB14.out) (.inl (by omega))).trans KB14.out)
  clear KB14
  have hs15 := b15.size
  have BW15 : Below w.heap.size w w15 := BW14.trans ((b15.below (by omega)).mono (by omega))
  have KW15 := hide (KW14.out.frame b15 (by omega))
  clear b15 BW14 KW14
  have KG15 := hide oG
  clear oG
  have hposG := mkE_pos qG
  go_wp2_with fail
  refine (heldS_own _ _ _ _ _ KG15.out TG (by omega)).mono ?_
  rintro e w16 ⟨rfl, rfl⟩
  have s0 := cells_at KB15.out 0
  have s1 := cells_at KB15.out 1
  have s2 := cells_at KB15.out 2
  have s3 := cells_at KB15.out 3
  have s4 := cells_at KB15.out 4
  have s5 := cells_at KB15.out 5
  have s6 := cells_at KB15.out 6
  have s7 := cells_at KB15.out 7
  simp at s0 s1 s2 s3 s4 s5 s6 s7
  have hzwl := lt_of_heap KB15.out
  have BWD : Below w.heap.size w w15.drew := BW15.drew
  go_wp2
  go_region_held3 (fun W => W.cell? ⟨w.heap.size, 0, none⟩ = some (.int .i64 x.area) ∧ W.cell? ⟨w.heap.size, 1, none⟩ = some (.int .i64 x.kind) ∧ W.cell? ⟨w.heap.size, 2, none⟩ = some (.int .i64 x.owner) ∧ W.cell? ⟨w.heap.size, 3, none⟩ = some (.int .i64 x.key) ∧ W.cell? ⟨w.heap.size, 4, none⟩ = some (.int .i64 x.seq) ∧ W.cell? ⟨w.heap.size, 5, none⟩ = some (.slice ra x.near.length rc) ∧ W.cell? ⟨w.heap.size, 6, none⟩ = some (.int .i64 x.cost) ∧ W.cell? ⟨w.heap.size, 7, none⟩ = some (.bool x.far)) (first | go_keep | (refine ⟨?_, ?_, ?_, ?_, ?_, ?_, ?_, ?_⟩ <;> (rw [bW.cell (Nat.lt_of_lt_of_le (by assumption) (Nat.le_trans bA.size bR.size)), bR.cell (Nat.lt_of_lt_of_le (by assumption) bA.size), bA.cell (by assumption)]; assumption)) | (refine ⟨?_, ?_, ?_, ?_, ?_, ?_, ?_, ?_⟩ <;> (rw [bR.cell (Nat.lt_of_lt_of_le (by assumption) bA.size), bA.cell (by assumption)]; assumption)) | (refine ⟨?_, ?_, ?_, ?_, ?_, ?_, ?_, ?_⟩ <;> (rw [bA.cell (by assumption)]; assumption))) (first | (go_at_call 43; refine (HTO0.out _ BWD).mono ?_; rintro e wa ⟨vA, qA, rfl, fA, oA, bA⟩; obtain ⟨aA, cA, rfl⟩ := owns_lenS oA.row) | (go_at_call 32; refine (HTO1.out _ (BWD.trans (bA.mono BWD.size))).mono ?_; rintro e wb ⟨vR, rfl, oR, bR⟩; obtain ⟨aR, cR, rfl⟩ := owns_lenS oR) | (go_at_call 35; refine (HIM.out _ qA _ _ fA _ _ _ (oA.below bR (Nat.le_refl _)) bR.size oR).mono ?_; rintro e w16 ⟨vH, qH, rfl, fH, oH, bW⟩; obtain ⟨aH, cH, rfl⟩ := owns_lenS oH.row))
  clear s0 s1 s2 s3 s4 s5 s6 s7
  have b16 : Below w15.heap.size w15 w16 := (Below.refl _ _).drew.trans ((bA.trans (bR.mono bA.size)).trans (bW.mono (Nat.le_trans bA.size bR.size)))
  have oH2 := oH.wide (show w15.heap.size ≤ wb.heap.size from Nat.le_trans bA.size bR.size) (Nat.le_refl _)
  clear bA bR bW oA oR fA oH hzwl BWD
  have KB16 := hide ((b16.block _ (lt_of_heap KB15.out)).trans KB15.out)
  clear KB15
  have hs16 := b16.size
  have BW16 : Below w.heap.size w w16 := BW15.trans (b16.mono BW15.size)
  have KW16 := hide (KW15.out.below b16 (by omega))
  have KG16 := hide (KG15.out.below b16 (by omega))
  clear b16 BW15 KW15 KG15
  have KH16 := hide oH2
  have TH : tot qH ≤ 1048576 := by rw [tot_D, fH]; exact hTR
  have FH := hide fH
  clear oH2 fH
  go_wp2_with fail
  refine (eqRecS_own _ _ _ _ _ _ _ _ _ KH16.out KW16.out (FH.out.trans FW.out.symm) TH (by omega) (by omega)).mono ?_
  rintro e w17 ⟨rfl, b17⟩
  have KB17 := hide ((b17.block _ (lt_of_heap KB16.out)).trans KB16.out)
  clear KB16
  have hs17 := b17.size
  have BW17 : Below w.heap.size w w17 := BW16.trans (b17.mono BW16.size)
  have KW17 := hide (KW16.out.below b17 (by omega))
  have KG17 := hide (KG16.out.below b17 (by omega))
  have KH17 := hide (KH16.out.below b17 (by omega))
  clear b17 BW16 KW16 KG16 KH16
  go_wp2_with fail
  refine (heldS_own _ _ _ _ _ KG17.out TG (by omega)).mono ?_
  rintro e w18 ⟨rfl, rfl⟩
  go_wp2
  go_ret
  exact ⟨rfl, BW17⟩
end Go.Proofs.Ytohjphhocdgpgaa
