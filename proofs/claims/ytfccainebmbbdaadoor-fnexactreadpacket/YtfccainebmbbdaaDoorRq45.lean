/-
  laws.FnExactReadPacket: its walk.
-/
import Derived.Test.YtfccainebmbbdaaDoorRq44
import Derived.Test.YtfccainebmbbdaaDoorRq5
import Derived.Test.YtfccainebmbbdaaDoorRq21
import Derived.Stop.LaidErr
import Derived.MakeChecks
import Derived.WalkSmall
import Derived.OpenShut
namespace Go.Proofs.YtfccainebmbbdaaDoor
open Go.RowKit

set_option linter.unusedSimpArgs false

theorem rp_steps_of {W : World} (h : laidMetH Tryd.prog [("loop.example/g00177/impl.sumSteps", Rows.laid_loop_example_g00177_impl_sumSteps)] W) : Steps W := by
  rw [MakeChecks.laidMetH_plain _ _ _ (by kernel_rfl)] at h
  have h2 : laidMet Tryd.prog [("loop.example/g00177/impl.sumSteps", Lib.tabData .u32 stepTab)] W := h
  exact Lib.tabIs_of_head gSteps (t := 99) (by kernel_rfl) Tryd.underlying99 Tryd.underlying50 (by kernel_rfl) (by kernel_rfl) h2

theorem srp_any (T : ByteArray) (w : World) (hT : T.size ≤ 1048576) :
    Calls Tryd.prog 4 #[.string T] w fun e w' => ∃ x' v1 v2 ps m b, e = .returned (.tuple #[pkV x' v1 v2, .bool b]) ∧ RpRes T x' (fsts ps) b ∧ PkOwn w' w.heap.size w'.heap.size v1 v2 x' ps m ∧ Below w.heap.size w w' := by
  by_cases h : ∃ y ys, pkB y ys = true ∧ T = sealB (pkL y ys)
  · obtain ⟨y, ys, h1, h2⟩ := h
    exact srp_core T y ys True (fun _ => ⟨h1, h2⟩) (fun k => absurd trivial k) w hT
  · exact srp_core T zeroPk [] False (fun k => absurd k id) (fun _ y ys h1 h2 => h ⟨y, ys, h1, h2⟩) w hT

set_option maxRecDepth 100000 in
set_option maxHeartbeats 2000000 in
theorem markPk_own (v1 v2 : Value) (x : PkD) (ps : List RP) (lo hi m : Nat) (w : World) (h : PkOwn w lo hi v1 v2 x ps m) (hhi : hi ≤ w.heap.size) (ht : totP x ps ≤ 1048576) :
    Calls Tryd.prog 7 #[pkV x v1 v2, .int .i64 1] w fun e w' => e = .returned (.int .i64 (mkE (1 + (x.heard.length : Int)) ps)) ∧ PkOwn w' lo hi v1 v2 (⟨x.kind, x.src, x.dst, x.area, marksI 1 x.heard.length⟩ : PkD) (mkL (1 + (x.heard.length : Int)) ps) m ∧ Frame lo hi w w' := by
  obtain ⟨⟨a1, a1c, rfl⟩, ⟨a2, a2c, rfl⟩⟩ := h.in.shapes
  have hH : x.heard.length ≤ 1048576 := by unfold totP at ht; omega
  have hR : tot ps ≤ 1048576 := by unfold totP at ht; omega
  have B0 : Below w.heap.size w (w.alloc (.cells #[.int .i64 x.kind, .int .i64 x.src, .int .i64 x.dst, .int .i64 x.area, .slice a1 x.heard.length a1c, .slice a2 ps.length a2c] 25)) := (Below.refl _ _).alloc (Nat.le_refl _) _
  have g0 := heap_alloc_new w (.cells #[.int .i64 x.kind, .int .i64 x.src, .int .i64 x.dst, .int .i64 x.area, .slice a1 x.heard.length a1c, .slice a2 ps.length a2c] 25)
  have h0 := h.below B0 hhi
  have o1 := h.o1
  have o2 := h.o2
  have HM := hide (markInts_own _ x.heard lo m 1 _ h0.heard hH (by omega) (by omega))
  obtain ⟨c, hc⟩ : ∃ c, c = 1 + (x.heard.length : Int) := ⟨_, rfl⟩
  have hc0 : 0 ≤ c := by omega
  have hc1 : c ≤ 10000000 := by omega
  rw [← hc] at HM ⊢
  clear hc
  have F0 := hide (show Frame lo hi w (w.alloc (.cells #[.int .i64 x.kind, .int .i64 x.src, .int .i64 x.dst, .int .i64 x.area, .slice a1 x.heard.length a1c, .slice a2 ps.length a2c] 25)) from ⟨B0.os, B0.tape, B0.output, B0.size, fun k hk _ => B0.block k hk⟩)
  have H0 := hide h0
  have G0 := hide g0
  clear h h0 g0 B0
  go_enter Tryd.func7, Tryd.ntmps7
  go_wp2_with fail
  obtain ⟨w0, hw0⟩ : ∃ W, W = w.alloc (.cells #[.int .i64 x.kind, .int .i64 x.src, .int .i64 x.dst, .int .i64 x.area, .slice a1 x.heard.length a1c, .slice a2 ps.length a2c] 25) := ⟨_, rfl⟩
  rw [← hw0] at HM F0 H0 G0 ⊢
  clear hw0
  refine HM.out.mono ?_
  rintro e w1 ⟨rfl, oi, f1⟩
  have hz := lt_of_heap G0.out
  have g1 := (f1.block _ hz (by omega)).trans G0.out
  have s5 := cells_at g1 5
  simp at s5
  have OR := hide (H0.out.list.frame f1 (by omega))
  have OI := hide oi
  have F1 := hide (F0.out.trans (show Frame lo hi w0 w1 from ⟨f1.os, f1.tape, f1.output, f1.size, fun k hk hh => f1.block k hk (by omega)⟩))
  clear HM oi f1 H0 F0 G0 g1
  have HR := hide (markRecordS_any _ m hi ps c w1 OR.out hR hc0 hc1)
  go_wp2_with fail
  refine HR.out.mono ?_
  rintro e w2 ⟨rfl, orr, f2⟩
  have OI2 := OI.out.frame f2 (by omega)
  have F2 := F1.out.trans (show Frame lo hi w1 w2 from ⟨f2.os, f2.tape, f2.output, f2.size, fun k hk hh => f2.block k hk (by omega)⟩)
  have ON := hide (show PkOwn w2 lo hi (.slice a1 x.heard.length a1c) (.slice a2 ps.length a2c) (⟨x.kind, x.src, x.dst, x.area, marksI 1 x.heard.length⟩ : PkD) (mkL c ps) m from ⟨o1, o2, OI2, orr⟩)
  have HF := hide F2
  clear HR f2 orr OI2 F2 OI OR F1 s5
  go_wp2
  go_ret
  exact ⟨rfl, ON.out, HF.out⟩

set_option maxRecDepth 100000 in
set_option maxHeartbeats 2000000 in
theorem heldPk_own (v1 v2 : Value) (x : PkD) (ps : List RP) (lo hi m : Nat) (w : World) (h : PkOwn w lo hi v1 v2 (⟨x.kind, x.src, x.dst, x.area, marksI 1 x.heard.length⟩ : PkD) (mkL (1 + (x.heard.length : Int)) ps) m) (hhi : hi ≤ w.heap.size) (ht : totP x ps ≤ 1048576) :
    Calls Tryd.prog 8 #[pkV x v1 v2, .int .i64 1] w fun e w' => e = .returned (.int .i64 (mkE (1 + (x.heard.length : Int)) ps)) ∧ Below w.heap.size w w' := by
  obtain ⟨⟨a1, a1c, hv1⟩, ⟨a2, a2c, hv2⟩⟩ := h.in.shapes
  simp only [marksI_length, mkL_len] at hv1 hv2
  subst hv1 hv2
  have hH : x.heard.length ≤ 1048576 := by unfold totP at ht; omega
  have hR : tot ps ≤ 1048576 := by unfold totP at ht; omega
  have B0 : Below w.heap.size w (w.alloc (.cells #[.int .i64 x.kind, .int .i64 x.src, .int .i64 x.dst, .int .i64 x.area, .slice a1 x.heard.length a1c, .slice a2 ps.length a2c] 25)) := (Below.refl _ _).alloc (Nat.le_refl _) _
  have g0 := heap_alloc_new w (.cells #[.int .i64 x.kind, .int .i64 x.src, .int .i64 x.dst, .int .i64 x.area, .slice a1 x.heard.length a1c, .slice a2 ps.length a2c] 25)
  have h0 := h.below B0 hhi
  have hs0 : w.heap.size ≤ (w.alloc (.cells #[.int .i64 x.kind, .int .i64 x.src, .int .i64 x.dst, .int .i64 x.area, .slice a1 x.heard.length a1c, .slice a2 ps.length a2c] 25)).heap.size := B0.size
  have o1 := h.o1
  have o2 := h.o2
  have HI := hide (heldInts_own _ x.heard.length lo m 1 _ h0.heard hH (by omega) (by omega) (by omega))
  obtain ⟨c, hc⟩ : ∃ c, c = 1 + (x.heard.length : Int) := ⟨_, rfl⟩
  have hc0 : 0 ≤ c := by omega
  have hc1 : c ≤ 10000000 := by omega
  have hcn : ¬ c < 0 := by omega
  rw [← hc] at HI h0 ⊢
  have HR := hide (heldRecordS_any (.slice a2 ps.length a2c) ps c _ (h0.list.at.more (by omega)) hR hc0 hc1)
  have hE := mkE_tot c ps
  obtain ⟨E, hEE⟩ : ∃ E, E = mkE c ps := ⟨_, rfl⟩
  rw [← hEE] at HR hE ⊢
  have hEn : ¬ E < 0 := by omega
  have s4 := cells_at g0 4
  have s5 := cells_at g0 5
  simp only [List.getElem?_toArray, List.getElem?_cons_succ, List.getElem?_cons_zero] at s4 s5
  have HB := hide B0
  clear hc h h0 g0 B0 hEE hE
  go_enter Tryd.func8, Tryd.ntmps8
  go_wp2_with fail
  refine HI.out.mono ?_
  rintro e w1 ⟨rfl, rfl⟩
  go_wp2_with fail
  refine HR.out.mono ?_
  rintro e w2 ⟨rfl, rfl⟩
  go_wp2
  go_ret
  exact ⟨rfl, HB.out⟩

theorem rp_small {T : ByteArray} {x : PkD} {ps : List RP} {b : Bool} (h : RpRes T x (fsts ps) b) : totP x ps ≤ 1048576 := by
  obtain ⟨h1, h2, h3⟩ := h.small
  have h4 := tot_small h3
  have h5 : (fsts ps).length = ps.length := by simp [fsts]
  unfold totP
  omega

set_option maxRecDepth 100000 in
set_option maxHeartbeats 8000000 in
theorem fnExactReadPacket_walk (T : ByteArray) (w : World) (hst : Steps w) :
    Calls Tryd.prog 3 #[.string T] w fun e w' => e = .returned (.bool true) ∧ Below w.heap.size w w' := by
  by_cases hT : T.size ≤ 1048576
  case neg =>
    have hgt : ((T.size : Nat) : Int) > 1048576 := by omega
    go_enter Tryd.func3, Tryd.ntmps3
    go_wp2
    go_ret
    exact ⟨rfl, Below.refl _ _⟩
  have hle : ¬ ((T.size : Nat) : Int) > 1048576 := by omega
  have BW0 := hide (Below.refl w.heap.size w)
  have HST := hide (fun W (hb : Below w.heap.size w W) => steps_later hst hb (Nat.le_refl _))
  clear hst
  go_enter Tryd.func3, Tryd.ntmps3
  go_wp2_with fail
  refine (srp_any T _ hT).mono ?_
  rintro e w1 ⟨xW, v1, v2, psW, mW, bW, rfl, rW, oW, b1⟩
  obtain ⟨⟨a1, a1c, rfl⟩, ⟨a2, a2c, rfl⟩⟩ := oW.in.shapes
  have hs1 := b1.size
  have BW1 := hide (BW0.out.trans (b1.mono BW0.out.size))
  have RW := hide rW
  have KW1 := hide oW
  clear b1 BW0 rW oW
  have BN : Below w1.heap.size w1 (w1.alloc (.cells #[.int .i64 xW.kind, .int .i64 xW.src, .int .i64 xW.dst, .int .i64 xW.area, .slice a1 xW.heard.length a1c, .slice a2 psW.length a2c] 25)) := (Below.refl _ _).alloc (Nat.le_refl _) _
  have GWN := hide (heap_alloc_new w1 (.cells #[.int .i64 xW.kind, .int .i64 xW.src, .int .i64 xW.dst, .int .i64 xW.area, .slice a1 xW.heard.length a1c, .slice a2 psW.length a2c] 25))
  have HBN := hide BN
  clear BN
  go_wp2_with fail
  obtain ⟨zW, hzW⟩ : ∃ z, z = w1.heap.size := ⟨_, rfl⟩
  obtain ⟨w2, hw2⟩ : ∃ W, W = w1.alloc (.cells #[.int .i64 xW.kind, .int .i64 xW.src, .int .i64 xW.dst, .int .i64 xW.area, .slice a1 xW.heard.length a1c, .slice a2 psW.length a2c] 25) := ⟨_, rfl⟩
  rw [← hw2] at GWN HBN ⊢
  rw [← hzW] at GWN ⊢
  have b2 := HBN.out
  have HzW := hide (show w1.heap.size ≤ zW ∧ zW ≤ w1.heap.size from ⟨Nat.le_of_eq hzW.symm, Nat.le_of_eq hzW⟩)
  have hlzW := lt_of_heap GWN.out
  clear hw2 hzW HBN
  have hs2 := b2.size
  have BW2 := hide (BW1.out.trans (b2.mono BW1.out.size))
  have KW2 := hide (KW1.out.below b2 (by omega))
  clear b2 BW1 KW1
  have GW2 := hide GWN.out
  clear GWN
  refine (irp_any T _ hT (HST.out _ BW2.out)).mono ?_
  rintro e w3 ⟨xG, v1, v2, psG, mG, bG, rfl, rG, oG, b3⟩
  obtain ⟨⟨g1, g1c, rfl⟩, ⟨g2, g2c, rfl⟩⟩ := oG.in.shapes
  have hs3 := b3.size
  have BW3 := hide (BW2.out.trans (b3.mono BW2.out.size))
  have KW3 := hide (KW2.out.below b3 (by omega))
  have GW3 := hide ((b3.block _ (lt_of_heap GW2.out)).trans GW2.out)
  clear b3 BW2 KW2 GW2
  obtain ⟨e1, e2, e3⟩ := rG.unique RW.out
  replace e1 := e1.symm
  replace e3 := e3.symm
  subst e1 e3
  have EG := hide e2
  have RG := hide rG
  have KG3 := hide oG
  clear rG oG e2
  have BN : Below w3.heap.size w3 (w3.alloc (.cells #[.int .i64 xW.kind, .int .i64 xW.src, .int .i64 xW.dst, .int .i64 xW.area, .slice g1 xW.heard.length g1c, .slice g2 psG.length g2c] 25)) := (Below.refl _ _).alloc (Nat.le_refl _) _
  have GGN := hide (heap_alloc_new w3 (.cells #[.int .i64 xW.kind, .int .i64 xW.src, .int .i64 xW.dst, .int .i64 xW.area, .slice g1 xW.heard.length g1c, .slice g2 psG.length g2c] 25))
  have HBN := hide BN
  have gx := (BN.block _ (lt_of_heap GW3.out)).trans GW3.out
  have u0 := cells_at gx 0
  have u1 := cells_at gx 1
  have u2 := cells_at gx 2
  have u3 := cells_at gx 3
  have u4 := cells_at gx 4
  have u5 := cells_at gx 5
  simp only [List.getElem?_toArray, List.getElem?_cons_succ, List.getElem?_cons_zero] at u0 u1 u2 u3 u4 u5
  clear gx
  clear BN
  go_wp2_with fail
  clear u0 u1 u2 u3 u4 u5
  obtain ⟨zG, hzG⟩ : ∃ z, z = w3.heap.size := ⟨_, rfl⟩
  obtain ⟨w4, hw4⟩ : ∃ W, W = w3.alloc (.cells #[.int .i64 xW.kind, .int .i64 xW.src, .int .i64 xW.dst, .int .i64 xW.area, .slice g1 xW.heard.length g1c, .slice g2 psG.length g2c] 25) := ⟨_, rfl⟩
  rw [← hw4] at GGN HBN ⊢
  rw [← hzG] at GGN ⊢
  have b4 := HBN.out
  have HzG := hide (show w3.heap.size ≤ zG ∧ zG ≤ w3.heap.size from ⟨Nat.le_of_eq hzG.symm, Nat.le_of_eq hzG⟩)
  have hlzG := lt_of_heap GGN.out
  clear hw4 hzG HBN
  have hs4 := b4.size
  have BW4 := hide (BW3.out.trans (b4.mono BW3.out.size))
  have KW4 := hide (KW3.out.below b4 (by omega))
  have GW4 := hide ((b4.block _ (lt_of_heap GW3.out)).trans GW3.out)
  have KG4 := hide (KG3.out.below b4 (by omega))
  clear b4 BW3 KW3 GW3 KG3
  have GG4 := hide GGN.out
  clear GGN
  refine (eqPacket_any _ _ _ _ xW psG psW _ (rp_small RG.out) ((KG4.out.in.more (by omega))) ((KW4.out.in.more (by omega))) EG.out).mono ?_
  rintro e w5 ⟨rfl, b5⟩
  have hs5 := b5.size
  have BW5 := hide (BW4.out.trans (b5.mono BW4.out.size))
  have KW5 := hide (KW4.out.below b5 (by omega))
  have GW5 := hide ((b5.block _ (lt_of_heap GW4.out)).trans GW4.out)
  have KG5 := hide (KG4.out.below b5 (by omega))
  have GG5 := hide ((b5.block _ (lt_of_heap GG4.out)).trans GG4.out)
  clear b5 BW4 KW4 GW4 KG4 GG4
  have t0 := cells_at GG5.out 0
  have t1 := cells_at GG5.out 1
  have t2 := cells_at GG5.out 2
  have t3 := cells_at GG5.out 3
  have t4 := cells_at GG5.out 4
  have t5 := cells_at GG5.out 5
  simp at t0 t1 t2 t3 t4 t5
  go_wp2_with fail
  refine (markPk_own _ _ xW psG _ _ mG _ KG5.out (by omega) (rp_small RG.out)).mono ?_
  rintro e w6 ⟨rfl, oM, f6⟩
  clear t0 t1 t2 t3 t4 t5
  have hzw := HzW.out
  have hzg := HzG.out
  have hs6 := f6.size
  have BW6 := hide (BW5.out.trans (f6.below (by omega) |>.mono (by omega)))
  have GW6 := hide ((f6.block _ (lt_of_heap GW5.out) (by omega)).trans GW5.out)
  have GG6 := hide ((f6.block _ (lt_of_heap GG5.out) (by omega)).trans GG5.out)
  have KW6 := hide (KW5.out.frame f6 (by omega))
  have KG6 := hide oM
  clear f6 oM BW5 GW5 GG5 KW5 KG5
  obtain ⟨M, hM⟩ : ∃ M, M = mkE (1 + (xW.heard.length : Int)) psG := ⟨_, rfl⟩
  have hMt := mkE_tot (1 + (xW.heard.length : Int)) psG
  have HHP := hide (fun W (h : PkOwn W w2.heap.size w3.heap.size (.slice g1 xW.heard.length g1c) (.slice g2 psG.length g2c) (⟨xW.kind, xW.src, xW.dst, xW.area, marksI 1 xW.heard.length⟩ : PkD) (mkL (1 + (xW.heard.length : Int)) psG) mG) (hh : w3.heap.size ≤ W.heap.size) => heldPk_own _ _ xW psG _ _ mG W h hh (rp_small RG.out))
  rw [← hM] at hMt HHP ⊢
  have hMn : ¬ M < 0 := by omega
  clear hM hMt
  have t0 := cells_at GG6.out 0
  have t1 := cells_at GG6.out 1
  have t2 := cells_at GG6.out 2
  have t3 := cells_at GG6.out 3
  have t4 := cells_at GG6.out 4
  have t5 := cells_at GG6.out 5
  simp at t0 t1 t2 t3 t4 t5
  go_wp2_with fail
  refine (HHP.out _ KG6.out (by omega)).mono ?_
  rintro e w7 ⟨rfl, b7⟩
  clear t0 t1 t2 t3 t4 t5
  have hs7 := b7.size
  have BW7 := hide (BW6.out.trans (b7.mono BW6.out.size))
  have KW7 := hide (KW6.out.below b7 (by omega))
  have GW7 := hide ((b7.block _ (lt_of_heap GW6.out)).trans GW6.out)
  have KG7 := hide (KG6.out.below b7 (by omega))
  have GG7 := hide ((b7.block _ (lt_of_heap GG6.out)).trans GG6.out)
  clear b7 BW6 KW6 GW6 KG6 GG6
  go_wp2_with fail
  refine (irp_any T _ hT (HST.out _ BW7.out)).mono ?_
  rintro e w8 ⟨xH, v1, v2, psH, mH, bH, rfl, rH, oH, b8⟩
  obtain ⟨⟨h1, h1c, rfl⟩, ⟨h2, h2c, rfl⟩⟩ := oH.in.shapes
  have hs8 := b8.size
  have BW8 := hide (BW7.out.trans (b8.mono BW7.out.size))
  have KW8 := hide (KW7.out.below b8 (by omega))
  have GW8 := hide ((b8.block _ (lt_of_heap GW7.out)).trans GW7.out)
  have KG8 := hide (KG7.out.below b8 (by omega))
  have GG8 := hide ((b8.block _ (lt_of_heap GG7.out)).trans GG7.out)
  clear b8 BW7 KW7 GW7 KG7 GG7
  obtain ⟨e1, e2, e3⟩ := rH.unique RW.out
  replace e1 := e1.symm
  replace e3 := e3.symm
  subst e1 e3
  have EH := hide e2
  have RH := hide rH
  have KH8 := hide oH
  clear rH oH e2
  have BN : Below w8.heap.size w8 (w8.alloc (.cells #[.int .i64 xW.kind, .int .i64 xW.src, .int .i64 xW.dst, .int .i64 xW.area, .slice h1 xW.heard.length h1c, .slice h2 psH.length h2c] 25)) := (Below.refl _ _).alloc (Nat.le_refl _) _
  have GHN := hide (heap_alloc_new w8 (.cells #[.int .i64 xW.kind, .int .i64 xW.src, .int .i64 xW.dst, .int .i64 xW.area, .slice h1 xW.heard.length h1c, .slice h2 psH.length h2c] 25))
  have HBN := hide BN
  have gx := (BN.block _ (lt_of_heap GW8.out)).trans GW8.out
  have u0 := cells_at gx 0
  have u1 := cells_at gx 1
  have u2 := cells_at gx 2
  have u3 := cells_at gx 3
  have u4 := cells_at gx 4
  have u5 := cells_at gx 5
  simp only [List.getElem?_toArray, List.getElem?_cons_succ, List.getElem?_cons_zero] at u0 u1 u2 u3 u4 u5
  clear gx
  clear BN
  go_wp2_with fail
  clear u0 u1 u2 u3 u4 u5
  obtain ⟨zH, hzH⟩ : ∃ z, z = w8.heap.size := ⟨_, rfl⟩
  obtain ⟨w9, hw9⟩ : ∃ W, W = w8.alloc (.cells #[.int .i64 xW.kind, .int .i64 xW.src, .int .i64 xW.dst, .int .i64 xW.area, .slice h1 xW.heard.length h1c, .slice h2 psH.length h2c] 25) := ⟨_, rfl⟩
  rw [← hw9] at GHN HBN ⊢
  rw [← hzH] at GHN ⊢
  have b9 := HBN.out
  have HzH := hide (show w8.heap.size ≤ zH ∧ zH ≤ w8.heap.size from ⟨Nat.le_of_eq hzH.symm, Nat.le_of_eq hzH⟩)
  have hlzH := lt_of_heap GHN.out
  clear hw9 hzH HBN
  have hs9 := b9.size
  have BW9 := hide (BW8.out.trans (b9.mono BW8.out.size))
  have KW9 := hide (KW8.out.below b9 (by omega))
  have GW9 := hide ((b9.block _ (lt_of_heap GW8.out)).trans GW8.out)
  have KG9 := hide (KG8.out.below b9 (by omega))
  have GG9 := hide ((b9.block _ (lt_of_heap GG8.out)).trans GG8.out)
  have KH9 := hide (KH8.out.below b9 (by omega))
  clear b9 BW8 KW8 GW8 KG8 GG8 KH8
  have GH9 := hide GHN.out
  clear GHN
  refine (eqPacket_any _ _ _ _ xW psH psW _ (rp_small RH.out) ((KH9.out.in.more (by omega))) ((KW9.out.in.more (by omega))) EH.out).mono ?_
  rintro e w10 ⟨rfl, b10⟩
  have hs10 := b10.size
  have BW10 := hide (BW9.out.trans (b10.mono BW9.out.size))
  have KW10 := hide (KW9.out.below b10 (by omega))
  have GW10 := hide ((b10.block _ (lt_of_heap GW9.out)).trans GW9.out)
  have KG10 := hide (KG9.out.below b10 (by omega))
  have GG10 := hide ((b10.block _ (lt_of_heap GG9.out)).trans GG9.out)
  have KH10 := hide (KH9.out.below b10 (by omega))
  have GH10 := hide ((b10.block _ (lt_of_heap GH9.out)).trans GH9.out)
  clear b10 BW9 KW9 GW9 KG9 GG9 KH9 GH9
  have t0 := cells_at GG10.out 0
  have t1 := cells_at GG10.out 1
  have t2 := cells_at GG10.out 2
  have t3 := cells_at GG10.out 3
  have t4 := cells_at GG10.out 4
  have t5 := cells_at GG10.out 5
  simp at t0 t1 t2 t3 t4 t5
  go_wp2_with fail
  refine (HHP.out _ KG10.out (by omega)).mono ?_
  rintro e w11 ⟨rfl, b11⟩
  have BW11 := hide (BW10.out.trans (b11.mono BW10.out.size))
  go_wp2
  go_ret
  exact ⟨rfl, BW11.out⟩
end Go.Proofs.YtfccainebmbbdaaDoor
