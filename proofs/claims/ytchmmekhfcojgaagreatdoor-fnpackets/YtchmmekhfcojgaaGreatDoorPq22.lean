/-
  impl.RecordText: its contract.
-/
import Derived.Test.YtchmmekhfcojgaaGreatDoorPq21
namespace Go.Proofs.YtchmmekhfcojgaaGreatDoor
open Go.RowKit

set_option maxRecDepth 100000 in
set_option maxHeartbeats 1000000 in
theorem itext_any (v1 : Value) (x : RecD) (w : World) (hl : x.near.length ≤ 1048576) (hv : NearsAt w v1 x.near w.heap.size) :
    Calls Tryz.prog 44 #[.agg (recC x v1)] w fun e w' => e = .returned (textV x) ∧ Below w.heap.size w w' := by
  obtain ⟨p1, c1, rfl⟩ := hv.shape
  have HOK := hide (fun W (h : Below w.heap.size w W) => irecOk_any (.slice p1 x.near.length c1) x W hl (hv.then h))
  have HV0 := hide hv
  have HAV := hide appendVar_any
  by_cases hok : recOkB x = true
  case neg =>
    have hf : recOkB x = false := by simpa using hok
    rw [hf] at HOK
    have htv : textV x = .tuple #[.string (bs []), .bool false] := by unfold textV; rw [if_neg hok]
    rw [htv]
    clear htv hok hf hv HV0
    unfold recC at *
    go_enter Tryz.func44, Tryz.ntmps44
    go_wp2_with fail
    refine (HOK.out _ ((Below.refl _ _).alloc (Nat.le_refl _) _)).mono ?_
    rintro e w1 ⟨rfl, b1⟩
    go_wp2
    go_ret2
    exact ⟨rfl, ((Below.refl _ _).alloc (Nat.le_refl _) _).trans (b1.mono (by simp))⟩
  rw [hok] at HOK
  have hbd := recOk_bounds hok
  have htv : textV x = .tuple #[.string (bs (recL x)), .bool true] := by unfold textV; rw [if_pos hok]
  rw [htv]
  clear htv hok hv
  obtain ⟨area, kind, owner, key, seq, ns, cost, far⟩ := x
  obtain ⟨ha, hk, ho, hy, hs, hc, hn⟩ := hbd
  simp only [] at ha hk ho hy hs hc hn hl HV0
  have HN := hide hn
  obtain ⟨sq, rfl⟩ : ∃ m : Nat, seq = (m : Int) := ⟨seq.toNat, by omega⟩
  obtain ⟨co, rfl⟩ : ∃ m : Nat, cost = (m : Int) := ⟨cost.toNat, by omega⟩
  have hsq : sq ≤ 100000 := by omega
  have hco : co ≤ 60000 := by omega
  have hvs := varL_len sq
  have hvn := varL_len ns.length
  have hvc := varL_len co
  have u0 : IntKind.u8.wrap area = area := by rw [IntKind.wrap_u8]; omega
  have u1 : IntKind.u8.wrap kind = kind := by rw [IntKind.wrap_u8]; omega
  have u2 : IntKind.u8.wrap owner = owner := by rw [IntKind.wrap_u8]; omega
  have u3 : IntKind.u8.wrap key = key := by rw [IntKind.wrap_u8]; omega
  obtain ⟨L3, h3⟩ : ∃ l, l = [byB area, byB kind, byB owner, byB key] := ⟨_, rfl⟩
  have hcs : [Value.int .u8 area, .int .u8 kind, .int .u8 owner, .int .u8 key] = cellsOf L3 := by
    rw [h3]
    simp only [cellsOf, List.map_cons, List.map_nil]
    rw [← byB_val area (by omega) (by omega), ← byB_val kind (by omega) (by omega), ← byB_val owner (by omega) (by omega), ← byB_val key (by omega) (by omega)]
  have n3 : L3.length = 4 := by rw [h3]; rfl
  have LIT := hide (fun (W : World) => World.ownsRow_lit (base := W.heap.size) (e := 5) (size := 1) W #[.int .u8 area, .int .u8 kind, .int .u8 owner, .int .u8 key] 4 (Nat.le_refl _) (by decide) rfl)
  have HCS := hide hcs
  obtain ⟨HL, h5⟩ : ∃ l, l = L3 ++ varL sq ++ varL ns.length := ⟨_, rfl⟩
  have n5 : HL.length ≤ 2000000 := by rw [h5]; simp only [List.length_append]; omega
  have hR : recL ⟨area, kind, owner, key, (sq : Int), ns, (co : Int), far⟩ = HL ++ nearsL ns ++ varL co ++ farL far := by rw [h5, h3]; simp [recL, headL]
  rw [hR]
  have H5 := hide h5
  have N5 := hide n5
  have N3 := hide n3
  clear hn hR h3 h5 n3 n5 hs hc hcs
  unfold recC at *
  simp only [] at *
  have B0 : Below w.heap.size w (w.alloc (.cells #[.int .i64 area, .int .i64 kind, .int .i64 owner, .int .i64 key, .int .i64 (sq : Int), .slice p1 ns.length c1, .int .i64 (co : Int), .bool far] 51)) := (Below.refl _ _).alloc (Nat.le_refl _) _
  have NEW := hide (heap_alloc_new w (.cells #[.int .i64 area, .int .i64 kind, .int .i64 owner, .int .i64 key, .int .i64 (sq : Int), .slice p1 ns.length c1, .int .i64 (co : Int), .bool far] 51))
  go_enter Tryz.func44, Tryz.ntmps44
  go_wp2_with fail
  refine (HOK.out _ B0).mono ?_
  rintro e w2 ⟨rfl, b2⟩
  have B2 := B0.trans (b2.mono B0.size)
  have g2 : w2.heap[w.heap.size]? = some (.cells #[.int .i64 area, .int .i64 kind, .int .i64 owner, .int .i64 key, .int .i64 (sq : Int), .slice p1 ns.length c1, .int .i64 (co : Int), .bool far] 51) := (b2.block _ (by simp)).trans NEW.out
  have s0 := cells_at g2 0
  have s1 := cells_at g2 1
  have s2 := cells_at g2 2
  have s3 := cells_at g2 3
  simp at s0 s1 s2 s3
  have ow : (w2.alloc (.cells #[.int .u8 area, .int .u8 kind, .int .u8 owner, .int .u8 key] 5)).ownsRow w2.heap.size 5 1 (.slice (some ⟨w2.heap.size, 0, none⟩) 4 4) L3.length (cellsOf L3) := by rw [N3.out, ← HCS.out]; exact LIT.out w2
  have hz2 := lt_of_heap g2
  have g3 : (w2.alloc (.cells #[.int .u8 area, .int .u8 kind, .int .u8 owner, .int .u8 key] 5)).heap[w.heap.size]? = _ := (Below.heap_alloc _ _ _ hz2).trans g2
  have s4 := cells_at g3 4
  simp at s4
  have OW := hide ow
  have G3 := hide g3
  have B3 : Below w.heap.size w (w2.alloc (.cells #[.int .u8 area, .int .u8 kind, .int .u8 owner, .int .u8 key] 5)) := B2.alloc B2.size _
  have hz3 := B2.size
  clear b2 g2 g3 B0 NEW HOK LIT ow
  go_wp2_with fail
  refine (HAV.out w2.heap.size _ L3 sq _ OW.out (by omega) (by have := N3.out; omega) (by simp)).mono ?_
  rintro e w4 ⟨v4, l4, rfl, hl4, ow4, k4⟩
  have b4 := below_own OW.out k4 (by simp)
  have B4 : Below w.heap.size w w4 := B3.trans (b4.mono hz3)
  have g4 : w4.heap[w.heap.size]? = _ := (b4.block _ hz2).trans G3.out
  have s5 := cells_at g4 5
  simp at s5
  have n4 : l4.length ≤ 200000 := by rw [hl4, List.length_append, N3.out]; omega
  have hz4 : w2.heap.size ≤ w4.heap.size := by have := b4.size; simp at this; omega
  have HL4 := hide hl4
  have OW4 := hide ow4
  have G4 := hide g4
  clear b4 k4 ow4 g4 OW G3 B3 s4 hl4 s0 s1 s2 s3
  go_wp2_with fail
  refine (HAV.out w2.heap.size _ l4 ns.length _ OW4.out (by omega) (by omega) hz4).mono ?_
  rintro e w5 ⟨v5, l5, rfl, hl5, ow5, k5⟩
  have b5 := below_own OW4.out k5 hz4
  have B5 : Below w.heap.size w w5 := B4.trans (b5.mono hz3)
  have g5 : w5.heap[w.heap.size]? = _ := (b5.block _ hz2).trans G4.out
  have hz5 : w2.heap.size ≤ w5.heap.size := Nat.le_trans hz4 b5.size
  have t5 := cells_at g5 5
  simp at t5
  have hl5' : l5 = HL := by rw [hl5, HL4.out, H5.out]
  subst hl5'
  have OW5 := hide ow5
  have G5 := hide g5
  clear b5 k5 ow5 g5 OW4 G4 B4 s5 hl5 n4 hz4 HL4
  go_wp2
  go_loopw [4, 35] (fun t i wr => ∃ (k : Nat) (l : List UInt8), k ≤ ns.length ∧ i = .int .i64 k ∧ l = l5 ++ nearsL (ns.take k) ∧ wr.ownsRow w2.heap.size 5 1 t l.length (cellsOf l) ∧ Below w.heap.size w wr ∧ w2.heap.size ≤ wr.heap.size ∧ wr.heap[w.heap.size]? = some (.cells #[.int .i64 area, .int .i64 kind, .int .i64 owner, .int .i64 key, .int .i64 (sq : Int), .slice p1 ns.length c1, .int .i64 (co : Int), .bool far] 51)) (fun _ i _ => ns.length - (intOf i).toNat)
  case atStart => exact ⟨0, l5, by omega, rfl, by simp [nearsL], OW5.out, B5, hz5, G5.out⟩
  case round =>
    obtain ⟨wz, rfl⟩ : ∃ wz : World, wz = wr := ⟨_, rfl⟩
    clear B5 OW5 G5 t5 hz5
    obtain ⟨k, l, hk, rfl, hll, hown, hb, hzw, hx⟩ := hrel
    have hzr := hb.size
    have hzx := lt_of_heap hx
    have HX := hide hx
    have hl0 : l.length ≤ 2000000 + 1002 * k := by
      have h1 := nearsL_len HN.out k
      have h2 := N5.out
      rw [hll, List.length_append]
      omega
    have HLL := hide hll
    have OW := hide hown
    clear hx hll hown
    by_cases hlt : k < ns.length
    · obtain ⟨y, hyk⟩ : ∃ y, ns[k]? = some y := ⟨ns[k], List.getElem?_eq_getElem hlt⟩
      have hyb := HN.out y (List.mem_of_getElem? hyk)
      obtain ⟨b, off, cap', hve, hbb, s0, s1⟩ := HV0.out.cells k y hyk
      cases hve
      have HSU := hide (nearsL_succ hyk)
      obtain ⟨lt, lc⟩ := y
      simp only [] at hyb s0 s1
      obtain ⟨⟨ht0, ht1⟩, hc0, hc1⟩ := hyb
      obtain ⟨lm, rfl⟩ : ∃ m : Nat, lc = (m : Int) := ⟨lc.toNat, by omega⟩
      rw [← hb.cell (p := ⟨b, off + k * 2, none⟩) hbb] at s0
      rw [← hb.cell (p := ⟨b, off + k * 2 + 1, none⟩) hbb] at s1
      have hki : (0 : Int) ≤ (k : Int) := by omega
      have hkj : (k : Int) < (ns.length : Int) := by omega
      have ut : IntKind.u8.wrap lt = lt := by rw [IntKind.wrap_u8]; omega
      have hbt := byB_val lt (by omega) (by omega)
      have HBT := hide hbt
      have H12 := hide (show l ++ [byB lt] ++ varL lm = l5 ++ nearsL (ns.take (k + 1)) by rw [HLL.out, HSU.out]; simp [nearL])
      clear hbt hyk
      obtain ⟨wq, hwq⟩ : ∃ wq : World, wq = wz.alloc (.cells #[.int .i64 lt, .int .i64 (lm : Int)] 100) := ⟨_, rfl⟩
      have BQ : Below w.heap.size w wq := by rw [hwq]; exact hb.alloc hb.size _
      have OQ := hide (show wq.ownsRow w2.heap.size 5 1 u4 l.length (cellsOf l) by rw [hwq]; exact OW.out.alloc _)
      have hq0 : wq.heap[wz.heap.size]? = some (.cells #[.int .i64 lt, .int .i64 (lm : Int)] 100) := by rw [hwq]; exact heap_alloc_new wz _
      have hqx : wq.heap[w.heap.size]? = _ := (show wq.heap[w.heap.size]? = wz.heap[w.heap.size]? by rw [hwq, Below.heap_alloc _ _ _ hzx]).trans HX.out
      have hw2q : w2.heap.size ≤ wq.heap.size := by rw [hwq]; simp; omega
      have hxq : w.heap.size < wq.heap.size := by omega
      go_wp2
      rw [← hwq]
      have e0 := cells_at hq0 0
      have e1 := cells_at hq0 1
      simp at e0 e1
      have hzq := lt_of_heap hq0
      obtain ⟨z, hz⟩ : ∃ z, z = wz.heap.size := ⟨_, rfl⟩
      rw [← hz] at e0 e1 hzq ⊢
      have HQX := hide hqx
      have ONE := hide (show some z ≠ u4.ownBlock from fun e => by have := (OW.out.lt z e.symm).2; omega)
      clear hq0 hqx hwq s0 s1 OW HX hz
      go_region_held3 (fun W => W.cell? ⟨z, 0, none⟩ = some (.int .i64 lt) ∧ W.cell? ⟨z, 1, none⟩ = some (.int .i64 (lm : Int))) (first | go_keep | (refine ⟨?_, ?_⟩ <;> (refine Eq.trans (Below.cell (B := wq.heap.size) (w := wq.drew) ?_ ?_) ?_ <;> first | assumption | (go_grown; done)))) (first | (refine step_append_bytes rfl _ _ 22 rfl w2.heap.size 5 Tryz.underlying22 Tryz.info5 u4 l [byB lt] rfl ?_ ⟨wq.heap.size, 0, none⟩ 1 rfl ?_ ?_ ?_ ?_; exact (OQ.out.drew.alloc _); exact news_one (w := wq.drew) _ _ _ HBT.out; (simp; omega); (simp; omega); intro v' w6 l' hl' hown' hgrow; have c60 := keep_app e0 hgrow ONE.out; have c61 := keep_app e1 hgrow ONE.out; have hlp : 0 < l'.length := (by rw [hl'.out]; simp)) | (go_at_call 76; refine (HAV.out w2.heap.size _ l' lm _ hown' ?_ ?_ ?_).mono ?_; omega; (rw [hl'.out]; simp; omega); (have := hgrow.size; simp at this; omega); rintro e w7 ⟨v7, l7, rfl, hl7, ow7, k7⟩; have c70 := k7.cell c60 (own_ne hown' hlp c60); have c71 := k7.cell c61 (own_ne hown' hlp c60)))
      have B6 : Below w2.heap.size wq w6 := (((Below.refl _ _).drew).alloc hw2q _).grown hgrow (by simp; omega) (fun k hk => (OQ.out.lt k hk).1)
      have b7 := below_own hown' k7 (by have := hgrow.size; simp at this; omega)
      have D7 : Below w2.heap.size wq w7 := B6.trans b7
      have B7 : Below w.heap.size w w7 := BQ.trans (D7.mono hz3)
      have g7 : w7.heap[w.heap.size]? = _ := (D7.block _ hz2).trans HQX.out
      have hz7 : w2.heap.size ≤ w7.heap.size := Nat.le_trans hw2q D7.size
      have HL7 := hide (show l7 = l5 ++ nearsL (ns.take (k + 1)) by rw [hl7, hl'.out]; exact H12.out)
      have OW7 := hide ow7
      clear hown' hgrow ow7 b7 k7 B6 D7 hl7 hl' c60 c61 c70 c71 hlp
      go_wp2
      exact ⟨⟨k + 1, l7, by omega, by go_num, HL7.out, OW7.out, B7, hz7, g7⟩, by simp [intOf]; omega⟩
    · have hk' : k = ns.length := by omega
      have hlf : l = l5 ++ nearsL ns := by rw [HLL.out, hk', List.take_length]
      have HLF := hide hlf
      have g6 := cells_at HX.out 6
      simp at g6
      clear hlf hk'
      go_wp2_with fail
      refine (HAV.out w2.heap.size _ l co _ OW.out (by omega) (by omega) hzw).mono ?_
      rintro e w6 ⟨v6, l6, rfl, hl6, ow6, k6⟩
      have b6 := below_own OW.out k6 hzw
      have B6 : Below w.heap.size w w6 := hb.trans (b6.mono hz3)
      have g7 := cells_at ((b6.block _ hz2).trans HX.out) 7
      simp at g7
      have hz6 : w2.heap.size ≤ w6.heap.size := Nat.le_trans hzw b6.size
      have n6 : l6.length ≤ 2000000000 := by rw [hl6, List.length_append]; omega
      have HL6 := hide hl6
      have OW6 := hide ow6
      clear b6 k6 ow6 hl6 OW
      have HFB := hide (farByte_any far)
      obtain ⟨fi, hfi⟩ : ∃ q : Int, q = (if far then 1 else 0) := ⟨_, rfl⟩
      obtain ⟨fb, hfb⟩ : ∃ q : UInt8, q = (if far then 1 else 0) := ⟨_, rfl⟩
      rw [← hfi] at HFB
      have HFI := hide (show fi = (fb.toNat : Int) by rw [hfi, hfb]; cases far <;> rfl)
      have HFL := hide (show farL far = [fb] by rw [hfb]; cases far <;> rfl)
      clear hfi hfb
      go_wp2_with fail
      refine (HFB.out _).mono ?_
      rintro e w7 ⟨rfl, rfl⟩
      go_wp2_with (first
        | (at_builtin; refine wpList_append_bytes _ rfl _ _ 22 rfl w2.heap.size 5 Tryz.underlying22 Tryz.info5 v6 l6 [fb] rfl (OW6.out.alloc _) ⟨w6.heap.size, 0, none⟩ 1 rfl (news_one _ _ _ HFI.out) (by simp; omega) (by simp; omega) ?_))
      intro v' w8 l8 hl8 hown' hgrow
      have B8 : Below w.heap.size w w8 := (B6.alloc B6.size _).grown hgrow (by simp; omega) (fun k hk => Nat.le_trans hz3 (OW6.out.lt k hk).1)
      have hstr := run_str_own (P := Tryz.prog) 22 9 5 Tryz.underlying22 Tryz.underlying5 Tryz.underlying9 hown'
      clear hown' hgrow
      go_wp2
      go_ret2
      exact ⟨ret_str2 (by rw [hl8.out, HL6.out, HLF.out, HFL.out]), B8⟩
end Go.Proofs.YtchmmekhfcojgaaGreatDoor
