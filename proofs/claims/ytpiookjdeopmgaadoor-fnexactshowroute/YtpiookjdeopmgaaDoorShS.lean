/-
  spec.ShowRoute: its contract.
-/
import Derived.Test.YtpiookjdeopmgaaDoorShM
import Derived.Test.YtpiookjdeopmgaaDoorReg
import Derived.Deep.RegionHeld3
import Derived.Deep.QuietTactic
import Derived.BigQuiet
namespace Go.Proofs.YtpiookjdeopmgaaDoor
open Go.RowKit

set_option maxRecDepth 100000 in
set_option maxHeartbeats 4000000 in
theorem sshow_any (x : RtD) (v : Value) (w : World) (hv : HopsAt w v x.hops w.heap.size) (hl : x.hops.length ≤ 1048576) (hw : RtWf x) :
    Calls Tryd.prog 14 #[.agg (rtC x v)] w fun e w' => e = .returned (.string (bs (showL x))) ∧ Below w.heap.size w w' := by
  obtain ⟨a1, c1, rfl⟩ := hv.shape
  obtain ⟨th, to, kd, co, fa, hs⟩ := x
  obtain ⟨h1, h2, h3, h4⟩ := hw
  have L1 := decI_len h1
  have L2 := decI_len h2
  have L3 := decI_len h3
  have HD := hide (show ∀ z ∈ hs, i64B z from h4)
  have HV := hide hv
  obtain ⟨h10, h11⟩ := h1
  obtain ⟨h20, h21⟩ := h2
  obtain ⟨h30, h31⟩ := h3
  clear hv h4
  unfold rtC
  simp only at *
  have hw0 := heap_alloc_new w (.cells #[.bool th, .int .i64 to, .int .i64 kd, .int .i64 co, .int .i64 fa, .slice a1 hs.length c1] 39)
  have bw := (Below.refl w.heap.size w).alloc (Nat.le_refl _) (.cells #[.bool th, .int .i64 to, .int .i64 kd, .int .i64 co, .int .i64 fa, .slice a1 hs.length c1] 39)
  obtain ⟨W1, hW1⟩ : ∃ W1, W1 = w.alloc (.cells #[.bool th, .int .i64 to, .int .i64 kd, .int .i64 co, .int .i64 fa, .slice a1 hs.length c1] 39) := ⟨_, rfl⟩
  rw [← hW1] at hw0 bw
  have HW1 := hide hW1
  clear hW1
  have BW := hide bw
  have hz := lt_of_heap hw0
  have s0 := cells_at hw0 0
  have s1 := cells_at hw0 1
  have s2 := cells_at hw0 2
  have s3 := cells_at hw0 3
  have s4 := cells_at hw0 4
  have s5 := cells_at hw0 5
  simp at s0 s1 s2 s3 s4 s5
  have HW0 := hide hw0
  clear hw0 bw
  cases th
  case false =>
    have f50 : ¬ 9223372036854775807 < 5 + (bs (decI to)).size := by omega
    have f51 : ¬ 9223372036854775807 < 5 + (bs (decI to)).size + 6 := by omega
    have f52 : ¬ 9223372036854775807 < 5 + (bs (decI to)).size + 6 + (bs (decI co)).size := by omega
    go_enter Tryd.func14, Tryd.ntmps14
    go_wp2_with fail
    rw [← HW1.out]
    go_region_held3 (fun W => W.cell? ⟨w.heap.size, 1, none⟩ = some (.int .i64 to) ∧ W.cell? ⟨w.heap.size, 3, none⟩ = some (.int .i64 co)) (first | go_keep | (refine ⟨?_, ?_⟩ <;> (refine Eq.trans (Below.cell (B := W1.heap.size) (w := W1.drew) ?_ ?_) ?_ <;> first | assumption | (go_grown; done)))) (first | (go_at_call 37; have hb := b2; refine (dec_any co _ h20 h21).mono ?_; rintro e w3 ⟨rfl, b3⟩; have D3 : Below W1.heap.size W1.drew w3 := b2.trans (b3.mono b2.size)) | (go_at_call 37; refine (dec_any to _ h10 h11).mono ?_; rintro e w2 ⟨rfl, b2⟩; have D2 : Below W1.heap.size W1.drew w2 := b2))
    have BX : Below w.heap.size w w3 := (BW.out.trans ((Below.refl W1.heap.size W1).drew.trans (D3.mono (Nat.le_refl _)) |>.mono BW.out.size))
    have hgx := (D3.block _ hz).trans HW0.out
    clear f50 f51 f52 s0 s1 s2 s3 s4 s5 b2 b3 hb D2 D3 HW0 HW1 BW hz
    obtain ⟨S0, hS0⟩ : ∃ S0, S0 = (⟨#[110, 111, 100, 101, 32]⟩ : ByteArray) ++ bs (decI to) ++ ⟨#[32, 99, 111, 115, 116, 32]⟩ ++ bs (decI co) := ⟨_, rfl⟩
    rw [← hS0]
    have z0 : S0.size ≤ 60 := by rw [hS0]; simp only [ByteArray.size_append', ByteArray.size_mk']; simp; omega
    have hS1 : S0 = bs (wordL false ++ [32] ++ decI to ++ [32, 99, 111, 115, 116, 32] ++ decI co) := by
      rw [hS0]
      show bs [110, 111, 100, 101, 32] ++ bs _ ++ bs [32, 99, 111, 115, 116, 32] ++ bs _ = _
      simp only [bs_append]
      rfl
    have HS := hide hS1
    clear hS0 hS1
    have s2 := cells_at hgx 2
    have s4 := cells_at hgx 4
    simp at s2 s4
    have GX := hide hgx
    clear hgx
    by_cases hk : kd = 4
    case pos =>
      subst hk
      go_wp2_with fail
      refine (dec_any fa _ h30 h31).mono ?_
      rintro e w4 ⟨rfl, b4⟩
      have BY : Below w.heap.size w w4 := BX.trans (b4.mono BX.size)
      have hgy := (b4.block _ (lt_of_heap GX.out)).trans GX.out
      obtain ⟨S1, hS1⟩ : ∃ S1, S1 = S0 ++ (⟨#[32, 102, 97, 114, 32]⟩ : ByteArray) ++ bs (decI fa) ++ ⟨#[32, 98, 121]⟩ := ⟨_, rfl⟩
      have z1 : S1.size ≤ 100 := by rw [hS1]; simp only [ByteArray.size_append', ByteArray.size_mk']; simp; omega
      have h5 : ¬ 9223372036854775807 < S0.size + 5 + (bs (decI fa)).size := by omega
      have h6 : ¬ 9223372036854775807 < S0.size + 5 + (bs (decI fa)).size + 3 := by omega
      have hS2 : S1 = bs (headL ⟨false, to, 4, co, fa, hs⟩) := by
        rw [hS1, HS.out]
        show bs _ ++ bs [32, 102, 97, 114, 32] ++ bs _ ++ bs [32, 98, 121] = _
        simp only [bs_append]
        unfold headL farL
        simp only [if_pos, List.append_assoc]
      have GY := hide hgy
      have HS1 := hide hS1
      have HS2 := hide hS2
      obtain ⟨HL, hHL⟩ : ∃ HL, HL = headL ⟨false, to, 4, co, fa, hs⟩ := ⟨_, rfl⟩
      rw [← hHL] at hS2
      have HS3 := hide hS2
      have HHL := hide hHL
      clear hgy hS1 hS2 hHL HS2 BX GX s2 s4 b4
      go_wp2_with fail
      rw [← HS1.out]
      go_loopw [3, 4] (fun s i wr => ∃ (k : Nat) (S : ByteArray), k ≤ hs.length ∧ i = .int .i64 k ∧ s = .string S ∧ S.size ≤ 100 + 22 * k ∧ Hid (S = bs (HL ++ hopsL (hs.take k))) ∧ Below w.heap.size w wr ∧ Hid (wr.heap[w.heap.size]? = some (.cells #[.bool false, .int .i64 to, .int .i64 4, .int .i64 co, .int .i64 fa, .slice a1 hs.length c1] 39))) (fun _ i _ => hs.length - (intOf i).toNat)
      case atStart => exact ⟨0, _, by omega, rfl, rfl, by omega, hide (by rw [HS3.out]; simp [hopsL]), BY, GY⟩
      case round =>
        obtain ⟨k, S, hk', rfl, rfl, hsz, HSK, hnx, hgr⟩ := hrel
        have s5 := cells_at hgr.out 5
        simp at s5
        by_cases hlt : k < hs.length
        · obtain ⟨z, hz⟩ : ∃ z, hs[k]? = some z := ⟨_, List.getElem?_eq_getElem hlt⟩
          obtain ⟨b, off, cap, hvv, hb, hc⟩ := HopsAt.cell HV.out k z hz
          obtain ⟨rfl, rfl⟩ : a1 = some ⟨b, off, none⟩ ∧ c1 = cap := by cases hvv; exact ⟨rfl, rfl⟩
          have hcell : wr.cell? ⟨b, off + k, none⟩ = some (.int .i64 z) := by rw [hnx.cell (p := ⟨b, off + k, none⟩) hb]; exact hc
          have hzw := HD.out z (List.mem_of_getElem? hz)
          have hzl := decI_len hzw
          obtain ⟨hz1, hz2⟩ := hzw
          have hgd : hs.getD k 0 = z := by simp [List.getD, hz]
          have HG := hide hgd
          have hki : (0 : Int) ≤ (k : Int) := by omega
          have hkj : (k : Int) < (hs.length : Int) := by omega
          have g1 : ¬ 9223372036854775807 < S.size + 1 := by omega
          have g2 : ¬ 9223372036854775807 < S.size + 1 + (bs (decI z)).size := by omega
          clear hvv hc hz hgd
          go_wp2_with fail
          refine (dec_any z _ hz1 hz2).mono ?_
          rintro e w5 ⟨rfl, b5⟩
          have B5 : Below w.heap.size w w5 := hnx.trans (b5.mono hnx.size)
          have h55 := hide ((b5.block _ (lt_of_heap hgr.out)).trans hgr.out)
          clear b5 hnx hgr s5 hcell
          go_wp2
          go_roundw
          case rel => exact ⟨k + 1, _, by omega, by go_num, rfl, by simp only [ByteArray.size_append', ByteArray.size_mk']; simp; omega, hide (by rw [HSK.out, hopsL_take hlt, HG.out]; show bs _ ++ bs [32] ++ bs _ = _; rw [bs_append, bs_append]; simp), B5, h55⟩
          case measure => simp [intOf]; omega
        · have hke : k = hs.length := by omega
          have HK := hide hke
          clear hke
          go_wp2
          go_ret
          refine ⟨?_, hnx⟩
          rw [HSK.out, HK.out, List.take_length, HHL.out]
          rfl
    case neg =>
      obtain ⟨S1, hS1⟩ : ∃ S1, S1 = S0 ++ (⟨#[32, 98, 121]⟩ : ByteArray) := ⟨_, rfl⟩
      have z1 : S1.size ≤ 100 := by rw [hS1]; simp only [ByteArray.size_append', ByteArray.size_mk']; simp; omega
      have h6 : ¬ 9223372036854775807 < S0.size + 3 := by omega
      have hkb : (kd == 4) = false := by simpa using hk
      have BY := BX
      have hgy := GX.out
      have hS2 : S1 = bs (headL ⟨false, to, kd, co, fa, hs⟩) := by
        rw [hS1, HS.out]
        show bs _ ++ bs [32, 98, 121] = _
        simp only [bs_append]
        unfold headL farL
        simp only [if_neg hk, List.append_nil]
      have GY := hide hgy
      have HS1 := hide hS1
      have HS2 := hide hS2
      obtain ⟨HL, hHL⟩ : ∃ HL, HL = headL ⟨false, to, kd, co, fa, hs⟩ := ⟨_, rfl⟩
      rw [← hHL] at hS2
      have HS3 := hide hS2
      have HHL := hide hHL
      clear hgy hS1 hS2 hHL HS2 BX GX
      go_wp2_with fail
      rw [← HS1.out]
      try rw [hkb]
      clear s2 s4
      go_loopw [3, 4] (fun s i wr => ∃ (k : Nat) (S : ByteArray), k ≤ hs.length ∧ i = .int .i64 k ∧ s = .string S ∧ S.size ≤ 100 + 22 * k ∧ Hid (S = bs (HL ++ hopsL (hs.take k))) ∧ Below w.heap.size w wr ∧ Hid (wr.heap[w.heap.size]? = some (.cells #[.bool false, .int .i64 to, .int .i64 kd, .int .i64 co, .int .i64 fa, .slice a1 hs.length c1] 39))) (fun _ i _ => hs.length - (intOf i).toNat)
      case atStart => exact ⟨0, _, by omega, rfl, rfl, by omega, hide (by rw [HS3.out]; simp [hopsL]), BY, GY⟩
      case round =>
        obtain ⟨k, S, hk', rfl, rfl, hsz, HSK, hnx, hgr⟩ := hrel
        have s5 := cells_at hgr.out 5
        simp at s5
        by_cases hlt : k < hs.length
        · obtain ⟨z, hz⟩ : ∃ z, hs[k]? = some z := ⟨_, List.getElem?_eq_getElem hlt⟩
          obtain ⟨b, off, cap, hvv, hb, hc⟩ := HopsAt.cell HV.out k z hz
          obtain ⟨rfl, rfl⟩ : a1 = some ⟨b, off, none⟩ ∧ c1 = cap := by cases hvv; exact ⟨rfl, rfl⟩
          have hcell : wr.cell? ⟨b, off + k, none⟩ = some (.int .i64 z) := by rw [hnx.cell (p := ⟨b, off + k, none⟩) hb]; exact hc
          have hzw := HD.out z (List.mem_of_getElem? hz)
          have hzl := decI_len hzw
          obtain ⟨hz1, hz2⟩ := hzw
          have hgd : hs.getD k 0 = z := by simp [List.getD, hz]
          have HG := hide hgd
          have hki : (0 : Int) ≤ (k : Int) := by omega
          have hkj : (k : Int) < (hs.length : Int) := by omega
          have g1 : ¬ 9223372036854775807 < S.size + 1 := by omega
          have g2 : ¬ 9223372036854775807 < S.size + 1 + (bs (decI z)).size := by omega
          clear hvv hc hz hgd
          go_wp2_with fail
          refine (dec_any z _ hz1 hz2).mono ?_
          rintro e w5 ⟨rfl, b5⟩
          have B5 : Below w.heap.size w w5 := hnx.trans (b5.mono hnx.size)
          have h55 := hide ((b5.block _ (lt_of_heap hgr.out)).trans hgr.out)
          clear b5 hnx hgr s5 hcell
          go_wp2
          go_roundw
          case rel => exact ⟨k + 1, _, by omega, by go_num, rfl, by simp only [ByteArray.size_append', ByteArray.size_mk']; simp; omega, hide (by rw [HSK.out, hopsL_take hlt, HG.out]; show bs _ ++ bs [32] ++ bs _ = _; rw [bs_append, bs_append]; simp), B5, h55⟩
          case measure => simp [intOf]; omega
        · have hke : k = hs.length := by omega
          have HK := hide hke
          clear hke
          go_wp2
          go_ret
          refine ⟨?_, hnx⟩
          rw [HSK.out, HK.out, List.take_length, HHL.out]
          rfl
  case true =>
    have f60 : ¬ 9223372036854775807 < 6 + (bs (decI to)).size := by omega
    have f61 : ¬ 9223372036854775807 < 6 + (bs (decI to)).size + 6 := by omega
    have f62 : ¬ 9223372036854775807 < 6 + (bs (decI to)).size + 6 + (bs (decI co)).size := by omega
    go_enter Tryd.func14, Tryd.ntmps14
    go_wp2_with fail
    rw [← HW1.out]
    go_region_held3 (fun W => W.cell? ⟨w.heap.size, 1, none⟩ = some (.int .i64 to) ∧ W.cell? ⟨w.heap.size, 3, none⟩ = some (.int .i64 co)) (first | go_keep | (refine ⟨?_, ?_⟩ <;> (refine Eq.trans (Below.cell (B := W1.heap.size) (w := W1.drew) ?_ ?_) ?_ <;> first | assumption | (go_grown; done)))) (first | (go_at_call 37; have hb := b2; refine (dec_any co _ h20 h21).mono ?_; rintro e w3 ⟨rfl, b3⟩; have D3 : Below W1.heap.size W1.drew w3 := b2.trans (b3.mono b2.size)) | (go_at_call 37; refine (dec_any to _ h10 h11).mono ?_; rintro e w2 ⟨rfl, b2⟩; have D2 : Below W1.heap.size W1.drew w2 := b2))
    have BX : Below w.heap.size w w3 := (BW.out.trans ((Below.refl W1.heap.size W1).drew.trans (D3.mono (Nat.le_refl _)) |>.mono BW.out.size))
    have hgx := (D3.block _ hz).trans HW0.out
    clear f60 f61 f62 s0 s1 s2 s3 s4 s5 b2 b3 hb D2 D3 HW0 HW1 BW hz
    obtain ⟨S0, hS0⟩ : ∃ S0, S0 = (⟨#[116, 104, 105, 110, 103, 32]⟩ : ByteArray) ++ bs (decI to) ++ ⟨#[32, 99, 111, 115, 116, 32]⟩ ++ bs (decI co) := ⟨_, rfl⟩
    rw [← hS0]
    have z0 : S0.size ≤ 60 := by rw [hS0]; simp only [ByteArray.size_append', ByteArray.size_mk']; simp; omega
    have hS1 : S0 = bs (wordL true ++ [32] ++ decI to ++ [32, 99, 111, 115, 116, 32] ++ decI co) := by
      rw [hS0]
      show bs [116, 104, 105, 110, 103, 32] ++ bs _ ++ bs [32, 99, 111, 115, 116, 32] ++ bs _ = _
      simp only [bs_append]
      rfl
    have HS := hide hS1
    clear hS0 hS1
    have s2 := cells_at hgx 2
    have s4 := cells_at hgx 4
    simp at s2 s4
    have GX := hide hgx
    clear hgx
    by_cases hk : kd = 4
    case pos =>
      subst hk
      go_wp2_with fail
      refine (dec_any fa _ h30 h31).mono ?_
      rintro e w4 ⟨rfl, b4⟩
      have BY : Below w.heap.size w w4 := BX.trans (b4.mono BX.size)
      have hgy := (b4.block _ (lt_of_heap GX.out)).trans GX.out
      obtain ⟨S1, hS1⟩ : ∃ S1, S1 = S0 ++ (⟨#[32, 102, 97, 114, 32]⟩ : ByteArray) ++ bs (decI fa) ++ ⟨#[32, 98, 121]⟩ := ⟨_, rfl⟩
      have z1 : S1.size ≤ 100 := by rw [hS1]; simp only [ByteArray.size_append', ByteArray.size_mk']; simp; omega
      have h5 : ¬ 9223372036854775807 < S0.size + 5 + (bs (decI fa)).size := by omega
      have h6 : ¬ 9223372036854775807 < S0.size + 5 + (bs (decI fa)).size + 3 := by omega
      have hS2 : S1 = bs (headL ⟨true, to, 4, co, fa, hs⟩) := by
        rw [hS1, HS.out]
        show bs _ ++ bs [32, 102, 97, 114, 32] ++ bs _ ++ bs [32, 98, 121] = _
        simp only [bs_append]
        unfold headL farL
        simp only [if_pos, List.append_assoc]
      have GY := hide hgy
      have HS1 := hide hS1
      have HS2 := hide hS2
      obtain ⟨HL, hHL⟩ : ∃ HL, HL = headL ⟨true, to, 4, co, fa, hs⟩ := ⟨_, rfl⟩
      rw [← hHL] at hS2
      have HS3 := hide hS2
      have HHL := hide hHL
      clear hgy hS1 hS2 hHL HS2 BX GX s2 s4 b4
      go_wp2_with fail
      rw [← HS1.out]
      go_loopw [3, 4] (fun s i wr => ∃ (k : Nat) (S : ByteArray), k ≤ hs.length ∧ i = .int .i64 k ∧ s = .string S ∧ S.size ≤ 100 + 22 * k ∧ Hid (S = bs (HL ++ hopsL (hs.take k))) ∧ Below w.heap.size w wr ∧ Hid (wr.heap[w.heap.size]? = some (.cells #[.bool true, .int .i64 to, .int .i64 4, .int .i64 co, .int .i64 fa, .slice a1 hs.length c1] 39))) (fun _ i _ => hs.length - (intOf i).toNat)
      case atStart => exact ⟨0, _, by omega, rfl, rfl, by omega, hide (by rw [HS3.out]; simp [hopsL]), BY, GY⟩
      case round =>
        obtain ⟨k, S, hk', rfl, rfl, hsz, HSK, hnx, hgr⟩ := hrel
        have s5 := cells_at hgr.out 5
        simp at s5
        by_cases hlt : k < hs.length
        · obtain ⟨z, hz⟩ : ∃ z, hs[k]? = some z := ⟨_, List.getElem?_eq_getElem hlt⟩
          obtain ⟨b, off, cap, hvv, hb, hc⟩ := HopsAt.cell HV.out k z hz
          obtain ⟨rfl, rfl⟩ : a1 = some ⟨b, off, none⟩ ∧ c1 = cap := by cases hvv; exact ⟨rfl, rfl⟩
          have hcell : wr.cell? ⟨b, off + k, none⟩ = some (.int .i64 z) := by rw [hnx.cell (p := ⟨b, off + k, none⟩) hb]; exact hc
          have hzw := HD.out z (List.mem_of_getElem? hz)
          have hzl := decI_len hzw
          obtain ⟨hz1, hz2⟩ := hzw
          have hgd : hs.getD k 0 = z := by simp [List.getD, hz]
          have HG := hide hgd
          have hki : (0 : Int) ≤ (k : Int) := by omega
          have hkj : (k : Int) < (hs.length : Int) := by omega
          have g1 : ¬ 9223372036854775807 < S.size + 1 := by omega
          have g2 : ¬ 9223372036854775807 < S.size + 1 + (bs (decI z)).size := by omega
          clear hvv hc hz hgd
          go_wp2_with fail
          refine (dec_any z _ hz1 hz2).mono ?_
          rintro e w5 ⟨rfl, b5⟩
          have B5 : Below w.heap.size w w5 := hnx.trans (b5.mono hnx.size)
          have h55 := hide ((b5.block _ (lt_of_heap hgr.out)).trans hgr.out)
          clear b5 hnx hgr s5 hcell
          go_wp2
          go_roundw
          case rel => exact ⟨k + 1, _, by omega, by go_num, rfl, by simp only [ByteArray.size_append', ByteArray.size_mk']; simp; omega, hide (by rw [HSK.out, hopsL_take hlt, HG.out]; show bs _ ++ bs [32] ++ bs _ = _; rw [bs_append, bs_append]; simp), B5, h55⟩
          case measure => simp [intOf]; omega
        · have hke : k = hs.length := by omega
          have HK := hide hke
          clear hke
          go_wp2
          go_ret
          refine ⟨?_, hnx⟩
          rw [HSK.out, HK.out, List.take_length, HHL.out]
          rfl
    case neg =>
      obtain ⟨S1, hS1⟩ : ∃ S1, S1 = S0 ++ (⟨#[32, 98, 121]⟩ : ByteArray) := ⟨_, rfl⟩
      have z1 : S1.size ≤ 100 := by rw [hS1]; simp only [ByteArray.size_append', ByteArray.size_mk']; simp; omega
      have h6 : ¬ 9223372036854775807 < S0.size + 3 := by omega
      have hkb : (kd == 4) = false := by simpa using hk
      have BY := BX
      have hgy := GX.out
      have hS2 : S1 = bs (headL ⟨true, to, kd, co, fa, hs⟩) := by
        rw [hS1, HS.out]
        show bs _ ++ bs [32, 98, 121] = _
        simp only [bs_append]
        unfold headL farL
        simp only [if_neg hk, List.append_nil]
      have GY := hide hgy
      have HS1 := hide hS1
      have HS2 := hide hS2
      obtain ⟨HL, hHL⟩ : ∃ HL, HL = headL ⟨true, to, kd, co, fa, hs⟩ := ⟨_, rfl⟩
      rw [← hHL] at hS2
      have HS3 := hide hS2
      have HHL := hide hHL
      clear hgy hS1 hS2 hHL HS2 BX GX
      go_wp2_with fail
      rw [← HS1.out]
      try rw [hkb]
      clear s2 s4
      go_loopw [3, 4] (fun s i wr => ∃ (k : Nat) (S : ByteArray), k ≤ hs.length ∧ i = .int .i64 k ∧ s = .string S ∧ S.size ≤ 100 + 22 * k ∧ Hid (S = bs (HL ++ hopsL (hs.take k))) ∧ Below w.heap.size w wr ∧ Hid (wr.heap[w.heap.size]? = some (.cells #[.bool true, .int .i64 to, .int .i64 kd, .int .i64 co, .int .i64 fa, .slice a1 hs.length c1] 39))) (fun _ i _ => hs.length - (intOf i).toNat)
      case atStart => exact ⟨0, _, by omega, rfl, rfl, by omega, hide (by rw [HS3.out]; simp [hopsL]), BY, GY⟩
      case round =>
        obtain ⟨k, S, hk', rfl, rfl, hsz, HSK, hnx, hgr⟩ := hrel
        have s5 := cells_at hgr.out 5
        simp at s5
        by_cases hlt : k < hs.length
        · obtain ⟨z, hz⟩ : ∃ z, hs[k]? = some z := ⟨_, List.getElem?_eq_getElem hlt⟩
          obtain ⟨b, off, cap, hvv, hb, hc⟩ := HopsAt.cell HV.out k z hz
          obtain ⟨rfl, rfl⟩ : a1 = some ⟨b, off, none⟩ ∧ c1 = cap := by cases hvv; exact ⟨rfl, rfl⟩
          have hcell : wr.cell? ⟨b, off + k, none⟩ = some (.int .i64 z) := by rw [hnx.cell (p := ⟨b, off + k, none⟩) hb]; exact hc
          have hzw := HD.out z (List.mem_of_getElem? hz)
          have hzl := decI_len hzw
          obtain ⟨hz1, hz2⟩ := hzw
          have hgd : hs.getD k 0 = z := by simp [List.getD, hz]
          have HG := hide hgd
          have hki : (0 : Int) ≤ (k : Int) := by omega
          have hkj : (k : Int) < (hs.length : Int) := by omega
          have g1 : ¬ 9223372036854775807 < S.size + 1 := by omega
          have g2 : ¬ 9223372036854775807 < S.size + 1 + (bs (decI z)).size := by omega
          clear hvv hc hz hgd
          go_wp2_with fail
          refine (dec_any z _ hz1 hz2).mono ?_
          rintro e w5 ⟨rfl, b5⟩
          have B5 : Below w.heap.size w w5 := hnx.trans (b5.mono hnx.size)
          have h55 := hide ((b5.block _ (lt_of_heap hgr.out)).trans hgr.out)
          clear b5 hnx hgr s5 hcell
          go_wp2
          go_roundw
          case rel => exact ⟨k + 1, _, by omega, by go_num, rfl, by simp only [ByteArray.size_append', ByteArray.size_mk']; simp; omega, hide (by rw [HSK.out, hopsL_take hlt, HG.out]; show bs _ ++ bs [32] ++ bs _ = _; rw [bs_append, bs_append]; simp), B5, h55⟩
          case measure => simp [intOf]; omega
        · have hke : k = hs.length := by omega
          have HK := hide hke
          clear hke
          go_wp2
          go_ret
          refine ⟨?_, hnx⟩
          rw [HSK.out, HK.out, List.take_length, HHL.out]
          rfl
end Go.Proofs.YtpiookjdeopmgaaDoor
