/-
  impl.ReadPacket: its contract.
-/
import Derived.Test.YtchmmekhfcojgaaGreatDoorPq36
import Derived.Test.YtchmmekhfcojgaaGreatDoorPq37
import Derived.Test.YtchmmekhfcojgaaGreatDoorPq11
import Derived.Test.YtchmmekhfcojgaaGreatDoorPq18
import Derived.Deep.Cut
namespace Go.Proofs.YtchmmekhfcojgaaGreatDoor
open Go.RowKit

set_option linter.unusedSimpArgs false

theorem pk_zero (W : World) (lo : Nat) {hi : Nat} (h2 : lo ≤ hi) : PkOwn W lo hi (.slice none 0 0) (.slice none 0 0) zeroPk [] lo where
  o1 := Nat.le_refl _
  o2 := h2
  heard := ⟨World.ownsRow_nil _ _ _ _, fun k e => by cases e⟩
  list := recs_none _ _ _

theorem tot_small {ps : List RP} (h : ∀ r ∈ fsts ps, recOkB r = true) : tot ps ≤ 7 * ps.length := by
  induction ps with
  | nil => simp [tot]
  | cons p ps ih =>
    have h1 := recOk_near (h p.1 (by simp [fsts]))
    have h2 := ih (fun r hr => h r (by simp [fsts] at hr ⊢; exact .inr hr))
    rw [tot_cons]
    simp only [List.length_cons]
    omega

theorem pinR_few {s : ByteArray} {x : PkD} {xs : List RecD} (h : pinR s = some (x, xs)) : x.heard.length + xs.length ≤ s.size := by
  have h1 := (pinR_got h).1
  have h2 := congrArg ByteArray.size h1
  rw [bs_size] at h2
  have h3 : xs.length ≤ (shortsL xs).length := by
    clear h h1 h2
    induction xs with
    | nil => simp
    | cons r xs ih =>
      have : 0 < (shortL r).length := by
        unfold shortL
        rw [List.length_append]
        have : 0 < (varL (recL r).length).length := by unfold varL; split <;> simp
        omega
      have e : shortsL (r :: xs) = shortL r ++ shortsL xs := by simp [shortsL]
      rw [e, List.length_append, List.length_cons]
      omega
  rw [h2]
  unfold pkL
  simp only [List.length_append, List.length_map]
  omega

set_option maxRecDepth 100000 in
set_option maxHeartbeats 4000000 in
theorem irp_any (s : ByteArray) (w : World) (hs : s.size ≤ 1048576) (hT : Steps w) :
    Calls Tryz.prog 7 #[.string s] w fun e w' => ∃ x v1 v2 ps m b, e = .returned (.tuple #[pkV x v1 v2, .bool b]) ∧ RpRes s x (fsts ps) b ∧ PkOwn w' w.heap.size w'.heap.size v1 v2 x ps m ∧ Below w.heap.size w w' := by
  have B0 : Below w.heap.size w (w.alloc (.cells #[.int .i64 0, .int .i64 0, .int .i64 0, .int .i64 0, .slice none 0 0, .slice none 0 0] 27)) := (Below.refl _ _).alloc (Nat.le_refl _) _
  have g0 := heap_alloc_new w (.cells #[.int .i64 0, .int .i64 0, .int .i64 0, .int .i64 0, .slice none 0 0, .slice none 0 0] 27)
  have HUN := hide (iun_any s (w.alloc (.cells #[.int .i64 0, .int .i64 0, .int .i64 0, .int .i64 0, .slice none 0 0, .slice none 0 0] 27)) hs (steps_later hT B0 (Nat.le_refl _)))
  by_cases hU : 4 ≤ s.size ∧ s.size - 4 ≤ 20000 ∧ unT s (s.size - 4)
  case neg =>
    rw [unV_no hU] at HUN
    have HR := hide (rp_unsealed hU)
    clear hU hT
    go_enter Tryz.func7, Tryz.ntmps7
    go_wp2_with fail
    refine HUN.out.mono ?_
    rintro e w1 ⟨rfl, b1⟩
    have B1 : Below w.heap.size w w1 := B0.trans (b1.mono B0.size)
    have g1 := (b1.block _ (lt_of_heap g0)).trans g0
    have hz := lt_of_heap g1
    have s0 := cells_at g1 0
    have f0 := frozen_at g1 0
    have s1 := cells_at g1 1
    have f1 := frozen_at g1 1
    have s2 := cells_at g1 2
    have f2 := frozen_at g1 2
    have s3 := cells_at g1 3
    have f3 := frozen_at g1 3
    have s4 := cells_at g1 4
    have f4 := frozen_at g1 4
    have s5 := cells_at g1 5
    have f5 := frozen_at g1 5
    simp at s0 s1 s2 s3 s4 s5
    have G1 := hide g1
    clear b1 B0 g0 g1 HUN
    go_wp2_with fail
    have k0 := G1.out
    have k1 := heap_setCell_same _ _ 0 _ _ (.int .i64 0) k0
    have k2 := heap_setCell_same _ _ 1 _ _ (.int .i64 0) k1
    have k3 := heap_setCell_same _ _ 2 _ _ (.int .i64 0) k2
    have k4 := heap_setCell_same _ _ 3 _ _ (.int .i64 0) k3
    have k5 := heap_setCell_same _ _ 4 _ _ (.slice none 0 0) k4
    have k6 := heap_setCell_same _ _ 5 _ _ (.slice none 0 0) k5
    (try simp only [Exit.inBlock, Exit.then])
    refine bodyPost_ret (results_cell_row_tmp rfl _ _ w.heap.size 27 #[.int .i64 0, .int .i64 0, .int .i64 0, .int .i64 0, .slice none 0 0, .slice none 0 0] (0, 0) _ rfl k6 Tryz.underlying27 rfl (by kernel_rfl)) rfl ?_
    clear k0 k1 k2 k3 k4 k5 k6
    refine ⟨zeroPk, .slice none 0 0, .slice none 0 0, [], w.heap.size, false, rfl, HR.out, pk_zero _ _ ?_, ?_⟩
    · simp; omega
    · repeat (refine Below.setCell ?_ (by show w.heap.size ≤ w.heap.size; omega) _)
      exact B1
  obtain ⟨h1, h2, h3⟩ := hU
  rw [unV_yes h1 h2 h3] at HUN
  obtain ⟨t, ht⟩ : ∃ t, t = s.extract 0 (s.size - 4) := ⟨_, rfl⟩
  rw [← ht] at HUN
  have hts : t.size ≤ 20000 := by rw [ht, ByteArray.size_extract]; omega
  have HNO := hide (show pinR t = none → RpRes s zeroPk [] false from fun h => rp_unread (by rw [← ht]; exact h))
  have HWR := hide (show ∀ x xs, pinR t = some (x, xs) → pkB x xs = false → RpRes s zeroPk [] false from fun x xs h hp => rp_wrong (by rw [← ht]; exact h) hp)
  have HRI := hide (show ∀ x xs, pinR t = some (x, xs) → pkB x xs = true → RpRes s x xs true from fun x xs h hp => rp_right h1 h3 (by rw [← ht]; exact h) hp)
  have HPN := hide (fun W => pin_any t W (by omega))
  clear h1 h2 h3 ht hT
  go_enter Tryz.func7, Tryz.ntmps7
  go_wp2_with fail
  refine HUN.out.mono ?_
  rintro e w1 ⟨rfl, b1⟩
  have B1 : Below w.heap.size w w1 := B0.trans (b1.mono B0.size)
  have g1 := (b1.block _ (lt_of_heap g0)).trans g0
  have G1 := hide g1
  clear b1 B0 g0 g1 HUN
  go_wp2_with fail
  refine (HPN.out _).mono ?_
  rintro e w2 ⟨b2, h⟩
  have B2 : Below w.heap.size w w2 := B1.trans (b2.mono B1.size)
  have g2 := (b2.block _ (lt_of_heap G1.out)).trans G1.out
  have hz := lt_of_heap g2
  rcases h with ⟨hn, rfl⟩ | ⟨x, v1, v2, ps, m, ho, rfl, hown⟩
  · have hzp : pkV zeroPk (.slice none 0 0) (.slice none 0 0) = .agg #[.int .i64 0, .int .i64 0, .int .i64 0, .int .i64 0, .slice none 0 0, .slice none 0 0] := rfl
    rw [hzp]
    clear hzp
    have HR := hide (HNO.out hn)
    have BP : Below w2.heap.size w2 (w2.alloc (.cells #[.int .i64 0, .int .i64 0, .int .i64 0, .int .i64 0, .slice none 0 0, .slice none 0 0] 27)) := (Below.refl _ _).alloc (Nat.le_refl _) _
    have g3 := (BP.block _ hz).trans g2
    have B3 := B2.trans (BP.mono B2.size)
    have G3 := hide g3
    have HB3 := hide B3
    clear b2 g2 g3 hn HNO HWR HRI HPN G1 B1 B2 BP B3
    go_upto_region 5 with fail
    obtain ⟨w3, hw3⟩ : ∃ W, W = w2.alloc (.cells #[.int .i64 0, .int .i64 0, .int .i64 0, .int .i64 0, .slice none 0 0, .slice none 0 0] 27) := ⟨_, rfl⟩
    rw [← hw3] at G3 HB3 ⊢
    have hz3 := lt_of_heap G3.out
    clear hw3
    have g3 := G3.out
    have B3 := HB3.out
    have s0 := cells_at g3 0
    have f0 := frozen_at g3 0
    have s1 := cells_at g3 1
    have f1 := frozen_at g3 1
    have s2 := cells_at g3 2
    have f2 := frozen_at g3 2
    have s3 := cells_at g3 3
    have f3 := frozen_at g3 3
    have s4 := cells_at g3 4
    have f4 := frozen_at g3 4
    have s5 := cells_at g3 5
    have f5 := frozen_at g3 5
    simp at s0 s1 s2 s3 s4 s5
    clear g3
    go_wp2_with fail
    have k0 := G3.out
    have k1 := heap_setCell_same _ _ 0 _ _ (.int .i64 0) k0
    have k2 := heap_setCell_same _ _ 1 _ _ (.int .i64 0) k1
    have k3 := heap_setCell_same _ _ 2 _ _ (.int .i64 0) k2
    have k4 := heap_setCell_same _ _ 3 _ _ (.int .i64 0) k3
    have k5 := heap_setCell_same _ _ 4 _ _ (.slice none 0 0) k4
    have k6 := heap_setCell_same _ _ 5 _ _ (.slice none 0 0) k5
    (try simp only [Exit.inBlock, Exit.then])
    refine bodyPost_ret (results_cell_row_tmp rfl _ _ w.heap.size 27 #[.int .i64 0, .int .i64 0, .int .i64 0, .int .i64 0, .slice none 0 0, .slice none 0 0] (0, 0) _ rfl k6 Tryz.underlying27 rfl (by kernel_rfl)) rfl ?_
    clear k0 k1 k2 k3 k4 k5 k6
    refine ⟨zeroPk, .slice none 0 0, .slice none 0 0, [], w.heap.size, false, rfl, HR.out, pk_zero _ _ ?_, ?_⟩
    · simp; omega
    · repeat (refine Below.setCell ?_ (by show w.heap.size ≤ w.heap.size; omega) _)
      exact B3
  · obtain ⟨⟨p1, d1, rfl⟩, ⟨p2, d2, rfl⟩⟩ := hown.in.shapes
    have hfew := pinR_few ho
    have hall := (pinR_got ho).2
    have hto : totP x ps ≤ 1048576 := by
      have h1 := tot_small hall
      have h2 : (fsts ps).length = ps.length := by simp [fsts]
      unfold totP
      omega
    have BP : Below w2.heap.size w2 (w2.alloc (.cells #[.int .i64 x.kind, .int .i64 x.src, .int .i64 x.dst, .int .i64 x.area, .slice p1 x.heard.length d1, .slice p2 ps.length d2] 27)) := (Below.refl _ _).alloc (Nat.le_refl _) _
    have g3 := (BP.block _ hz).trans g2
    have gn := heap_alloc_new w2 (.cells #[.int .i64 x.kind, .int .i64 x.src, .int .i64 x.dst, .int .i64 x.area, .slice p1 x.heard.length d1, .slice p2 ps.length d2] 27)
    have HOK := hide (ipacketOk_any _ _ x ps (w2.alloc (.cells #[.int .i64 x.kind, .int .i64 x.src, .int .i64 x.dst, .int .i64 x.area, .slice p1 x.heard.length d1, .slice p2 ps.length d2] 27)) hto (hown.in.then BP))
    have B3 := B2.trans (BP.mono B2.size)
    have OW := hide (hown.below BP (Nat.le_refl _))
    obtain ⟨q, hq⟩ : ∃ q, q = pkB x (fsts ps) := ⟨_, rfl⟩
    rw [← hq] at HOK
    have HW2 := hide (show q = false → RpRes s zeroPk [] false from fun h => HWR.out x (fsts ps) ho (by rw [← hq]; exact h))
    have HR2 := hide (show q = true → RpRes s x (fsts ps) true from fun h => HRI.out x (fsts ps) ho (by rw [← hq]; exact h))
    have hb1 := lt_of_heap G1.out
    have hb2 := b2.size
    have G3 := hide g3
    have GN := hide gn
    have HB3 := hide B3
    clear b2 g2 g3 gn ho HNO HWR HRI HPN G1 hown hto hfew hall hq BP B3 B1 B2
    go_wp2_with fail
    obtain ⟨z, hzz⟩ : ∃ z, z = w2.heap.size := ⟨_, rfl⟩
    obtain ⟨w3, hw3⟩ : ∃ W, W = w2.alloc (.cells #[.int .i64 x.kind, .int .i64 x.src, .int .i64 x.dst, .int .i64 x.area, .slice p1 x.heard.length d1, .slice p2 ps.length d2] 27) := ⟨_, rfl⟩
    rw [← hw3] at HOK OW G3 GN HB3 ⊢
    rw [← hzz] at GN hz OW ⊢
    have HZ := hide hzz
    clear hw3 hzz
    refine HOK.out.mono ?_
    rintro e w4 ⟨rfl, b4⟩
    have B4 := hide (HB3.out.trans (b4.mono HB3.out.size))
    have g4 := (b4.block _ (lt_of_heap G3.out)).trans G3.out
    have gn4 := (b4.block _ (lt_of_heap GN.out)).trans GN.out
    have OW4 := hide (OW.out.below b4 (by have := lt_of_heap GN.out; omega))
    have hz4 := lt_of_heap g4
    have hn4 := lt_of_heap gn4
    have hb4 := b4.size
    have s0 := cells_at g4 0
    have f0 := frozen_at g4 0
    have t0 := cells_at gn4 0
    have s1 := cells_at g4 1
    have f1 := frozen_at g4 1
    have t1 := cells_at gn4 1
    have s2 := cells_at g4 2
    have f2 := frozen_at g4 2
    have t2 := cells_at gn4 2
    have s3 := cells_at g4 3
    have f3 := frozen_at g4 3
    have t3 := cells_at gn4 3
    have s4 := cells_at g4 4
    have f4 := frozen_at g4 4
    have t4 := cells_at gn4 4
    have s5 := cells_at g4 5
    have f5 := frozen_at g4 5
    have t5 := cells_at gn4 5
    simp at s0 s1 s2 s3 s4 s5 t0 t1 t2 t3 t4 t5
    have G4 := hide g4
    clear b4 g4 gn4 HOK G3 GN HB3 OW
    cases q with
    | false =>
      have HR := hide (HW2.out rfl)
      clear OW4
      go_wp2_with fail
      have k0 := G4.out
      have k1 := heap_setCell_same _ _ 0 _ _ (.int .i64 0) k0
      have k2 := heap_setCell_same _ _ 1 _ _ (.int .i64 0) k1
      have k3 := heap_setCell_same _ _ 2 _ _ (.int .i64 0) k2
      have k4 := heap_setCell_same _ _ 3 _ _ (.int .i64 0) k3
      have k5 := heap_setCell_same _ _ 4 _ _ (.slice none 0 0) k4
      have k6 := heap_setCell_same _ _ 5 _ _ (.slice none 0 0) k5
      (try simp only [Exit.inBlock, Exit.then])
      refine bodyPost_ret (results_cell_row_tmp rfl _ _ w.heap.size 27 #[.int .i64 0, .int .i64 0, .int .i64 0, .int .i64 0, .slice none 0 0, .slice none 0 0] (0, 0) _ rfl k6 Tryz.underlying27 rfl (by kernel_rfl)) rfl ?_
      clear k0 k1 k2 k3 k4 k5 k6
      refine ⟨zeroPk, .slice none 0 0, .slice none 0 0, [], w.heap.size, false, rfl, HR.out, pk_zero _ _ ?_, ?_⟩
      · simp; omega
      · repeat (refine Below.setCell ?_ (by show w.heap.size ≤ w.heap.size; omega) _)
        exact B4.out
    | true =>
      have HR := hide (HR2.out rfl)
      go_wp2_with fail
      have k0 := G4.out
      have k1 := heap_setCell_same _ _ 0 _ _ (.int .i64 x.kind) k0
      have k2 := heap_setCell_same _ _ 1 _ _ (.int .i64 x.src) k1
      have k3 := heap_setCell_same _ _ 2 _ _ (.int .i64 x.dst) k2
      have k4 := heap_setCell_same _ _ 3 _ _ (.int .i64 x.area) k3
      have k5 := heap_setCell_same _ _ 4 _ _ (.slice p1 x.heard.length d1) k4
      have k6 := heap_setCell_same _ _ 5 _ _ (.slice p2 ps.length d2) k5
      have hkeep : ∀ k, w.heap.size < k → ((((((w4.setCell ⟨w.heap.size, 0, none⟩ (.int .i64 x.kind)).setCell ⟨w.heap.size, 1, none⟩ (.int .i64 x.src)).setCell ⟨w.heap.size, 2, none⟩ (.int .i64 x.dst)).setCell ⟨w.heap.size, 3, none⟩ (.int .i64 x.area)).setCell ⟨w.heap.size, 4, none⟩ (.slice p1 x.heard.length d1)).setCell ⟨w.heap.size, 5, none⟩ (.slice p2 ps.length d2)).heap[k]? = w4.heap[k]? := fun k hk => by
        rw [heap_setCell_other _ ⟨w.heap.size, 5, none⟩ _ _ (by show k ≠ w.heap.size; omega), heap_setCell_other _ ⟨w.heap.size, 4, none⟩ _ _ (by show k ≠ w.heap.size; omega), heap_setCell_other _ ⟨w.heap.size, 3, none⟩ _ _ (by show k ≠ w.heap.size; omega), heap_setCell_other _ ⟨w.heap.size, 2, none⟩ _ _ (by show k ≠ w.heap.size; omega), heap_setCell_other _ ⟨w.heap.size, 1, none⟩ _ _ (by show k ≠ w.heap.size; omega), heap_setCell_other _ ⟨w.heap.size, 0, none⟩ _ _ (by show k ≠ w.heap.size; omega)]
      have hsize : ((((((w4.setCell ⟨w.heap.size, 0, none⟩ (.int .i64 x.kind)).setCell ⟨w.heap.size, 1, none⟩ (.int .i64 x.src)).setCell ⟨w.heap.size, 2, none⟩ (.int .i64 x.dst)).setCell ⟨w.heap.size, 3, none⟩ (.int .i64 x.area)).setCell ⟨w.heap.size, 4, none⟩ (.slice p1 x.heard.length d1)).setCell ⟨w.heap.size, 5, none⟩ (.slice p2 ps.length d2)).heap.size = w4.heap.size := by simp
      (try simp only [Exit.inBlock, Exit.then])
      refine bodyPost_ret (results_cell_row_tmp rfl _ _ w.heap.size 27 #[.int .i64 x.kind, .int .i64 x.src, .int .i64 x.dst, .int .i64 x.area, .slice p1 x.heard.length d1, .slice p2 ps.length d2] (0, 0) _ rfl k6 Tryz.underlying27 rfl (by kernel_rfl)) rfl ?_
      clear k0 k1 k2 k3 k4 k5 k6
      refine ⟨x, _, _, ps, m, true, rfl, HR.out, ((OW4.out.keep (fun k h1 _ _ => hkeep k (by omega))).wide (by omega) (by rw [hsize]; omega)), ?_⟩
      repeat (refine Below.setCell ?_ (by show w.heap.size ≤ w.heap.size; omega) _)
      exact B4.out
end Go.Proofs.YtchmmekhfcojgaaGreatDoor
