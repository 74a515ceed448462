/-
  impl.ReadPacket: its contract.
  spec.ReadPacket under way: what stands where.
-/
import Derived.Test.YtfccainebmbbdaaDoorRq32
import Derived.Test.YtfccainebmbbdaaDoorRq41
import Derived.Test.YtfccainebmbbdaaDoorRq23
import Derived.Test.YtfccainebmbbdaaDoorRq25
import Derived.Deep.Cut
import Derived.Test.YtfccainebmbbdaaDoorRq34
import Derived.Test.YtfccainebmbbdaaDoorRq35
import Derived.Test.YtfccainebmbbdaaDoorRq40
namespace Go.Proofs.YtfccainebmbbdaaDoor
open Go.RowKit

set_option linter.unusedSimpArgs false

theorem pk_zero (W : World) (lo : Nat) {hi : Nat} (h2 : lo ≤ hi) : PkOwn W lo hi (.slice none 0 0) (.slice none 0 0) zeroPk [] lo where
  o1 := Nat.le_refl _
  o2 := h2
  heard := ⟨World.ownsRow_nil _ _ _ _, fun k e => by cases e⟩
  list := recs_none _ _ _

theorem tot_small {ps : List RP} (h : ∀ r ∈ fsts ps, recOkB r = true) : tot ps ≤ 7 * ps.length := by
  induction ps with
  | nil => simp [tot]
  | cons p ps ih =>
    have h1 := recOk_near (h p.1 (by simp [fsts]))
    have h2 := ih (fun r hr => h r (by simp [fsts] at hr ⊢; exact .inr hr))
    rw [tot_cons]
    simp only [List.length_cons]
    omega

theorem recsA_few {s : ByteArray} {p : Nat} (hp : p ≤ s.size) : ∀ {k : Nat} {l : List RecD} {q : Nat}, recsA s p k = some (l, q) → p + l.length ≤ q
  | 0, l, q, h => by
    simp only [recsA, Option.some.injEq, Prod.mk.injEq] at h
    obtain ⟨rfl, rfl⟩ := h
    simp
  | k + 1, l, q, h => by
    simp only [recsA] at h
    cases e : recsA s p k with
    | none => rw [e] at h; cases h
    | some x =>
      obtain ⟨ys, r⟩ := x
      rw [e] at h
      simp only [Option.bind_some] at h
      cases e2 : recO s r with
      | none => rw [e2] at h; cases h
      | some y =>
        obtain ⟨y, q'⟩ := y
        rw [e2] at h
        simp only [Option.map_some, Option.some.injEq, Prod.mk.injEq] at h
        obtain ⟨rfl, rfl⟩ := h
        have ih := recsA_few hp e
        have hr := (recsA_len hp e).2
        have g := (recO_got hr e2 ⟨hr, rfl⟩).1
        have h1 := congrArg List.length g.2
        have hls : s.data.toList.length = s.size := by rw [Array.length_toList]; rfl
        have h2 : 0 < (shortL y).length := by
          unfold shortL
          rw [List.length_append]
          have : 0 < (varL (recL y).length).length := by unfold varL; split <;> simp
          omega
        simp only [List.length_append, List.length_take] at h1
        have := g.1
        simp
        omega

theorem pinR_few {s : ByteArray} {x : PkD} {xs : List RecD} (h : pinR s = some (x, xs)) : x.heard.length + xs.length ≤ s.size := by
  have h1 := (pinR_got h).1
  have h2 := congrArg ByteArray.size h1
  rw [bs_size] at h2
  have h3 : xs.length ≤ (shortsL xs).length := by
    clear h h1 h2
    induction xs with
    | nil => simp
    | cons r xs ih =>
      have : 0 < (shortL r).length := by
        unfold shortL
        rw [List.length_append]
        have : 0 < (varL (recL r).length).length := by unfold varL; split <;> simp
        omega
      have e : shortsL (r :: xs) = shortL r ++ shortsL xs := by simp [shortsL]
      rw [e, List.length_append, List.length_cons]
      omega
  rw [h2]
  unfold pkL
  simp only [List.length_append, List.length_map]
  omega

set_option maxRecDepth 100000 in
set_option maxHeartbeats 4000000 in
theorem irp_any (s : ByteArray) (w : World) (hs : s.size ≤ 1048576) (hT : Steps w) :
    Calls Tryd.prog 5 #[.string s] w fun e w' => ∃ x v1 v2 ps m b, e = .returned (.tuple #[pkV x v1 v2, .bool b]) ∧ RpRes s x (fsts ps) b ∧ PkOwn w' w.heap.size w'.heap.size v1 v2 x ps m ∧ Below w.heap.size w w' := by
  have B0 : Below w.heap.size w (w.alloc (.cells #[.int .i64 0, .int .i64 0, .int .i64 0, .int .i64 0, .slice none 0 0, .slice none 0 0] 25)) := (Below.refl _ _).alloc (Nat.le_refl _) _
  have g0 := heap_alloc_new w (.cells #[.int .i64 0, .int .i64 0, .int .i64 0, .int .i64 0, .slice none 0 0, .slice none 0 0] 25)
  have HUN := hide (iun_any s (w.alloc (.cells #[.int .i64 0, .int .i64 0, .int .i64 0, .int .i64 0, .slice none 0 0, .slice none 0 0] 25)) hs (steps_later hT B0 (Nat.le_refl _)))
  by_cases hU : 4 ≤ s.size ∧ s.size - 4 ≤ 20000 ∧ unT s (s.size - 4)
  case neg =>
    rw [unV_no hU] at HUN
    have HR := hide (rp_unsealed hU)
    clear hU hT
    go_enter Tryd.func5, Tryd.ntmps5
    go_wp2_with fail
    refine HUN.out.mono ?_
    rintro e w1 ⟨rfl, b1⟩
    have B1 : Below w.heap.size w w1 := B0.trans (b1.mono B0.size)
    have g1 := (b1.block _ (lt_of_heap g0)).trans g0
    have hz := lt_of_heap g1
    have s0 := cells_at g1 0
    have f0 := frozen_at g1 0
    have s1 := cells_at g1 1
    have f1 := frozen_at g1 1
    have s2 := cells_at g1 2
    have f2 := frozen_at g1 2
    have s3 := cells_at g1 3
    have f3 := frozen_at g1 3
    have s4 := cells_at g1 4
    have f4 := frozen_at g1 4
    have s5 := cells_at g1 5
    have f5 := frozen_at g1 5
    simp at s0 s1 s2 s3 s4 s5
    have G1 := hide g1
    clear b1 B0 g0 g1 HUN
    go_wp2_with fail
    have k0 := G1.out
    have k1 := heap_setCell_same _ _ 0 _ _ (.int .i64 0) k0
    have k2 := heap_setCell_same _ _ 1 _ _ (.int .i64 0) k1
    have k3 := heap_setCell_same _ _ 2 _ _ (.int .i64 0) k2
    have k4 := heap_setCell_same _ _ 3 _ _ (.int .i64 0) k3
    have k5 := heap_setCell_same _ _ 4 _ _ (.slice none 0 0) k4
    have k6 := heap_setCell_same _ _ 5 _ _ (.slice none 0 0) k5
    (try simp only [Exit.inBlock, Exit.then])
    refine bodyPost_ret (results_cell_row_tmp rfl _ _ w.heap.size 25 #[.int .i64 0, .int .i64 0, .int .i64 0, .int .i64 0, .slice none 0 0, .slice none 0 0] (0, 0) _ rfl k6 Tryd.underlying25 rfl (by kernel_rfl)) rfl ?_
    clear k0 k1 k2 k3 k4 k5 k6
    refine ⟨zeroPk, .slice none 0 0, .slice none 0 0, [], w.heap.size, false, rfl, HR.out, pk_zero _ _ ?_, ?_⟩
    · simp; omega
    · repeat (refine Below.setCell ?_ (by show w.heap.size ≤ w.heap.size; omega) _)
      exact B1
  obtain ⟨h1, h2, h3⟩ := hU
  rw [unV_yes h1 h2 h3] at HUN
  obtain ⟨t, ht⟩ : ∃ t, t = s.extract 0 (s.size - 4) := ⟨_, rfl⟩
  rw [← ht] at HUN
  have hts : t.size ≤ 20000 := by rw [ht, ByteArray.size_extract]; omega
  have HNO := hide (show pinR t = none → RpRes s zeroPk [] false from fun h => rp_unread (by rw [← ht]; exact h))
  have HWR := hide (show ∀ x xs, pinR t = some (x, xs) → pkB x xs = false → RpRes s zeroPk [] false from fun x xs h hp => rp_wrong (by rw [← ht]; exact h) hp)
  have HRI := hide (show ∀ x xs, pinR t = some (x, xs) → pkB x xs = true → RpRes s x xs true from fun x xs h hp => rp_right h1 h3 (by rw [← ht]; exact h) hp)
  have HPN := hide (fun W => pin_any t W (by omega))
  clear h1 h2 h3 ht hT
  go_enter Tryd.func5, Tryd.ntmps5
  go_wp2_with fail
  refine HUN.out.mono ?_
  rintro e w1 ⟨rfl, b1⟩
  have B1 : Below w.heap.size w w1 := B0.trans (b1.mono B0.size)
  have g1 := (b1.block _ (lt_of_heap g0)).trans g0
  have G1 := hide g1
  clear b1 B0 g0 g1 HUN
  go_wp2_with fail
  refine (HPN.out _).mono ?_
  rintro e w2 ⟨b2, h⟩
  have B2 : Below w.heap.size w w2 := B1.trans (b2.mono B1.size)
  have g2 := (b2.block _ (lt_of_heap G1.out)).trans G1.out
  have hz := lt_of_heap g2
  rcases h with ⟨hn, rfl⟩ | ⟨x, v1, v2, ps, m, ho, rfl, hown⟩
  · have hzp : pkV zeroPk (.slice none 0 0) (.slice none 0 0) = .agg #[.int .i64 0, .int .i64 0, .int .i64 0, .int .i64 0, .slice none 0 0, .slice none 0 0] := rfl
    rw [hzp]
    clear hzp
    have HR := hide (HNO.out hn)
    have BP : Below w2.heap.size w2 (w2.alloc (.cells #[.int .i64 0, .int .i64 0, .int .i64 0, .int .i64 0, .slice none 0 0, .slice none 0 0] 25)) := (Below.refl _ _).alloc (Nat.le_refl _) _
    have g3 := (BP.block _ hz).trans g2
    have B3 := B2.trans (BP.mono B2.size)
    have G3 := hide g3
    have HB3 := hide B3
    clear b2 g2 g3 hn HNO HWR HRI HPN G1 B1 B2 BP B3
    go_upto_region 5 with fail
    obtain ⟨w3, hw3⟩ : ∃ W, W = w2.alloc (.cells #[.int .i64 0, .int .i64 0, .int .i64 0, .int .i64 0, .slice none 0 0, .slice none 0 0] 25) := ⟨_, rfl⟩
    rw [← hw3] at G3 HB3 ⊢
    have hz3 := lt_of_heap G3.out
    clear hw3
    have g3 := G3.out
    have B3 := HB3.out
    have s0 := cells_at g3 0
    have f0 := frozen_at g3 0
    have s1 := cells_at g3 1
    have f1 := frozen_at g3 1
    have s2 := cells_at g3 2
    have f2 := frozen_at g3 2
    have s3 := cells_at g3 3
    have f3 := frozen_at g3 3
    have s4 := cells_at g3 4
    have f4 := frozen_at g3 4
    have s5 := cells_at g3 5
    have f5 := frozen_at g3 5
    simp at s0 s1 s2 s3 s4 s5
    clear g3
    go_wp2_with fail
    have k0 := G3.out
    have k1 := heap_setCell_same _ _ 0 _ _ (.int .i64 0) k0
    have k2 := heap_setCell_same _ _ 1 _ _ (.int .i64 0) k1
    have k3 := heap_setCell_same _ _ 2 _ _ (.int .i64 0) k2
    have k4 := heap_setCell_same _ _ 3 _ _ (.int .i64 0) k3
    have k5 := heap_setCell_same _ _ 4 _ _ (.slice none 0 0) k4
    have k6 := heap_setCell_same _ _ 5 _ _ (.slice none 0 0) k5
    (try simp only [Exit.inBlock, Exit.then])
    refine bodyPost_ret (results_cell_row_tmp rfl _ _ w.heap.size 25 #[.int .i64 0, .int .i64 0, .int .i64 0, .int .i64 0, .slice none 0 0, .slice none 0 0] (0, 0) _ rfl k6 Tryd.underlying25 rfl (by kernel_rfl)) rfl ?_
    clear k0 k1 k2 k3 k4 k5 k6
    refine ⟨zeroPk, .slice none 0 0, .slice none 0 0, [], w.heap.size, false, rfl, HR.out, pk_zero _ _ ?_, ?_⟩
    · simp; omega
    · repeat (refine Below.setCell ?_ (by show w.heap.size ≤ w.heap.size; omega) _)
      exact B3
  · obtain ⟨⟨p1, d1, rfl⟩, ⟨p2, d2, rfl⟩⟩ := hown.in.shapes
    have hfew := pinR_few ho
    have hall := (pinR_got ho).2
    have hto : totP x ps ≤ 1048576 := by
      have h1 := tot_small hall
      have h2 : (fsts ps).length = ps.length := by simp [fsts]
      unfold totP
      omega
    have BP : Below w2.heap.size w2 (w2.alloc (.cells #[.int .i64 x.kind, .int .i64 x.src, .int .i64 x.dst, .int .i64 x.area, .slice p1 x.heard.length d1, .slice p2 ps.length d2] 25)) := (Below.refl _ _).alloc (Nat.le_refl _) _
    have g3 := (BP.block _ hz).trans g2
    have gn := heap_alloc_new w2 (.cells #[.int .i64 x.kind, .int .i64 x.src, .int .i64 x.dst, .int .i64 x.area, .slice p1 x.heard.length d1, .slice p2 ps.length d2] 25)
    have HOK := hide (ipacketOk_any _ _ x ps (w2.alloc (.cells #[.int .i64 x.kind, .int .i64 x.src, .int .i64 x.dst, .int .i64 x.area, .slice p1 x.heard.length d1, .slice p2 ps.length d2] 25)) hto (hown.in.then BP))
    have B3 := B2.trans (BP.mono B2.size)
    have OW := hide (hown.below BP (Nat.le_refl _))
    obtain ⟨q, hq⟩ : ∃ q, q = pkB x (fsts ps) := ⟨_, rfl⟩
    rw [← hq] at HOK
    have HW2 := hide (show q = false → RpRes s zeroPk [] false from fun h => HWR.out x (fsts ps) ho (by rw [← hq]; exact h))
    have HR2 := hide (show q = true → RpRes s x (fsts ps) true from fun h => HRI.out x (fsts ps) ho (by rw [← hq]; exact h))
    have hb1 := lt_of_heap G1.out
    have hb2 := b2.size
    have G3 := hide g3
    have GN := hide gn
    have HB3 := hide B3
    clear b2 g2 g3 gn ho HNO HWR HRI HPN G1 hown hto hfew hall hq BP B3 B1 B2
    go_wp2_with fail
    obtain ⟨z, hzz⟩ : ∃ z, z = w2.heap.size := ⟨_, rfl⟩
    obtain ⟨w3, hw3⟩ : ∃ W, W = w2.alloc (.cells #[.int .i64 x.kind, .int .i64 x.src, .int .i64 x.dst, .int .i64 x.area, .slice p1 x.heard.length d1, .slice p2 ps.length d2] 25) := ⟨_, rfl⟩
    rw [← hw3] at HOK OW G3 GN HB3 ⊢
    rw [← hzz] at GN hz OW ⊢
    have HZ := hide hzz
    clear hw3 hzz
    refine HOK.out.mono ?_
    rintro e w4 ⟨rfl, b4⟩
    have B4 := hide (HB3.out.trans (b4.mono HB3.out.size))
    have g4 := (b4.block _ (lt_of_heap G3.out)).trans G3.out
    have gn4 := (b4.block _ (lt_of_heap GN.out)).trans GN.out
    have OW4 := hide (OW.out.below b4 (by have := lt_of_heap GN.out; omega))
    have hz4 := lt_of_heap g4
    have hn4 := lt_of_heap gn4
    have hb4 := b4.size
    have s0 := cells_at g4 0
    have f0 := frozen_at g4 0
    have t0 := cells_at gn4 0
    have s1 := cells_at g4 1
    have f1 := frozen_at g4 1
    have t1 := cells_at gn4 1
    have s2 := cells_at g4 2
    have f2 := frozen_at g4 2
    have t2 := cells_at gn4 2
    have s3 := cells_at g4 3
    have f3 := frozen_at g4 3
    have t3 := cells_at gn4 3
    have s4 := cells_at g4 4
    have f4 := frozen_at g4 4
    have t4 := cells_at gn4 4
    have s5 := cells_at g4 5
    have f5 := frozen_at g4 5
    have t5 := cells_at gn4 5
    simp at s0 s1 s2 s3 s4 s5 t0 t1 t2 t3 t4 t5
    have G4 := hide g4
    clear b4 g4 gn4 HOK G3 GN HB3 OW
    cases q with
    | false =>
      have HR := hide (HW2.out rfl)
      clear OW4
      go_wp2_with fail
      have k0 := G4.out
      have k1 := heap_setCell_same _ _ 0 _ _ (.int .i64 0) k0
      have k2 := heap_setCell_same _ _ 1 _ _ (.int .i64 0) k1
      have k3 := heap_setCell_same _ _ 2 _ _ (.int .i64 0) k2
      have k4 := heap_setCell_same _ _ 3 _ _ (.int .i64 0) k3
      have k5 := heap_setCell_same _ _ 4 _ _ (.slice none 0 0) k4
      have k6 := heap_setCell_same _ _ 5 _ _ (.slice none 0 0) k5
      (try simp only [Exit.inBlock, Exit.then])
      refine bodyPost_ret (results_cell_row_tmp rfl _ _ w.heap.size 25 #[.int .i64 0, .int .i64 0, .int .i64 0, .int .i64 0, .slice none 0 0, .slice none 0 0] (0, 0) _ rfl k6 Tryd.underlying25 rfl (by kernel_rfl)) rfl ?_
      clear k0 k1 k2 k3 k4 k5 k6
      refine ⟨zeroPk, .slice none 0 0, .slice none 0 0, [], w.heap.size, false, rfl, HR.out, pk_zero _ _ ?_, ?_⟩
      · simp; omega
      · repeat (refine Below.setCell ?_ (by show w.heap.size ≤ w.heap.size; omega) _)
        exact B4.out
    | true =>
      have HR := hide (HR2.out rfl)
      go_wp2_with fail
      have k0 := G4.out
      have k1 := heap_setCell_same _ _ 0 _ _ (.int .i64 x.kind) k0
      have k2 := heap_setCell_same _ _ 1 _ _ (.int .i64 x.src) k1
      have k3 := heap_setCell_same _ _ 2 _ _ (.int .i64 x.dst) k2
      have k4 := heap_setCell_same _ _ 3 _ _ (.int .i64 x.area) k3
      have k5 := heap_setCell_same _ _ 4 _ _ (.slice p1 x.heard.length d1) k4
      have k6 := heap_setCell_same _ _ 5 _ _ (.slice p2 ps.length d2) k5
      have hkeep : ∀ k, w.heap.size < k → ((((((w4.setCell ⟨w.heap.size, 0, none⟩ (.int .i64 x.kind)).setCell ⟨w.heap.size, 1, none⟩ (.int .i64 x.src)).setCell ⟨w.heap.size, 2, none⟩ (.int .i64 x.dst)).setCell ⟨w.heap.size, 3, none⟩ (.int .i64 x.area)).setCell ⟨w.heap.size, 4, none⟩ (.slice p1 x.heard.length d1)).setCell ⟨w.heap.size, 5, none⟩ (.slice p2 ps.length d2)).heap[k]? = w4.heap[k]? := fun k hk => by
        rw [heap_setCell_other _ ⟨w.heap.size, 5, none⟩ _ _ (by show k ≠ w.heap.size; omega), heap_setCell_other _ ⟨w.heap.size, 4, none⟩ _ _ (by show k ≠ w.heap.size; omega), heap_setCell_other _ ⟨w.heap.size, 3, none⟩ _ _ (by show k ≠ w.heap.size; omega), heap_setCell_other _ ⟨w.heap.size, 2, none⟩ _ _ (by show k ≠ w.heap.size; omega), heap_setCell_other _ ⟨w.heap.size, 1, none⟩ _ _ (by show k ≠ w.heap.size; omega), heap_setCell_other _ ⟨w.heap.size, 0, none⟩ _ _ (by show k ≠ w.heap.size; omega)]
      have hsize : ((((((w4.setCell ⟨w.heap.size, 0, none⟩ (.int .i64 x.kind)).setCell ⟨w.heap.size, 1, none⟩ (.int .i64 x.src)).setCell ⟨w.heap.size, 2, none⟩ (.int .i64 x.dst)).setCell ⟨w.heap.size, 3, none⟩ (.int .i64 x.area)).setCell ⟨w.heap.size, 4, none⟩ (.slice p1 x.heard.length d1)).setCell ⟨w.heap.size, 5, none⟩ (.slice p2 ps.length d2)).heap.size = w4.heap.size := by simp
      (try simp only [Exit.inBlock, Exit.then])
      refine bodyPost_ret (results_cell_row_tmp rfl _ _ w.heap.size 25 #[.int .i64 x.kind, .int .i64 x.src, .int .i64 x.dst, .int .i64 x.area, .slice p1 x.heard.length d1, .slice p2 ps.length d2] (0, 0) _ rfl k6 Tryd.underlying25 rfl (by kernel_rfl)) rfl ?_
      clear k0 k1 k2 k3 k4 k5 k6
      refine ⟨x, _, _, ps, m, true, rfl, HR.out, ((OW4.out.keep (fun k h1 _ _ => hkeep k (by omega))).wide (by omega) (by rw [hsize]; omega)), ?_⟩
      repeat (refine Below.setCell ?_ (by show w.heap.size ≤ w.heap.size; omega) _)
      exact B4.out
end Go.Proofs.YtfccainebmbbdaaDoor
namespace Go.Proofs.YtfccainebmbbdaaDoor
open Go.RowKit

structure RpSt (w W : World) (z q : Nat) (s : ByteArray) (p : Nat) (b : Bool) (cs : Array Value) : Prop where
  rd : RdAt W z 35 s p b
  res : W.heap[w.heap.size]? = some (.cells #[.int .i64 0, .int .i64 0, .int .i64 0, .int .i64 0, .slice none 0 0, .slice none 0 0] 25)
  box : W.heap[q]? = some (.cells cs 25)
  bel : Below w.heap.size w W
  o1 : w.heap.size < z
  o2 : z < q

theorem RpSt.keep {w W W' : World} {z q p : Nat} {s : ByteArray} {b : Bool} {cs : Array Value} (h : RpSt w W z q s p b cs) (hb : Below w.heap.size w W') (hk : ∀ k, k ≤ q → k < W.heap.size → W'.heap[k]? = W.heap[k]?) : RpSt w W' z q s p b cs where
  rd := (hk z (by have := h.o2; omega) (lt_of_heap h.rd)).trans h.rd
  res := (hk _ (by have := h.o1; have := h.o2; omega) (lt_of_heap h.res)).trans h.res
  box := (hk q (Nat.le_refl _) (lt_of_heap h.box)).trans h.box
  bel := hb
  o1 := h.o1
  o2 := h.o2

theorem RpSt.read {w W W' : World} {z q p p' : Nat} {s : ByteArray} {b b' : Bool} {cs : Array Value} (h : RpSt w W z q s p b cs) (g : W.grownBy W' (some z)) (r : RdAt W' z 35 s p' b') : RpSt w W' z q s p' b' cs where
  rd := r
  res := (g.block _ (lt_of_heap h.res) (by have := h.o1; simp; omega)).trans h.res
  box := (g.block _ (lt_of_heap h.box) (by have := h.o2; simp; omega)).trans h.box
  bel := h.bel.grown g h.bel.size (fun j e => by have := h.o1; simp at e; omega)
  o1 := h.o1
  o2 := h.o2

theorem RpSt.set {w W : World} {z q p : Nat} {s : ByteArray} {b : Bool} {cs : Array Value} (h : RpSt w W z q s p b cs) (j : Nat) (u : Value) : RpSt w (W.setCell ⟨q, j, none⟩ u) z q s p b (cs.setIfInBounds j u) where
  rd := (heap_setCell_other W ⟨q, j, none⟩ z _ (by have := h.o2; show z ≠ q; omega)).trans h.rd
  res := (heap_setCell_other W ⟨q, j, none⟩ _ _ (by have := h.o1; have := h.o2; show w.heap.size ≠ q; omega)).trans h.res
  box := heap_setCell_same W q j _ _ u h.box
  bel := h.bel.setCell (by have := h.o1; have := h.o2; show w.heap.size ≤ q; omega) u
  o1 := h.o1
  o2 := h.o2

theorem RpSt.alloc {w W : World} {z q p : Nat} {s : ByteArray} {b : Bool} {cs : Array Value} (h : RpSt w W z q s p b cs) (o : Obj) : RpSt w (W.alloc o) z q s p b cs := h.keep (h.bel.alloc h.bel.size o) (fun k _ hk => Below.heap_alloc W o k hk)

theorem RpSt.drew {w W : World} {z q p : Nat} {s : ByteArray} {b : Bool} {cs : Array Value} (h : RpSt w W z q s p b cs) : RpSt w W.drew z q s p b cs := h.keep h.bel.drew (fun _ _ _ => rfl)

theorem RpSt.later {w W W' : World} {z q p : Nat} {s : ByteArray} {b : Bool} {cs : Array Value} (h : RpSt w W z q s p b cs) (hb : Below W.heap.size W W') : RpSt w W' z q s p b cs := h.keep (h.bel.trans (hb.mono h.bel.size)) (fun k _ hk => hb.block k hk)

theorem RpSt.row {w W W' : World} {z q p : Nat} {s : ByteArray} {b : Bool} {cs : Array Value} {row : Option Nat} (h : RpSt w W z q s p b cs) (g : W.grownBy W' row) (hr : ∀ k, row = some k → q < k) : RpSt w W' z q s p b cs :=
  h.keep (h.bel.grown g h.bel.size (fun j e => by have := hr j e; have := h.o1; have := h.o2; omega)) (fun k hk hl => g.block k hl (fun e => by have := hr k e.symm; omega))

theorem oneR_le9 {s : ByteArray} {p : Nat} {b : Bool} (hp : p ≤ s.size) : (oneR s p b).p ≤ s.size := oneR_le hp

theorem varR_nat {s : ByteArray} {p : Nat} {b : Bool} (hp : p ≤ s.size) : ∃ n : Nat, (varR s p b).v = (n : Int) ∧ n ≤ 1000000000 := by
  unfold varR
  split
  · exact ⟨0, rfl, by omega⟩
  · split
    · rename_i a c e
      exact ⟨_, rfl, (rdO_bytes hp e).1⟩
    · exact ⟨0, rfl, by omega⟩

theorem takeB_size (s : ByteArray) (p : Nat) (b : Bool) (n : Nat) : (takeB s p b n).size ≤ s.size := by
  unfold takeB
  split
  · rw [bs_size]; simp
  · rw [ByteArray.size_extract]; omega

theorem readD_near (t : ByteArray) : (readD t).near.length ≤ 6 := by
  cases h : okI t with
  | true => exact recOk_near (text_back h).1
  | false =>
    unfold readD
    rw [h]
    simp [zeroR]
end Go.Proofs.YtfccainebmbbdaaDoor
