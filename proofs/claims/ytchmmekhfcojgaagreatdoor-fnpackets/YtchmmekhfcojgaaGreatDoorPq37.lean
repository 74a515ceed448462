/-
  impl.packetIn: its walk.
-/
import Derived.Test.YtchmmekhfcojgaaGreatDoorPq34
namespace Go.Proofs.YtchmmekhfcojgaaGreatDoor
open Go.RowKit

set_option linter.unusedSimpArgs false

theorem Pst.start (w : World) (s : ByteArray) : Pst w (((w.alloc (.cells #[.int .i64 0, .int .i64 0, .int .i64 0, .int .i64 0, .slice none 0 0, .slice none 0 0] 27)).alloc (.cells #[.bool false] 4)).alloc (.cells #[.string s, .int .i64 0, .bool false] 91)) s 0 #[.int .i64 0, .int .i64 0, .int .i64 0, .int .i64 0, .slice none 0 0, .slice none 0 0] :=
  ⟨(((Below.refl w.heap.size w).alloc (by simp) _).alloc (by simp) _).alloc (by simp; omega) _, h3_0 w _ _ _, h3_1 w _ _ _, h3_2 w _ _ _⟩

theorem Pst.size {w W : World} {s : ByteArray} {q : Nat} {cs : Array Value} (h : Pst w W s q cs) : w.heap.size + 1 + 1 < W.heap.size := lt_of_heap h.rd

/-- a field of the packet is set -/
theorem Pst.set {w W : World} {s : ByteArray} {q : Nat} {cs : Array Value} (h : Pst w W s q cs) (j : Nat) (u : Value) : Pst w (W.setCell ⟨w.heap.size, j, none⟩ u) s q (cs.setIfInBounds j u) where
  b := h.b.setCell (p := ⟨w.heap.size, j, none⟩) (Nat.le_refl _) u
  pk := heap_setCell_same W w.heap.size j cs _ u h.pk
  ok := (heap_setCell_other W ⟨w.heap.size, j, none⟩ _ _ (by show w.heap.size + 1 ≠ w.heap.size; omega)).trans h.ok
  rd := (heap_setCell_other W ⟨w.heap.size, j, none⟩ _ _ (by show w.heap.size + 1 + 1 ≠ w.heap.size; omega)).trans h.rd

theorem IntsOwn.set {w W : World} {lo m j : Nat} {u v : Value} {l : List Int} (h : IntsOwn W lo m v l) (hl : w.heap.size < lo) : IntsOwn (W.setCell ⟨w.heap.size, j, none⟩ u) lo m v l :=
  h.keep (fun k h1 _ _ => heap_setCell_other W ⟨w.heap.size, j, none⟩ _ _ (by show k ≠ w.heap.size; omega))

theorem RecsOwn.set9 {w W : World} {lo m j : Nat} {u v : Value} {l : List RP} (h : RecsOwn W lo m v l) (hl : w.heap.size < lo) : RecsOwn (W.setCell ⟨w.heap.size, j, none⟩ u) lo m v l :=
  h.keep (fun k h1 _ _ => heap_setCell_other W ⟨w.heap.size, j, none⟩ _ _ (by show k ≠ w.heap.size; omega))

abbrev putV (W : World) (r : Nat) (c0 c1 c2 c3 c4 c5 : Value) : World := (((((W.setCell ⟨r, 0, none⟩ c0).setCell ⟨r, 1, none⟩ c1).setCell ⟨r, 2, none⟩ c2).setCell ⟨r, 3, none⟩ c3).setCell ⟨r, 4, none⟩ c4).setCell ⟨r, 5, none⟩ c5

theorem putV_other {W : World} {r k : Nat} {c0 c1 c2 c3 c4 c5 : Value} (h : k ≠ r) : (putV W r c0 c1 c2 c3 c4 c5).heap[k]? = W.heap[k]? := by
  unfold putV
  rw [heap_setCell_other _ ⟨r, 5, none⟩ _ _ h, heap_setCell_other _ ⟨r, 4, none⟩ _ _ h, heap_setCell_other _ ⟨r, 3, none⟩ _ _ h, heap_setCell_other _ ⟨r, 2, none⟩ _ _ h, heap_setCell_other _ ⟨r, 1, none⟩ _ _ h, heap_setCell_other _ ⟨r, 0, none⟩ _ _ h]

/-- the end: the packet is set once more, and that it is one -/
theorem pin_end {w W : World} {s : ByteArray} {q m : Nat} {a1 a2 : Value} {x : PkD} {ps : List RP} (h : Pst w W s q #[.int .i64 x.kind, .int .i64 x.src, .int .i64 x.dst, .int .i64 x.area, a1, a2]) (h1 : IntsOwn W (w.heap.size + 3) m a1 x.heard) (h2 : RecsOwn W m W.heap.size a2 ps) (hm : w.heap.size + 3 ≤ m) (hm2 : m ≤ W.heap.size) :
    ((putV W w.heap.size (.int .i64 x.kind) (.int .i64 x.src) (.int .i64 x.dst) (.int .i64 x.area) a1 a2).setCell ⟨w.heap.size + 1, 0, none⟩ (.bool true)).heap[w.heap.size]? = some (.cells #[.int .i64 x.kind, .int .i64 x.src, .int .i64 x.dst, .int .i64 x.area, a1, a2] 27) ∧
    ((putV W w.heap.size (.int .i64 x.kind) (.int .i64 x.src) (.int .i64 x.dst) (.int .i64 x.area) a1 a2).setCell ⟨w.heap.size + 1, 0, none⟩ (.bool true)).heap[w.heap.size + 1]? = some (.cells #[.bool true] 4) ∧
    Below w.heap.size w (((putV W w.heap.size (.int .i64 x.kind) (.int .i64 x.src) (.int .i64 x.dst) (.int .i64 x.area) a1 a2).setCell ⟨w.heap.size + 1, 0, none⟩ (.bool true)).alloc (.cells #[] 86)) ∧
    PkOwn (((putV W w.heap.size (.int .i64 x.kind) (.int .i64 x.src) (.int .i64 x.dst) (.int .i64 x.area) a1 a2).setCell ⟨w.heap.size + 1, 0, none⟩ (.bool true)).alloc (.cells #[] 86)) w.heap.size (((putV W w.heap.size (.int .i64 x.kind) (.int .i64 x.src) (.int .i64 x.dst) (.int .i64 x.area) a1 a2).setCell ⟨w.heap.size + 1, 0, none⟩ (.bool true)).alloc (.cells #[] 86)).heap.size a1 a2 x ps m := by
  have p := (((((h.set 0 (.int .i64 x.kind)).set 1 (.int .i64 x.src)).set 2 (.int .i64 x.dst)).set 3 (.int .i64 x.area)).set 4 a1).set 5 a2
  simp only [List.setIfInBounds_toArray, List.set_cons_zero, List.set_cons_succ] at p
  have hk : ∀ k, w.heap.size + 3 ≤ k → k < W.heap.size → (((putV W w.heap.size (.int .i64 x.kind) (.int .i64 x.src) (.int .i64 x.dst) (.int .i64 x.area) a1 a2).setCell ⟨w.heap.size + 1, 0, none⟩ (.bool true)).alloc (.cells #[] 86)).heap[k]? = W.heap[k]? := by
    intro k h1 h2
    rw [Below.heap_alloc _ _ _ (by simp; omega), heap_setCell_other _ ⟨w.heap.size + 1, 0, none⟩ k _ (by show k ≠ w.heap.size + 1; omega), putV_other (by omega)]
  have y2 := heap_setCell_same _ (w.heap.size + 1) 0 _ _ (.bool true) p.ok
  simp only [List.setIfInBounds_toArray, List.set_cons_zero] at y2
  have b2 := p.b.setCell (p := ⟨w.heap.size + 1, 0, none⟩) (by show w.heap.size ≤ w.heap.size + 1; omega) (.bool true)
  refine ⟨(heap_setCell_other _ ⟨w.heap.size + 1, 0, none⟩ w.heap.size _ (by show w.heap.size ≠ w.heap.size + 1; omega)).trans p.pk, y2, b2.alloc b2.size _, ⟨by omega, by simp; omega, ?_, ?_⟩⟩
  · exact (h1.keep (fun k a _ c => hk k a c)).wide (by omega) (Nat.le_refl _)
  · exact (h2.keep (fun k a _ c => hk k (by omega) c)).wide (Nat.le_refl _) (by simp)

theorem pin_done {w W : World} {s : ByteArray} {q m : Nat} {a1 a2 : Value} {x : PkD} {ps : List RP} {o : Option (PkD × List RecD)} (h : Pst w W s q #[.int .i64 x.kind, .int .i64 x.src, .int .i64 x.dst, .int .i64 x.area, a1, a2]) (h1 : IntsOwn W (w.heap.size + 3) m a1 x.heard) (h2 : RecsOwn W m W.heap.size a2 ps) (hm : w.heap.size + 3 ≤ m) (hm2 : m ≤ W.heap.size) (ho : o = some (x, fsts ps)) (tmps : Array Value)
    (t2 : tmps.getD 2 undef = .pointer (some ⟨w.heap.size, 0, none⟩)) (t3 : tmps.getD 3 undef = .pointer (some ⟨w.heap.size + 1, 0, none⟩)) :
    bodyPostD Tryz.prog Tryz.f22 (fun e w' => PinOut o w e w') Exit.ret { tmps := tmps, defers := [{ target := Target.fn (Fn.func 49) #[.pointer (some ⟨w.heap.size, 0, none⟩), .pointer (some ⟨w.heap.size + 1, 0, none⟩)], args := #[] }] } (((((((W.setCell ⟨w.heap.size, 0, none⟩ (.int .i64 x.kind)).setCell ⟨w.heap.size, 1, none⟩ (.int .i64 x.src)).setCell ⟨w.heap.size, 2, none⟩ (.int .i64 x.dst)).setCell ⟨w.heap.size, 3, none⟩ (.int .i64 x.area)).setCell ⟨w.heap.size, 4, none⟩ a1).setCell ⟨w.heap.size, 5, none⟩ a2).setCell ⟨w.heap.size + 1, 0, none⟩ (.bool true)) := by
  obtain ⟨f1, f2, f3, f4⟩ := pin_end h h1 h2 hm hm2
  have hR : PinOut o w (.returned (.tuple #[pkV x a1 a2, .bool true])) (((putV W w.heap.size (.int .i64 x.kind) (.int .i64 x.src) (.int .i64 x.dst) (.int .i64 x.area) a1 a2).setCell ⟨w.heap.size + 1, 0, none⟩ (.bool true)).alloc (.cells #[] 86)) := ⟨f3, .inr ⟨x, a1, a2, ps, m, ho, rfl, f4⟩⟩
  exact pin_told (R := fun e w' => PinOut o w e w') f1 f2 t2 t3 hR

set_option maxRecDepth 100000 in
set_option maxHeartbeats 800000 in
theorem pin_any (s : ByteArray) (w : World) (hs : s.size ≤ 1048576) :
    Calls Tryz.prog 22 #[.string s] w fun e w' => PinOut (pinR s) w e w' := by
  have hmf : ∀ (fn : Fn) (first cap : Array Value) (w : World), (Instr.makeFunc fn first cap).run Tryz.prog w = .ok (.func fn first cap) w := fun _ _ _ _ => rfl
  have P0 := hide (Pst.start w s)
  have H1 := hide (oneQ_any (w.heap.size + 1 + 1) 0 s _ hs (by omega) P0.out.rd)
  go_enter_defers Tryz.func22, Tryz.ntmps22
  go_wp2_with fail
  refine H1.out.mono ?_
  rintro e w1 ⟨g1, hq | hq⟩
  · obtain ⟨h1, rfl⟩ := hq
    have FB := hide (P0.out.below g1)
    have FP := hide (P0.out.pk2 g1)
    have FO := hide (P0.out.ok2 g1)
    have FN := hide (show pinR s = none by unfold pinR; simp [h1])
    clear g1 h1
    go_wp2
    exact pin_fault FB.out FP.out FO.out rfl rfl FN.out
  obtain ⟨v1, q1, h1, rfl, r1⟩ := hq
  have P1 := hide (P0.out.next g1 r1)
  have HE1 := hide h1
  clear r1 g1 H1 P0 h1
  have H2 := hide (oneQ_any (w.heap.size + 1 + 1) q1 s w1 hs (oneO_le HE1.out) P1.out.rd)
  go_wp2_with fail
  refine H2.out.mono ?_
  rintro e w2 ⟨g2, hq | hq⟩
  · obtain ⟨h2, rfl⟩ := hq
    have FB := hide (P1.out.below g2)
    have FP := hide (P1.out.pk2 g2)
    have FO := hide (P1.out.ok2 g2)
    have FN := hide (show pinR s = none by unfold pinR; simp [HE1.out, h2])
    clear g2 h2
    go_wp2
    exact pin_fault FB.out FP.out FO.out rfl rfl FN.out
  obtain ⟨v2, q2, h2, rfl, r2⟩ := hq
  have P2 := hide (P1.out.next g2 r2)
  have HE2 := hide h2
  clear r2 g2 H2 P1 h2
  have H3 := hide (oneQ_any (w.heap.size + 1 + 1) q2 s w2 hs (oneO_le HE2.out) P2.out.rd)
  go_wp2_with fail
  refine H3.out.mono ?_
  rintro e w3 ⟨g3, hq | hq⟩
  · obtain ⟨h3, rfl⟩ := hq
    have FB := hide (P2.out.below g3)
    have FP := hide (P2.out.pk2 g3)
    have FO := hide (P2.out.ok2 g3)
    have FN := hide (show pinR s = none by unfold pinR; simp [HE1.out, HE2.out, h3])
    clear g3 h3
    go_wp2
    exact pin_fault FB.out FP.out FO.out rfl rfl FN.out
  obtain ⟨v3, q3, h3, rfl, r3⟩ := hq
  have P3 := hide (P2.out.next g3 r3)
  have HE3 := hide h3
  clear r3 g3 H3 P2 h3
  have H4 := hide (oneQ_any (w.heap.size + 1 + 1) q3 s w3 hs (oneO_le HE3.out) P3.out.rd)
  go_wp2_with fail
  refine H4.out.mono ?_
  rintro e w4 ⟨g4, hq | hq⟩
  · obtain ⟨h4, rfl⟩ := hq
    have FB := hide (P3.out.below g4)
    have FP := hide (P3.out.pk2 g4)
    have FO := hide (P3.out.ok2 g4)
    have FN := hide (show pinR s = none by unfold pinR; simp [HE1.out, HE2.out, HE3.out, h4])
    clear g4 h4
    go_wp2
    exact pin_fault FB.out FP.out FO.out rfl rfl FN.out
  obtain ⟨v4, q4, h4, rfl, r4⟩ := hq
  have P4 := hide (P3.out.next g4 r4)
  have HE4 := hide h4
  clear r4 g4 H4 P3 h4
  have u0 := cells_at P4.out.pk 0
  have u1 := cells_at P4.out.pk 1
  have u2 := cells_at P4.out.pk 2
  have u3 := cells_at P4.out.pk 3
  simp at u0 u1 u2 u3
  have fu := frozen_at P4.out.pk
  have p5 := (((P4.out.set 0 (.int .i64 v1)).set 1 (.int .i64 v2)).set 2 (.int .i64 v3)).set 3 (.int .i64 v4)
  simp only [List.setIfInBounds_toArray, List.set_cons_zero, List.set_cons_succ] at p5
  have P5 := hide p5
  have H5 := hide (heardP_any (w.heap.size + 1 + 1) q4 s _ hs (oneO_le HE4.out) P5.out.rd)
  clear P4 p5
  go_wp2_with fail
  refine H5.out.mono ?_
  clear u0 u1 u2 u3 fu H5
  rintro e w6 ⟨g6, hq | hq⟩
  · obtain ⟨h6, rfl⟩ := hq
    have FB := hide (P5.out.below g6)
    have FP := hide (P5.out.pk2 g6)
    have FO := hide (P5.out.ok2 g6)
    have FN := hide (show pinR s = none by unfold pinR; simp [HE1.out, HE2.out, HE3.out, HE4.out, h6])
    clear g6 h6
    go_wp2
    exact pin_fault FB.out FP.out FO.out rfl rfl FN.out
  obtain ⟨n1, l, q6, h6, rfl, o6, r6⟩ := hq
  have P6 := hide (P5.out.next g6 r6)
  have HE5 := hide h6
  have HL := hide (heardR_le (oneO_le HE4.out) h6)
  have hz5 := P5.out.size
  have O6 := hide (IntsOwn.of (owns_baseS (b0 := w.heap.size + 3) o6 (by omega)))
  obtain ⟨n1a, n1c, rfl⟩ := owns_lenS o6
  have u4 := cells_at P6.out.pk 4
  simp at u4
  have fu := frozen_at P6.out.pk
  have p7 := P6.out.set 4 (.slice n1a l.length n1c)
  simp only [List.setIfInBounds_toArray, List.set_cons_zero, List.set_cons_succ] at p7
  have P7 := hide p7
  have O7 := hide (O6.out.set (w := w) (j := 4) (u := .slice n1a l.length n1c) (by omega))
  have H7 := hide (recordsP_any (w.heap.size + 1 + 1) q6 s _ hs HL.out.1 P7.out.rd)
  clear r6 g6 h6 o6 P5 p7 O6 hz5 P6
  go_wp2_with fail
  refine H7.out.mono ?_
  clear u4 fu H7
  rintro e w8 ⟨g8, hq | hq⟩
  · obtain ⟨h8, rfl⟩ := hq
    have FB := hide (P7.out.below g8)
    have FP := hide (P7.out.pk2 g8)
    have FO := hide (P7.out.ok2 g8)
    have FN := hide (show pinR s = none by unfold pinR; simp [HE1.out, HE2.out, HE3.out, HE4.out, HE5.out, h8])
    clear g8 h8
    go_wp2
    exact pin_fault FB.out FP.out FO.out rfl rfl FN.out
  obtain ⟨n2, ps, q8, h8, rfl, o8, r8⟩ := hq
  have P8 := hide (P7.out.next g8 r8)
  have HE6 := hide h8
  have O8 := hide (O7.out.keep (fun k h1 _ h3 => g8.block k h3 (by intro e; injection e with e; omega)))
  obtain ⟨m, hm⟩ : ∃ m, (w6.setCell ⟨w.heap.size, 4, none⟩ (.slice n1a l.length n1c)).heap.size = m := ⟨_, rfl⟩
  have hm6 : w6.heap.size = m := by rw [← hm]; simp
  have hm3 : w.heap.size + 3 ≤ m := by have := P7.out.size; omega
  have hm8 : m ≤ w8.heap.size := by have := g8.size; omega
  rw [hm] at o8
  rw [hm6] at O8
  obtain ⟨n2a, n2c, rfl⟩ := owns_lenS o8.row
  have u5 := cells_at P8.out.pk 5
  simp at u5
  have fu := frozen_at P8.out.pk
  have p9 := P8.out.set 5 (.slice n2a ps.length n2c)
  simp only [List.setIfInBounds_toArray, List.set_cons_zero, List.set_cons_succ] at p9
  have P9 := hide p9
  have O9 := hide (O8.out.set (w := w) (j := 5) (u := .slice n2a ps.length n2c) (by omega))
  have L9 := hide (o8.set9 (w := w) (j := 5) (u := .slice n2a ps.length n2c) (by omega))
  have z1 := cells_at P8.out.rd 1
  simp at z1
  clear r8 g8 h8 o8 P7 p9 O7 O8 hm hm6
  by_cases hend : (q8 : Int) = (s.size : Int)
  · have HEND := hide (show q8 = s.size by omega)
    go_wp2_with fail
    refine (hold_yes _ _).mono ?_
    rintro e w9 ⟨rfl, h9⟩
    have HSZ := hide (show w9.heap.size = w8.heap.size by rw [← h9]; simp)
    rw [h9] at P9 O9 L9
    clear h9 u5 fu z1 P8 hend
    have u0 := cells_at P9.out.pk 0
    have u1 := cells_at P9.out.pk 1
    have u2 := cells_at P9.out.pk 2
    have u3 := cells_at P9.out.pk 3
    have u4 := cells_at P9.out.pk 4
    have u5 := cells_at P9.out.pk 5
    have u6 := cells_at P9.out.ok 0
    simp at u0 u1 u2 u3 u4 u5 u6
    have fu := frozen_at P9.out.pk
    have fv := frozen_at P9.out.ok
    have FN := hide (show pinR s = some (⟨v1, v2, v3, v4, l⟩, fsts ps) by
      unfold pinR
      simp [HE1.out, HE2.out, HE3.out, HE4.out, HE5.out, HE6.out, pinEnd, HEND.out])
    have FIN := hide (pin_done (x := ⟨v1, v2, v3, v4, l⟩) (ps := ps) (m := m) P9.out O9.out (L9.out.wide (Nat.le_refl _) (show w8.heap.size ≤ w9.heap.size by have := HSZ.out; omega)) hm3 (by have := HSZ.out; omega) FN.out)
    clear P9 O9 L9
    go_wp2
    exact FIN.out _ rfl rfl
  · have FN := hide (show pinR s = none by
      unfold pinR
      simp [HE1.out, HE2.out, HE3.out, HE4.out, HE5.out, HE6.out, pinEnd]
      omega)
    have hd1 : (((q8 : Nat) : Int) == (s.size : Int)) = false := by simp; omega
    have hd2 : decide (q8 = s.size) = false := by simp; omega
    have hd3 : ¬ q8 = s.size := by omega
    have hd4 : (q8 == s.size) = false := by simp; omega
    go_wp2_with fail
    refine (hold_no (w.heap.size + 1 + 1) _).mono ?_
    rintro e w9 ⟨rfl, rfl⟩
    go_wp2
    exact pin_fault P9.out.b P9.out.pk P9.out.ok rfl rfl FN.out
end Go.Proofs.YtchmmekhfcojgaaGreatDoor
