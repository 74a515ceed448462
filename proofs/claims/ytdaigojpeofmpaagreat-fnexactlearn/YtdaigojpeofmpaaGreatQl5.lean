/-
  laws.szSelf, toSelf, eqSelf: their contracts.
  spec.SameKey, spec.SameBody: their contracts.
  impl.Record.key, impl.SameKey: their contracts.
  spec.l01In: its contract.
  impl.isIn, cmp.isNaN, cmp.Compare: their contracts.
  spec.Before: its contract.
  Regions that draw their order, by hand: one operation at a time, in the text's order.
  A key of four numbers in a block.
  slices.Compare at two keys, impl.Before: their contracts.
  Where a key stands in a list: spec.l05At, impl's placeOf.
-/
import Derived.Test.YtdaigojpeofmpaaGreatQl4
import Derived.Test.YtdaigojpeofmpaaGreatQl2
import Derived.Laws.StructEq
import Derived.Deep.RegionHeld3
import Derived.ChangeKeysEq
import Derived.Test.YtdaigojpeofmpaaGreatQl1
namespace Go.Proofs.YtdaigojpeofmpaaGreat
open Go.RowKit

theorem SelfIn.net {W : World} {v1 v2 v3 v4 : Value} {x : SelfD} {ps : List RP} {B : Nat} (h : SelfIn W v1 v2 v3 v4 x ps B) : NetAt W (.agg #[.int .i64 x.net.n, v1, v2]) x.net B := ⟨v1, v2, rfl, h.links, h.things⟩

theorem SelfIn.shapes {W : World} {v1 v2 v3 v4 : Value} {x : SelfD} {ps : List RP} {B : Nat} (h : SelfIn W v1 v2 v3 v4 x ps B) : (∃ a c, v1 = .slice a x.net.ls.length c) ∧ (∃ a c, v2 = .slice a x.net.ts.length c) ∧ (∃ a c, v3 = .slice a x.heard.length c) ∧ ∃ a c, v4 = .slice a ps.length c :=
  ⟨h.links.shape, h.things.shape, h.heard.shape, h.store.shape⟩

set_option maxRecDepth 100000 in
set_option maxHeartbeats 1000000 in
theorem szSelf_any (v1 v2 v3 v4 : Value) (x : SelfD) (ps : List RP) (q : Int) (w : World) (hlen : SelfLen x ps) (hq0 : 0 ≤ q) (hq : q ≤ 1048576) (hv : SelfIn w v1 v2 v3 v4 x ps w.heap.size) :
    Calls Tryz.prog 27 #[selfV x v1 v2 v3 v4, .int .i64 q] w fun e w' => ∃ r : Int, e = .returned (.int .i64 r) ∧ (r < 0 ∨ (0 ≤ r ∧ r = q - (totS x ps : Int))) ∧ Below w.heap.size w w' := by
  obtain ⟨⟨a1, c1, rfl⟩, ⟨a2, c2, rfl⟩, ⟨a3, c3, rfl⟩, ⟨a4, c4, rfl⟩⟩ := hv.shapes
  have hm : maxLen = 9223372036854775807 := rfl
  have l1 : (x.net.ls.length : Int) ≤ 9223372036854775807 := by have := hlen.1; omega
  have l2 : (x.net.ts.length : Int) ≤ 9223372036854775807 := by have := hlen.2.1; omega
  have l3 : (x.heard.length : Int) ≤ 9223372036854775807 := by have := hlen.2.2.1; omega
  have HX := hide hv
  have HL := hide hlen
  have HT := hide (show (totS x ps : Int) = (x.net.ls.length : Int) + (x.net.ts.length : Int) + (x.heard.length : Int) + (tot ps : Int) by unfold totS; omega)
  have hsz := szNet_any (.int .i64 x.net.n) a1 a2 x.net.ls.length x.net.ts.length c1 c2 q
  have HSZ := hide hsz
  clear hv hlen hm hsz
  obtain ⟨y, hy⟩ : ∃ y, y = szN q x.net.ls.length x.net.ts.length := ⟨_, rfl⟩
  rw [← hy] at HSZ
  have hy2 : y = -1 ∨ (0 ≤ y ∧ y = q - (x.net.ls.length : Int) - (x.net.ts.length : Int)) := by
    rw [hy]
    unfold szN
    split
    · exact .inl rfl
    · split
      · exact .inl rfl
      · exact .inr ⟨by omega, rfl⟩
  clear hy
  go_enter Tryz.func27, Tryz.ntmps27
  go_wp2_with fail
  refine (HSZ.out _ l1 l2 hq0 hq).mono ?_
  rintro e w1 ⟨rfl, b1⟩
  have g1 : w1.heap[w.heap.size]? = some (.cells #[.int .i64 x.id, .int .i64 x.boot, .int .i64 x.net.n, .slice a1 x.net.ls.length c1, .slice a2 x.net.ts.length c2, .slice a3 x.heard.length c3, .slice a4 ps.length c4] 55) := by rw [b1.block _ (by simp)]; exact heap_alloc_new w _
  have B1 : Below w.heap.size w w1 := ((Below.refl _ _).alloc (Nat.le_refl _) _).trans (b1.mono (by simp))
  clear b1
  rcases hy2 with hy2 | ⟨hy0, hy2⟩
  · subst hy2
    go_wp2
    go_ret
    exact ⟨-1, rfl, .inl (by omega), B1⟩
  have hy1 : ¬ y < 0 := by omega
  have hyq : y ≤ 1048576 := by omega
  have HY2 := hide hy2
  clear hy2
  have s5 := cells_at g1 5
  simp at s5
  have HSI := hide (szIntS_any a3 x.heard.length c3 y w1 l3 hy0 hyq)
  have G1 := hide g1
  clear g1
  go_wp2_with fail
  refine HSI.out.mono ?_
  rintro e w2 ⟨rfl, rfl⟩
  by_cases h3 : y - (x.heard.length : Int) < 0
  · rw [if_pos h3]
    clear s5
    go_wp2
    go_ret
    exact ⟨-1, rfl, .inl (by omega), B1⟩
  rw [if_neg h3]
  clear s5
  obtain ⟨z, hz⟩ : ∃ z, z = y - (x.heard.length : Int) := ⟨_, rfl⟩
  rw [← hz] at h3 ⊢
  have hz0 : 0 ≤ z := by omega
  have hz1 : z ≤ 1048576 := by omega
  have HZ := hide hz
  clear hz
  have g1 := G1.out
  have s6 := cells_at g1 6
  simp at s6
  have HSR := hide (szRecordS_any (.slice a4 ps.length c4) ps z w1 HL.out.2.2.2.1 HL.out.2.2.2.2 hz0 hz1 ((HX.out.store.later B1 (Nat.le_refl _)).more B1.size))
  clear g1
  go_wp2_with fail
  refine HSR.out.mono ?_
  rintro e w3 ⟨r, rfl, hr, b3⟩
  have B3 : Below w.heap.size w w3 := B1.trans (b3.mono B1.size)
  clear b3 s6
  rcases hr with hr | ⟨hr0, hr⟩
  · go_wp2
    go_ret
    exact ⟨-1, rfl, .inl (by omega), B3⟩
  · have hr1 : ¬ r < 0 := by omega
    have HR := hide hr
    clear hr
    go_wp2
    go_ret
    exact ⟨r, rfl, .inr ⟨hr0, by rw [HT.out]; have := HR.out; have := HZ.out; have := HY2.out; omega⟩, B3⟩

set_option maxRecDepth 100000 in
set_option maxHeartbeats 2000000 in
theorem toSelf_any (v1 v2 v3 v4 : Value) (x : SelfD) (ps : List RP) (w : World) (ht : totS x ps ≤ 1048576) (hv : SelfIn w v1 v2 v3 v4 x ps w.heap.size) :
    Calls Tryz.prog 28 #[selfV x v1 v2 v3 v4] w fun e w' => ∃ u1 u2 u3 u4 qs m1 m2, e = .returned (selfV x u1 u2 u3 u4) ∧ fsts qs = fsts ps ∧ SelfOwn w' w.heap.size w'.heap.size u1 u2 u3 u4 x qs m1 m2 ∧ Below w.heap.size w w' := by
  obtain ⟨⟨a1, c1, rfl⟩, ⟨a2, c2, rfl⟩, ⟨a3, c3, rfl⟩, ⟨a4, c4, rfl⟩⟩ := hv.shapes
  have hlL : x.net.ls.length ≤ 1048576 := by unfold totS at ht; omega
  have hlT : x.net.ts.length ≤ 1048576 := by unfold totS at ht; omega
  have hlH : x.heard.length ≤ 1048576 := by unfold totS at ht; omega
  have hlR : tot ps ≤ 1048576 := by unfold totS at ht; omega
  have HX := hide hv
  clear hv ht
  go_enter Tryz.func28, Tryz.ntmps28
  go_wp2_with fail
  have hw0 := heap3_0 w (.cells #[.int .i64 x.id, .int .i64 x.boot, .int .i64 x.net.n, .slice a1 x.net.ls.length c1, .slice a2 x.net.ts.length c2, .slice a3 x.heard.length c3, .slice a4 ps.length c4] 55) (.cells #[.int .i64 0, .int .i64 0, .int .i64 0, .slice none 0 0, .slice none 0 0, .slice none 0 0, .slice none 0 0] 31) (.cells #[.int .i64 x.id, .int .i64 x.boot, .int .i64 0, .slice none 0 0, .slice none 0 0, .slice none 0 0, .slice none 0 0] 31)
  have hw1 := heap3_1 w (.cells #[.int .i64 x.id, .int .i64 x.boot, .int .i64 x.net.n, .slice a1 x.net.ls.length c1, .slice a2 x.net.ts.length c2, .slice a3 x.heard.length c3, .slice a4 ps.length c4] 55) (.cells #[.int .i64 0, .int .i64 0, .int .i64 0, .slice none 0 0, .slice none 0 0, .slice none 0 0, .slice none 0 0] 31) (.cells #[.int .i64 x.id, .int .i64 x.boot, .int .i64 0, .slice none 0 0, .slice none 0 0, .slice none 0 0, .slice none 0 0] 31)
  have hw2 := heap3_2 w (.cells #[.int .i64 x.id, .int .i64 x.boot, .int .i64 x.net.n, .slice a1 x.net.ls.length c1, .slice a2 x.net.ts.length c2, .slice a3 x.heard.length c3, .slice a4 ps.length c4] 55) (.cells #[.int .i64 0, .int .i64 0, .int .i64 0, .slice none 0 0, .slice none 0 0, .slice none 0 0, .slice none 0 0] 31) (.cells #[.int .i64 x.id, .int .i64 x.boot, .int .i64 0, .slice none 0 0, .slice none 0 0, .slice none 0 0, .slice none 0 0] 31)
  have bw := below_three (w := w) (.cells #[.int .i64 x.id, .int .i64 x.boot, .int .i64 x.net.n, .slice a1 x.net.ls.length c1, .slice a2 x.net.ts.length c2, .slice a3 x.heard.length c3, .slice a4 ps.length c4] 55) (.cells #[.int .i64 0, .int .i64 0, .int .i64 0, .slice none 0 0, .slice none 0 0, .slice none 0 0, .slice none 0 0] 31) (.cells #[.int .i64 x.id, .int .i64 x.boot, .int .i64 0, .slice none 0 0, .slice none 0 0, .slice none 0 0, .slice none 0 0] 31)
  generalize (((w.alloc (.cells #[.int .i64 x.id, .int .i64 x.boot, .int .i64 x.net.n, .slice a1 x.net.ls.length c1, .slice a2 x.net.ts.length c2, .slice a3 x.heard.length c3, .slice a4 ps.length c4] 55)).alloc (.cells #[.int .i64 0, .int .i64 0, .int .i64 0, .slice none 0 0, .slice none 0 0, .slice none 0 0, .slice none 0 0] 31)).alloc (.cells #[.int .i64 x.id, .int .i64 x.boot, .int .i64 0, .slice none 0 0, .slice none 0 0, .slice none 0 0, .slice none 0 0] 31)) = w1 at *
  refine (toNet_any _ x.net w1 hlL hlT (HX.out.then bw).net).mono ?_
  rintro e w2 ⟨p1, p2, rfl, ho1, ho2, b2⟩
  obtain ⟨p1a, p1c, rfl⟩ := owns_lenS ho1
  obtain ⟨p2a, p2c, rfl⟩ := owns_lenS ho2
  have l2 := lt_of_heap hw2
  rw [← b2.block _ (lt_of_heap hw0)] at hw0
  rw [← b2.block _ (lt_of_heap hw1)] at hw1
  rw [← b2.block _ l2] at hw2
  have hb12 : w.heap.size ≤ w1.heap.size := bw.size
  have hb22 : w1.heap.size ≤ w2.heap.size := b2.size
  have bw2 : Below w.heap.size w w2 := bw.trans (b2.mono hb12)
  have s2 := cells_at hw2 2
  have s3 := cells_at hw2 3
  have s4 := cells_at hw2 4
  simp at s2 s3 s4
  have t5 := cells_at hw0 5
  simp at t5
  have f2 := frozen_at hw2 2
  have f3 := frozen_at hw2 3
  have f4 := frozen_at hw2 4
  have O1 := hide ho1
  have O2 := hide ho2
  have HW0 := hide hw0
  have HW1 := hide hw1
  have HW2 := hide hw2
  clear ho1 ho2 hw0 hw1 hw2

  go_wp2_with fail
  have o1 := owns_set (p := w.heap.size + 1 + 1) (j := 4) (u := .slice p2a x.net.ts.length p2c) (owns_set (p := w.heap.size + 1 + 1) (j := 3) (u := .slice p1a x.net.ls.length p1c) (owns_set (p := w.heap.size + 1 + 1) (j := 2) (u := .int .i64 x.net.n) O1.out (by omega)) (by omega)) (by omega)
  have o2 := owns_set (p := w.heap.size + 1 + 1) (j := 4) (u := .slice p2a x.net.ts.length p2c) (owns_set (p := w.heap.size + 1 + 1) (j := 3) (u := .slice p1a x.net.ls.length p1c) (owns_set (p := w.heap.size + 1 + 1) (j := 2) (u := .int .i64 x.net.n) O2.out (by omega)) (by omega)) (by omega)
  have q0 : (((w2.setCell ⟨w.heap.size + 1 + 1, 2, none⟩ (.int .i64 x.net.n)).setCell ⟨w.heap.size + 1 + 1, 3, none⟩ (.slice p1a x.net.ls.length p1c)).setCell ⟨w.heap.size + 1 + 1, 4, none⟩ (.slice p2a x.net.ts.length p2c)).heap[w.heap.size]? = some (.cells #[.int .i64 x.id, .int .i64 x.boot, .int .i64 x.net.n, .slice a1 x.net.ls.length c1, .slice a2 x.net.ts.length c2, .slice a3 x.heard.length c3, .slice a4 ps.length c4] 55) := by
    rw [heap_setCell_other _ ⟨w.heap.size + 1 + 1, 4, none⟩ _ _ (by show w.heap.size ≠ w.heap.size + 1 + 1; omega), heap_setCell_other _ ⟨w.heap.size + 1 + 1, 3, none⟩ _ _ (by show w.heap.size ≠ w.heap.size + 1 + 1; omega), heap_setCell_other _ ⟨w.heap.size + 1 + 1, 2, none⟩ _ _ (by show w.heap.size ≠ w.heap.size + 1 + 1; omega)]
    exact HW0.out
  have q1 : (((w2.setCell ⟨w.heap.size + 1 + 1, 2, none⟩ (.int .i64 x.net.n)).setCell ⟨w.heap.size + 1 + 1, 3, none⟩ (.slice p1a x.net.ls.length p1c)).setCell ⟨w.heap.size + 1 + 1, 4, none⟩ (.slice p2a x.net.ts.length p2c)).heap[w.heap.size + 1]? = some (.cells #[.int .i64 0, .int .i64 0, .int .i64 0, .slice none 0 0, .slice none 0 0, .slice none 0 0, .slice none 0 0] 31) := by
    rw [heap_setCell_other _ ⟨w.heap.size + 1 + 1, 4, none⟩ _ _ (by show w.heap.size + 1 ≠ w.heap.size + 1 + 1; omega), heap_setCell_other _ ⟨w.heap.size + 1 + 1, 3, none⟩ _ _ (by show w.heap.size + 1 ≠ w.heap.size + 1 + 1; omega), heap_setCell_other _ ⟨w.heap.size + 1 + 1, 2, none⟩ _ _ (by show w.heap.size + 1 ≠ w.heap.size + 1 + 1; omega)]
    exact HW1.out
  have q2 : (((w2.setCell ⟨w.heap.size + 1 + 1, 2, none⟩ (.int .i64 x.net.n)).setCell ⟨w.heap.size + 1 + 1, 3, none⟩ (.slice p1a x.net.ls.length p1c)).setCell ⟨w.heap.size + 1 + 1, 4, none⟩ (.slice p2a x.net.ts.length p2c)).heap[w.heap.size + 1 + 1]? = some (.cells #[.int .i64 x.id, .int .i64 x.boot, .int .i64 x.net.n, .slice p1a x.net.ls.length p1c, .slice p2a x.net.ts.length p2c, .slice none 0 0, .slice none 0 0] 31) := by
    have k0 := heap_setCell_same _ _ 2 _ _ (.int .i64 x.net.n) HW2.out
    have k1 := heap_setCell_same _ _ 3 _ _ (.slice p1a x.net.ls.length p1c) k0
    exact heap_setCell_same _ _ 4 _ _ (.slice p2a x.net.ts.length p2c) k1
  have bw3 : Below w.heap.size w (((w2.setCell ⟨w.heap.size + 1 + 1, 2, none⟩ (.int .i64 x.net.n)).setCell ⟨w.heap.size + 1 + 1, 3, none⟩ (.slice p1a x.net.ls.length p1c)).setCell ⟨w.heap.size + 1 + 1, 4, none⟩ (.slice p2a x.net.ts.length p2c)) := ((bw2.setCell (by show w.heap.size ≤ w.heap.size + 1 + 1; omega) _).setCell (by show w.heap.size ≤ w.heap.size + 1 + 1; omega) _).setCell (by show w.heap.size ≤ w.heap.size + 1 + 1; omega) _
  have z3 : (((w2.setCell ⟨w.heap.size + 1 + 1, 2, none⟩ (.int .i64 x.net.n)).setCell ⟨w.heap.size + 1 + 1, 3, none⟩ (.slice p1a x.net.ls.length p1c)).setCell ⟨w.heap.size + 1 + 1, 4, none⟩ (.slice p2a x.net.ts.length p2c)).heap.size = w2.heap.size := by simp
  generalize (((w2.setCell ⟨w.heap.size + 1 + 1, 2, none⟩ (.int .i64 x.net.n)).setCell ⟨w.heap.size + 1 + 1, 3, none⟩ (.slice p1a x.net.ls.length p1c)).setCell ⟨w.heap.size + 1 + 1, 4, none⟩ (.slice p2a x.net.ts.length p2c)) = w3 at *
  clear s2 s3 s4 t5 f2 f3 f4 HW0 HW1 HW2 O1 O2
  refine (toIntS_any _ x.heard w3 hlH (HX.out.heard.then bw3)).mono ?_
  rintro e w4 ⟨p3, rfl, ho3, b4⟩
  obtain ⟨p3a, p3c, rfl⟩ := owns_lenS ho3
  have hl3 := lt_of_heap q2
  rw [← b4.block _ (lt_of_heap q0)] at q0
  rw [← b4.block _ (lt_of_heap q1)] at q1
  rw [← b4.block _ hl3] at q2
  have hz4 := b4.size
  have bw4 : Below w.heap.size w w4 := bw3.trans (b4.mono bw3.size)
  have O1 := hide (owns_below o1 b4 (by omega))
  have O2 := hide (owns_below o2 b4 (by omega))
  have L1 := hide (show ∀ k, (Value.slice p1a x.net.ls.length p1c).ownBlock = some k → k < w3.heap.size from fun k hk => (o1.lt k hk).2)
  have L2 := hide (show ∀ k, (Value.slice p2a x.net.ts.length p2c).ownBlock = some k → k < w3.heap.size from fun k hk => (o2.lt k hk).2)
  have O3 := hide ho3
  have HW0 := hide q0
  have HW1 := hide q1
  have HW2 := hide q2
  have s5 := cells_at q2 5
  have f5 := frozen_at q2 5
  have t6 := cells_at q0 6
  simp at s5 t6
  clear o1 o2 ho3 q0 q1 q2
  go_wp2_with fail
  have o1 := owns_set (p := w.heap.size + 1 + 1) (j := 5) (u := .slice p3a x.heard.length p3c) O1.out (by omega)
  have o2 := owns_set (p := w.heap.size + 1 + 1) (j := 5) (u := .slice p3a x.heard.length p3c) O2.out (by omega)
  have o3 := owns_set (p := w.heap.size + 1 + 1) (j := 5) (u := .slice p3a x.heard.length p3c) O3.out (by omega)
  have q1 : (w4.setCell ⟨w.heap.size + 1 + 1, 5, none⟩ (.slice p3a x.heard.length p3c)).heap[w.heap.size + 1]? = some (.cells #[.int .i64 0, .int .i64 0, .int .i64 0, .slice none 0 0, .slice none 0 0, .slice none 0 0, .slice none 0 0] 31) := by
    rw [heap_setCell_other _ ⟨w.heap.size + 1 + 1, 5, none⟩ _ _ (by show w.heap.size + 1 ≠ w.heap.size + 1 + 1; omega)]
    exact HW1.out
  have q2 : (w4.setCell ⟨w.heap.size + 1 + 1, 5, none⟩ (.slice p3a x.heard.length p3c)).heap[w.heap.size + 1 + 1]? = some (.cells #[.int .i64 x.id, .int .i64 x.boot, .int .i64 x.net.n, .slice p1a x.net.ls.length p1c, .slice p2a x.net.ts.length p2c, .slice p3a x.heard.length p3c, .slice none 0 0] 31) := heap_setCell_same _ _ 5 _ _ (.slice p3a x.heard.length p3c) HW2.out
  have bw5 : Below w.heap.size w (w4.setCell ⟨w.heap.size + 1 + 1, 5, none⟩ (.slice p3a x.heard.length p3c)) := bw4.setCell (by show w.heap.size ≤ w.heap.size + 1 + 1; omega) _
  have z5 : (w4.setCell ⟨w.heap.size + 1 + 1, 5, none⟩ (.slice p3a x.heard.length p3c)).heap.size = w4.heap.size := by simp
  generalize (w4.setCell ⟨w.heap.size + 1 + 1, 5, none⟩ (.slice p3a x.heard.length p3c)) = w5 at *
  clear s5 t6 f5 HW0 HW1 HW2 O1 O2 O3
  refine (toRecordS_any _ ps w5 (Nat.le_trans (tot_len ps) hlR) (fun _ hp => Nat.le_trans (tot_mem hp) hlR) (HX.out.store.then bw5)).mono ?_
  rintro e w6 ⟨p4, qs, rfl, fq, ho4, b6⟩
  obtain ⟨p4a, p4c, rfl⟩ := owns_lenS ho4.row
  have hl5 := lt_of_heap q2
  rw [← b6.block _ (lt_of_heap q1)] at q1
  rw [← b6.block _ hl5] at q2
  have hz6 := b6.size
  have bw6 : Below w.heap.size w w6 := bw5.trans (b6.mono bw5.size)
  have hl6 := lt_of_heap q2
  have OW := hide (show SelfOwn w6 w1.heap.size w6.heap.size (.slice p1a x.net.ls.length p1c) (.slice p2a x.net.ts.length p2c) (.slice p3a x.heard.length p3c) (.slice p4a qs.length p4c) x qs w3.heap.size w5.heap.size from
    { o1 := by omega
      o2 := by omega
      o3 := by omega
      links := owns_below o1 b6 (by omega)
      ltop := L1.out
      things := owns_below o2 b6 (by omega)
      ttop := L2.out
      heard := ⟨owns_baseS (owns_below o3 b6 (by omega)) (by omega), fun k hk => (o3.lt k hk).2⟩
      store := ho4 })
  have FQ := hide fq
  have r0 := cells_at q1 0
  have r1 := cells_at q1 1
  have r2 := cells_at q1 2
  have r3 := cells_at q1 3
  have r4 := cells_at q1 4
  have r5 := cells_at q1 5
  have r6 := cells_at q1 6
  have t0 := cells_at q2 0
  have t1 := cells_at q2 1
  have t2 := cells_at q2 2
  have t3 := cells_at q2 3
  have t4 := cells_at q2 4
  have t5 := cells_at q2 5
  have t6 := cells_at q2 6
  have fz0 := frozen_at q1 0
  have fz1 := frozen_at q1 1
  have fz2 := frozen_at q1 2
  have fz3 := frozen_at q1 3
  have fz4 := frozen_at q1 4
  have fz5 := frozen_at q1 5
  have fz6 := frozen_at q1 6
  have e6 := frozen_at q2 6
  simp at r0 r1 r2 r3 r4 r5 r6 t0 t1 t2 t3 t4 t5 t6
  have Q1 := hide q1
  have Q2 := hide q2
  clear o1 o2 o3 ho4 q1 q2 L1 L2 fq
  go_wp2
  have hfin : ((((((((w6.setCell ⟨w.heap.size + 1 + 1, 6, none⟩ (.slice p4a qs.length p4c)).setCell ⟨w.heap.size + 1, 0, none⟩ (.int .i64 x.id)).setCell ⟨w.heap.size + 1, 1, none⟩ (.int .i64 x.boot)).setCell ⟨w.heap.size + 1, 2, none⟩ (.int .i64 x.net.n)).setCell ⟨w.heap.size + 1, 3, none⟩ (.slice p1a x.net.ls.length p1c)).setCell ⟨w.heap.size + 1, 4, none⟩ (.slice p2a x.net.ts.length p2c)).setCell ⟨w.heap.size + 1, 5, none⟩ (.slice p3a x.heard.length p3c)).setCell ⟨w.heap.size + 1, 6, none⟩ (.slice p4a qs.length p4c)).heap[w.heap.size + 1]? = some (.cells #[.int .i64 x.id, .int .i64 x.boot, .int .i64 x.net.n, .slice p1a x.net.ls.length p1c, .slice p2a x.net.ts.length p2c, .slice p3a x.heard.length p3c, .slice p4a qs.length p4c] 31) := by
    have k0 : (w6.setCell ⟨w.heap.size + 1 + 1, 6, none⟩ (.slice p4a qs.length p4c)).heap[w.heap.size + 1]? = some (.cells #[.int .i64 0, .int .i64 0, .int .i64 0, .slice none 0 0, .slice none 0 0, .slice none 0 0, .slice none 0 0] 31) := by
      rw [heap_setCell_other _ ⟨w.heap.size + 1 + 1, 6, none⟩ _ _ (by show w.heap.size + 1 ≠ w.heap.size + 1 + 1; omega)]
      exact Q1.out
    have k1 := heap_setCell_same _ _ 0 _ _ (.int .i64 x.id) k0
    have k2 := heap_setCell_same _ _ 1 _ _ (.int .i64 x.boot) k1
    have k3 := heap_setCell_same _ _ 2 _ _ (.int .i64 x.net.n) k2
    have k4 := heap_setCell_same _ _ 3 _ _ (.slice p1a x.net.ls.length p1c) k3
    have k5 := heap_setCell_same _ _ 4 _ _ (.slice p2a x.net.ts.length p2c) k4
    have k6 := heap_setCell_same _ _ 5 _ _ (.slice p3a x.heard.length p3c) k5
    have k7 := heap_setCell_same _ _ 6 _ _ (.slice p4a qs.length p4c) k6
    exact k7
  have hkeep : ∀ k, w1.heap.size ≤ k → ((((((((w6.setCell ⟨w.heap.size + 1 + 1, 6, none⟩ (.slice p4a qs.length p4c)).setCell ⟨w.heap.size + 1, 0, none⟩ (.int .i64 x.id)).setCell ⟨w.heap.size + 1, 1, none⟩ (.int .i64 x.boot)).setCell ⟨w.heap.size + 1, 2, none⟩ (.int .i64 x.net.n)).setCell ⟨w.heap.size + 1, 3, none⟩ (.slice p1a x.net.ls.length p1c)).setCell ⟨w.heap.size + 1, 4, none⟩ (.slice p2a x.net.ts.length p2c)).setCell ⟨w.heap.size + 1, 5, none⟩ (.slice p3a x.heard.length p3c)).setCell ⟨w.heap.size + 1, 6, none⟩ (.slice p4a qs.length p4c)).heap[k]? = w6.heap[k]? := fun k hk => by
    rw [heap_setCell_other _ ⟨w.heap.size + 1, 6, none⟩ _ _ (by show k ≠ w.heap.size + 1; omega), heap_setCell_other _ ⟨w.heap.size + 1, 5, none⟩ _ _ (by show k ≠ w.heap.size + 1; omega), heap_setCell_other _ ⟨w.heap.size + 1, 4, none⟩ _ _ (by show k ≠ w.heap.size + 1; omega), heap_setCell_other _ ⟨w.heap.size + 1, 3, none⟩ _ _ (by show k ≠ w.heap.size + 1; omega), heap_setCell_other _ ⟨w.heap.size + 1, 2, none⟩ _ _ (by show k ≠ w.heap.size + 1; omega), heap_setCell_other _ ⟨w.heap.size + 1, 1, none⟩ _ _ (by show k ≠ w.heap.size + 1; omega), heap_setCell_other _ ⟨w.heap.size + 1, 0, none⟩ _ _ (by show k ≠ w.heap.size + 1; omega), heap_setCell_other _ ⟨w.heap.size + 1 + 1, 6, none⟩ _ _ (by show k ≠ w.heap.size + 1 + 1; omega)]
  have hsize : ((((((((w6.setCell ⟨w.heap.size + 1 + 1, 6, none⟩ (.slice p4a qs.length p4c)).setCell ⟨w.heap.size + 1, 0, none⟩ (.int .i64 x.id)).setCell ⟨w.heap.size + 1, 1, none⟩ (.int .i64 x.boot)).setCell ⟨w.heap.size + 1, 2, none⟩ (.int .i64 x.net.n)).setCell ⟨w.heap.size + 1, 3, none⟩ (.slice p1a x.net.ls.length p1c)).setCell ⟨w.heap.size + 1, 4, none⟩ (.slice p2a x.net.ts.length p2c)).setCell ⟨w.heap.size + 1, 5, none⟩ (.slice p3a x.heard.length p3c)).setCell ⟨w.heap.size + 1, 6, none⟩ (.slice p4a qs.length p4c)).heap.size = w6.heap.size := by simp
  have hbel : Below w.heap.size w ((((((((w6.setCell ⟨w.heap.size + 1 + 1, 6, none⟩ (.slice p4a qs.length p4c)).setCell ⟨w.heap.size + 1, 0, none⟩ (.int .i64 x.id)).setCell ⟨w.heap.size + 1, 1, none⟩ (.int .i64 x.boot)).setCell ⟨w.heap.size + 1, 2, none⟩ (.int .i64 x.net.n)).setCell ⟨w.heap.size + 1, 3, none⟩ (.slice p1a x.net.ls.length p1c)).setCell ⟨w.heap.size + 1, 4, none⟩ (.slice p2a x.net.ts.length p2c)).setCell ⟨w.heap.size + 1, 5, none⟩ (.slice p3a x.heard.length p3c)).setCell ⟨w.heap.size + 1, 6, none⟩ (.slice p4a qs.length p4c)) := ((((((((bw6.setCell (by show w.heap.size ≤ w.heap.size + 1 + 1; omega) _).setCell (by show w.heap.size ≤ w.heap.size + 1; omega) _).setCell (by show w.heap.size ≤ w.heap.size + 1; omega) _).setCell (by show w.heap.size ≤ w.heap.size + 1; omega) _).setCell (by show w.heap.size ≤ w.heap.size + 1; omega) _).setCell (by show w.heap.size ≤ w.heap.size + 1; omega) _).setCell (by show w.heap.size ≤ w.heap.size + 1; omega) _).setCell (by show w.heap.size ≤ w.heap.size + 1; omega) _)
  try simp only [Exit.inBlock, Exit.then]
  refine bodyPost_ret (results_cell_row rfl _ _ (w.heap.size + 1) 31 #[.int .i64 x.id, .int .i64 x.boot, .int .i64 x.net.n, .slice p1a x.net.ls.length p1c, .slice p2a x.net.ts.length p2c, .slice p3a x.heard.length p3c, .slice p4a qs.length p4c] (0, 0) _ rfl hfin Tryz.underlying31 rfl (by kernel_rfl)) rfl ?_
  exact ⟨_, _, _, _, qs, _, _, rfl, FQ.out, ((OW.out.keep (fun k h1 _ _ => hkeep k h1)).low (by omega)).high (by rw [hsize]; omega), hbel⟩

set_option maxRecDepth 100000 in
set_option maxHeartbeats 2000000 in
theorem eqSelf_any (v1 v2 v3 v4 u1 u2 u3 u4 : Value) (x : SelfD) (ps qs : List RP) (w : World) (ht : totS x ps ≤ 1048576) (h1 : SelfIn w v1 v2 v3 v4 x ps w.heap.size) (h2 : SelfIn w u1 u2 u3 u4 x qs w.heap.size) (he : fsts ps = fsts qs) :
    Calls Tryz.prog 29 #[selfV x v1 v2 v3 v4, selfV x u1 u2 u3 u4] w fun e w' => e = .returned (.bool true) ∧ Below w.heap.size w w' := by
  obtain ⟨⟨a1, c1, rfl⟩, ⟨a2, c2, rfl⟩, ⟨a3, c3, rfl⟩, ⟨a4, c4, rfl⟩⟩ := h1.shapes
  obtain ⟨⟨b1, d1, rfl⟩, ⟨b2, d2, rfl⟩, ⟨b3, d3, rfl⟩, ⟨b4, d4, rfl⟩⟩ := h2.shapes
  have hlL : x.net.ls.length ≤ 1048576 := by unfold totS at ht; omega
  have hlT : x.net.ts.length ≤ 1048576 := by unfold totS at ht; omega
  have hlH : x.heard.length ≤ 1048576 := by unfold totS at ht; omega
  have hlR : tot ps ≤ 1048576 := by unfold totS at ht; omega
  have H1 := hide h1
  have H2 := hide h2
  have HE := hide he
  clear h1 h2 he ht
  go_enter Tryz.func29, Tryz.ntmps29
  go_wp2_with fail
  obtain ⟨w1, hw1⟩ : ∃ w1, w1 = (w.alloc (.cells #[.int .i64 x.id, .int .i64 x.boot, .int .i64 x.net.n, .slice a1 x.net.ls.length c1, .slice a2 x.net.ts.length c2, .slice a3 x.heard.length c3, .slice a4 ps.length c4] 31)).alloc (.cells #[.int .i64 x.id, .int .i64 x.boot, .int .i64 x.net.n, .slice b1 x.net.ls.length d1, .slice b2 x.net.ts.length d2, .slice b3 x.heard.length d3, .slice b4 qs.length d4] 31) := ⟨_, rfl⟩
  have B1 : Below w.heap.size w w1 := by rw [hw1]; exact below_two _ _
  have p0 : w1.heap[w.heap.size]? = some (.cells #[.int .i64 x.id, .int .i64 x.boot, .int .i64 x.net.n, .slice a1 x.net.ls.length c1, .slice a2 x.net.ts.length c2, .slice a3 x.heard.length c3, .slice a4 ps.length c4] 31) := by rw [hw1, Below.heap_alloc _ _ _ (by simp), heap_alloc_new]
  have q0 : w1.heap[w.heap.size + 1]? = some (.cells #[.int .i64 x.id, .int .i64 x.boot, .int .i64 x.net.n, .slice b1 x.net.ls.length d1, .slice b2 x.net.ts.length d2, .slice b3 x.heard.length d3, .slice b4 qs.length d4] 31) := by
    rw [hw1]
    have := heap_alloc_new (w.alloc (.cells #[.int .i64 x.id, .int .i64 x.boot, .int .i64 x.net.n, .slice a1 x.net.ls.length c1, .slice a2 x.net.ts.length c2, .slice a3 x.heard.length c3, .slice a4 ps.length c4] 31)) (.cells #[.int .i64 x.id, .int .i64 x.boot, .int .i64 x.net.n, .slice b1 x.net.ls.length d1, .slice b2 x.net.ts.length d2, .slice b3 x.heard.length d3, .slice b4 qs.length d4] 31)
    simpa using this
  rw [← hw1]
  clear hw1
  have HEN := eqNet_any _ _ x.net x.net w1 (H1.out.then B1).net (H2.out.then B1).net hlL hlT
  rw [decide_eq_true rfl] at HEN
  refine HEN.mono ?_
  rintro e w2 ⟨rfl, b2⟩
  have p1 := (b2.block _ (lt_of_heap p0)).trans p0
  have q1 := (b2.block _ (lt_of_heap q0)).trans q0
  have B2 : Below w.heap.size w w2 := B1.trans (b2.mono B1.size)
  have s5 := cells_at p1 5
  have t5 := cells_at q1 5
  simp at s5 t5
  have P1 := hide p1
  have Q1 := hide q1
  have HEI := eqI_any _ _ x.heard x.heard w2 (HopsAt.ints (H1.out.then B2).heard) (HopsAt.ints (H2.out.then B2).heard) hlH
  rw [decide_eq_true rfl] at HEI
  have HI := hide HEI
  clear p0 q0 p1 q1 HEN HEI b2
  go_wp2_with fail
  refine HI.out.mono ?_
  rintro e w3 ⟨rfl, b3⟩
  have p1 := (b3.block _ (lt_of_heap P1.out)).trans P1.out
  have q1 := (b3.block _ (lt_of_heap Q1.out)).trans Q1.out
  have B3 : Below w.heap.size w w3 := B2.trans (b3.mono B2.size)
  have HER := eqRecordS_any _ _ ps qs w3 (H1.out.then B3).store (H2.out.then B3).store (Nat.le_trans (tot_len ps) hlR) (fun _ hp => Nat.le_trans (tot_mem hp) hlR)
  rw [decide_eq_true HE.out] at HER
  have HR := hide HER
  clear s5 t5
  have s6 := cells_at p1 6
  have t6 := cells_at q1 6
  simp at s6 t6
  clear p1 q1 HER b3
  go_wp2_with fail
  refine HR.out.mono ?_
  rintro e w4 ⟨rfl, b4⟩
  have B4 : Below w.heap.size w w4 := B3.trans (b4.mono B3.size)
  go_wp2
  go_ret
  exact ⟨rfl, B4⟩
end Go.Proofs.YtdaigojpeofmpaaGreat
namespace Go.Proofs.YtdaigojpeofmpaaGreat
open Go.RowKit

def sameKeyB (x y : RecD) : Bool := x.area == y.area && x.kind == y.kind && x.owner == y.owner && x.key == y.key

set_option maxRecDepth 100000 in
set_option maxHeartbeats 4000000 in
theorem ssameKey_any (v1 v2 : Value) (x y : RecD) (w : World) : Calls Tryz.prog 80 #[.agg (recC x v1), .agg (recC y v2)] w fun e w' => e = .returned (.bool (sameKeyB x y)) ∧ Below w.heap.size w w' := by
  obtain ⟨a0, a1, a2, a3, a4, ns, a6, a7⟩ := x
  obtain ⟨b0, b1, b2, b3, b4, ms, b6, b7⟩ := y
  unfold recC
  simp only []
  go_enter Tryz.func80, Tryz.ntmps80
  go_wp2
  all_goals go_ret
  all_goals refine ⟨ret_bool ?_, below_two _ _⟩
  all_goals (simp only [sameKeyB]; grind)

end Go.Proofs.YtdaigojpeofmpaaGreat
namespace Go.Proofs.YtdaigojpeofmpaaGreat
open Go.RowKit

def keyC (x : RecD) : Array Value := #[.int .i64 x.area, .int .i64 x.kind, .int .i64 x.owner, .int .i64 x.key]

set_option maxRecDepth 100000 in
set_option maxHeartbeats 400000 in
theorem keyOf_any (v1 : Value) (x : RecD) (w : World) : Calls Tryz.prog 211 #[.agg (recC x v1)] w fun e w' => e = .returned (.agg (keyC x)) ∧ Below w.heap.size w w' := by
  obtain ⟨a0, a1, a2, a3, a4, ns, a6, a7⟩ := x
  unfold recC keyC
  simp only []
  go_enter Tryz.func211, Tryz.ntmps211
  go_wp2
  go_returns
  exact ⟨rfl, below_two _ _⟩

theorem keyOf_raw (a0 a1 a2 a3 a4 : Int) (v : Value) (a6 : Int) (a7 : Bool) (w : World) : Calls Tryz.prog 211 #[.agg #[.int .i64 a0, .int .i64 a1, .int .i64 a2, .int .i64 a3, .int .i64 a4, v, .int .i64 a6, .bool a7]] w fun e w' => e = .returned (.agg #[.int .i64 a0, .int .i64 a1, .int .i64 a2, .int .i64 a3]) ∧ Below w.heap.size w w' :=
  keyOf_any v ⟨a0, a1, a2, a3, a4, [], a6, a7⟩ w

theorem Tryz.info3k : (Tryz.prog.info? 3).map (fun i => (i.zero, i.size, i.bytes)) = some (some (.int .i64 0), 1, 8) := by kernel_rfl

theorem key_eql (w : World) (a b c d a' b' c' d' : Int) : (binOp .eql 232 (.agg #[.int .i64 a, .int .i64 b, .int .i64 c, .int .i64 d]) (.agg #[.int .i64 a', .int .i64 b', .int .i64 c', .int .i64 d'])).run Tryz.prog w = .ok (.bool (a == a' && b == b' && c == c' && d == d')) w := by
  obtain ⟨i0, hi, _⟩ := info_parts Tryz.info3k
  have hu : Tryz.prog.underlying 232 = some (.array 4 3) := by kernel_rfl
  have u3 : Tryz.prog.underlying 3 = some (.int .i64) := by kernel_rfl
  have hc : Tryz.prog.cellsOf 3 = 1 := by kernel_rfl
  have hp : Tryz.prog.plainKey 3 = true := by kernel_rfl
  have pt : ∀ (xs : Array Value) (off : Nat) (u : Value), xs[off]? = some u → (Go.part 3 xs off).run Tryz.prog w = .ok u w := fun xs off u h => run_part_plain w hp h
  have eqi : ∀ (n : Nat) (x y : Int), (Op.equalIn (n + 1) 3 (.int .i64 x) (.int .i64 y)).run Tryz.prog w = .ok (x == y) w := fun n x y => run_equalIn_int w n 3 .i64 .i64 x y u3
  go_simp
  have e1 : (Op.equalIn 10000 232 (.agg #[.int .i64 a, .int .i64 b, .int .i64 c, .int .i64 d]) (.agg #[.int .i64 a', .int .i64 b', .int .i64 c', .int .i64 d'])).run Tryz.prog w = .ok (a == a' && b == b' && c == c' && d == d') w := by
    rw [run_equalIn_array w 9999 _ _ hu hi, hc]
    show (Op.eqItems 9999 3 1 _ _ [0, 1, 2, 3]).run Tryz.prog w = _
    simp only [Op.eqItems, Sem.run_bind]
    rw [pt _ _ (.int .i64 a) rfl]
    simp only [Result.andThen_ok]
    rw [pt _ _ (.int .i64 a') rfl]
    simp only [Result.andThen_ok]
    rw [eqi 9998 a a']
    simp only [Result.andThen_ok]
    cases a == a'
    · rfl
    simp only [Bool.not_true, Bool.false_eq_true, if_false, Sem.run_bind, Bool.true_and]
    rw [pt _ _ (.int .i64 b) rfl]
    simp only [Result.andThen_ok]
    rw [pt _ _ (.int .i64 b') rfl]
    simp only [Result.andThen_ok]
    rw [eqi 9998 b b']
    simp only [Result.andThen_ok]
    cases b == b'
    · rfl
    simp only [Bool.not_true, Bool.false_eq_true, if_false, Sem.run_bind, Bool.true_and]
    rw [pt _ _ (.int .i64 c) rfl]
    simp only [Result.andThen_ok]
    rw [pt _ _ (.int .i64 c') rfl]
    simp only [Result.andThen_ok]
    rw [eqi 9998 c c']
    simp only [Result.andThen_ok]
    cases c == c'
    · rfl
    simp only [Bool.not_true, Bool.false_eq_true, if_false, Sem.run_bind, Bool.true_and]
    rw [pt _ _ (.int .i64 d) rfl]
    simp only [Result.andThen_ok]
    rw [pt _ _ (.int .i64 d') rfl]
    simp only [Result.andThen_ok]
    rw [eqi 9998 d d']
    simp only [Result.andThen_ok]
    cases d == d'
    · rfl
    · rfl
  rw [e1]
  rfl

end Go.Proofs.YtdaigojpeofmpaaGreat
namespace Go.Proofs.YtdaigojpeofmpaaGreat
open Go.RowKit

def inB (x a b : Int) : Bool := decide (a ≤ x) && decide (x ≤ b)

set_option maxHeartbeats 400000 in
theorem in_any (x a b : Int) (w : World) : Calls Tryz.prog 119 #[.int .i64 x, .int .i64 a, .int .i64 b] w fun e w' => e = .returned (.bool (inB x a b)) ∧ w = w' := by
  by_cases h1 : a ≤ x <;> by_cases h2 : x ≤ b
  all_goals
    go_enter Tryz.func119, Tryz.ntmps119
    go_wp2
    go_ret
    exact ⟨by simp [inB, h1, h2], rfl⟩

end Go.Proofs.YtdaigojpeofmpaaGreat
namespace Go.Proofs.YtdaigojpeofmpaaGreat
open Go.RowKit

set_option maxRecDepth 100000 in
set_option maxHeartbeats 2000000 in
theorem isIn_any (x a b : Int) (w : World) : Calls Tryz.prog 78 #[.int .i64 x, .int .i64 a, .int .i64 b] w fun e w' => e = .returned (.bool (inB x a b)) ∧ w = w' := by
  by_cases h1 : a ≤ x <;> by_cases h2 : x ≤ b
  all_goals
    go_enter Tryz.func78, Tryz.ntmps78
    go_wp2
    go_ret
    exact ⟨by simp [inB, h1, h2], rfl⟩

def cmpN (a b : Int) : Int := if a < b then -1 else if b < a then 1 else 0

theorem cmpN_zero {a b : Int} : cmpN a b = 0 ↔ a = b := by unfold cmpN; split <;> (try split) <;> omega

theorem cmpN_neg {a b : Int} : cmpN a b < 0 ↔ a < b := by unfold cmpN; split <;> (try split) <;> omega

theorem ret_i {a b : Int} (h : b = a) : Ending.returned (.int .i64 a) = .returned (.int .i64 b) := by rw [h]

set_option maxRecDepth 100000 in
set_option maxHeartbeats 1000000 in
theorem isNaN_any (a : Int) (w : World) : Calls Tryz.prog 251 #[.int .i64 a] w fun e w' => e = .returned (.bool false) ∧ w = w' := by
  go_enter Tryz.func251, Tryz.ntmps251
  go_wp2
  go_ret
  exact ⟨by simp, rfl⟩

set_option maxRecDepth 100000 in
set_option maxHeartbeats 1000000 in
theorem compare_any (a b : Int) (w : World) : Calls Tryz.prog 225 #[.int .i64 a, .int .i64 b] w fun e w' => e = .returned (.int .i64 (cmpN a b)) ∧ w = w' := by
  go_enter Tryz.func225, Tryz.ntmps225
  go_wp2_with fail
  refine (isNaN_any a _).mono ?_
  rintro e w1 ⟨rfl, rfl⟩
  go_wp2_with fail
  refine (isNaN_any b _).mono ?_
  rintro e w1 ⟨rfl, rfl⟩
  go_wp2
  all_goals go_ret
  all_goals refine ⟨ret_i ?_, rfl⟩
  all_goals (unfold cmpN; grind)
end Go.Proofs.YtdaigojpeofmpaaGreat
namespace Go.Proofs.YtdaigojpeofmpaaGreat
open Go.RowKit

def beforeB (x y : RecD) : Bool := decide (x.area < y.area) || (x.area == y.area && (decide (x.kind < y.kind) || (x.kind == y.kind && (decide (x.owner < y.owner) || (x.owner == y.owner && decide (x.key < y.key))))))

set_option maxRecDepth 100000 in
set_option maxHeartbeats 4000000 in
theorem sbefore_any (v1 v2 : Value) (x y : RecD) (w : World) : Calls Tryz.prog 155 #[.agg (recC x v1), .agg (recC y v2)] w fun e w' => e = .returned (.bool (beforeB x y)) ∧ Below w.heap.size w w' := by
  obtain ⟨a0, a1, a2, a3, a4, ns, a6, a7⟩ := x
  obtain ⟨b0, b1, b2, b3, b4, ms, b6, b7⟩ := y
  unfold recC
  simp only []
  go_enter Tryz.func155, Tryz.ntmps155
  go_wp2
  all_goals go_ret
  all_goals refine ⟨ret_bool ?_, below_two _ _⟩
  all_goals (simp only [beforeB]; grind)
end Go.Proofs.YtdaigojpeofmpaaGreat
namespace Go.Proofs.YtdaigojpeofmpaaGreat
open Go.RowKit

def mayTake (ops : Array Oper) (listed : Array Bool) (i : Nat) : Bool := Region.noSelect ops && Region.free .any ops listed i && (Region.ready .any ops listed).contains i

theorem mayTake_parts {ops : Array Oper} {listed : Array Bool} {i : Nat} (h : mayTake ops listed i = true) : Region.noSelect ops = true ∧ Region.free .any ops listed i = true ∧ (Region.ready .any ops listed).contains i = true := by
  unfold mayTake at h
  simp only [Bool.and_eq_true] at h
  exact ⟨h.1.1, h.1.2, h.2⟩

section
variable {P : Program} {ops : Array Oper} {Q : Exit → Act → World → Prop} {S : World → Prop} {fuel : Nat} {listed : Array Bool} {a : Act} {w : World}

/-- the beginning: the region's operations behind a letter -/
theorem wp_region_start {id : Nat} (hm : P.follows .mixedOrders = true) (n : Nat) (hn : ops.size = n) (hS : S w.drew) (h : ∀ ops', Hid (ops' = ops) → S w.drew → wpAnyH P .any ops' Q S n (Array.replicate n false) a w.drew) : (Code.region id ops true).wp P Q a w := by
  refine wp_region_held_drew hm hS (fun hs => ?_)
  rw [hn]
  exact h ops rfl hs

/-- an operation that isn't wanted -/
theorem take_skip (i : Nat) (d : Tmp) (hi : (ops[i]?).map Oper.dst = some (some d)) (ht : mayTake ops listed i = true) (hw : (ops[i]?).map (fun o => Region.wanted o (yielded ops a.tmps)) = some false)
    (hQ : ∀ c a w, Q (.panic c) (a.put (some d) undef) w → Q (.panic c) a w) (hS : S w) (h : wpAnyH P .any ops Q S fuel (listed.setIfInBounds i true) (a.put (some d) undef) w) : wpAnyH P .any ops Q S (fuel + 1) listed a w := by
  obtain ⟨h1, h2, h3⟩ := mayTake_parts ht
  cases ho : ops[i]? with
  | none => rw [ho] at hi; cases hi
  | some oi =>
    rw [ho] at hi hw
    simp only [Option.map_some, Option.some.injEq] at hi hw
    refine wpAnyH_take ho h1 h2 h3 (v := undef) ?_ (Or.inr ⟨hw, rfl⟩) hS ?_
    · rw [hi]; exact hQ
    · rw [hi]; exact h

/-- an operation that yields v in every world that meets S -/
theorem take_do (i : Nat) {oi : Oper} {v : Value} (hi : ops[i]? = some oi) (ht : mayTake ops listed i = true) (hw : Region.wanted oi (yielded ops a.tmps) = true) (hy : ∀ w, S w → (execOp a.eval oi).run P w = .ok (.value v) w)
    (hQ : ∀ c a w, Q (.panic c) (a.put oi.dst v) w → Q (.panic c) a w) (hS : S w) (h : wpAnyH P .any ops Q S fuel (listed.setIfInBounds i true) (a.put oi.dst v) w) : wpAnyH P .any ops Q S (fuel + 1) listed a w := by
  obtain ⟨h1, h2, h3⟩ := mayTake_parts ht
  exact wpAnyH_take hi h1 h2 h3 hQ (Or.inl ⟨hw, hy⟩) hS h

/-- a call that alone may come up -/
theorem take_call (i : Nat) {oi : Oper} (hi : ops[i]? = some oi) (hr : Region.ready .any ops listed = [i]) (hw : Region.wanted oi (yielded ops a.tmps) = true)
    (h : ∀ K' : Act → World → Prop, Shut (∀ a w, S w → (S w → wpAnyH P .any ops Q S fuel (listed.setIfInBounds i true) a w) → K' a w) → Oper.wp P oi a w K' Q) : wpAnyH P .any ops Q S (fuel + 1) listed a w := by
  refine wpAnyH_ready (rs := [i]) hr (by simp) ?_
  refine AllReadyH.cons hi (fun K hK => ?_) AllReadyH.nil
  rw [if_pos hw]
  exact h K hK
end
end Go.Proofs.YtdaigojpeofmpaaGreat
namespace Go.Proofs.YtdaigojpeofmpaaGreat
open Go.RowKit

/-- a key of four numbers lies in block p -/
def KeyAt (W : World) (p : Nat) (a b c d : Int) : Prop := (W.cell? ⟨p, 0, none⟩ = some (.int .i64 a) ∧ W.cell? ⟨p, 1, none⟩ = some (.int .i64 b) ∧ W.cell? ⟨p, 2, none⟩ = some (.int .i64 c) ∧ W.cell? ⟨p, 3, none⟩ = some (.int .i64 d)) ∧ W.frozen? ⟨p, 0, none⟩ = false ∧ W.frozen? ⟨p, 1, none⟩ = false ∧ W.frozen? ⟨p, 2, none⟩ = false ∧ W.frozen? ⟨p, 3, none⟩ = false

theorem KeyAt.lt {W : World} {p : Nat} {a b c d : Int} (h : KeyAt W p a b c d) : p < W.heap.size := World.block_lt_of_cell? W _ h.1.1

theorem KeyAt.below {W w2 : World} {p : Nat} {a b c d : Int} (h : KeyAt W p a b c d) (hb : Below W.heap.size W w2) : KeyAt w2 p a b c d := by
  have hp := h.lt
  obtain ⟨⟨h0, h1, h2, h3⟩, f0, f1, f2, f3⟩ := h
  refine ⟨⟨?_, ?_, ?_, ?_⟩, ?_, ?_, ?_, ?_⟩
  · rw [hb.cell (p := ⟨p, 0, none⟩) hp]; exact h0
  · rw [hb.cell (p := ⟨p, 1, none⟩) hp]; exact h1
  · rw [hb.cell (p := ⟨p, 2, none⟩) hp]; exact h2
  · rw [hb.cell (p := ⟨p, 3, none⟩) hp]; exact h3
  · rw [hb.frozen (p := ⟨p, 0, none⟩) hp]; exact f0
  · rw [hb.frozen (p := ⟨p, 1, none⟩) hp]; exact f1
  · rw [hb.frozen (p := ⟨p, 2, none⟩) hp]; exact f2
  · rw [hb.frozen (p := ⟨p, 3, none⟩) hp]; exact f3

theorem KeyAt.alloc {W : World} {p : Nat} {a b c d : Int} (h : KeyAt W p a b c d) (o : Obj) : KeyAt (W.alloc o) p a b c d := h.below ((Below.refl _ _).alloc (Nat.le_refl _) _)

theorem KeyAt.same {W W' : World} {p : Nat} {a b c d : Int} (h : KeyAt W p a b c d) (e : W.heap = W'.heap) : KeyAt W' p a b c d := by
  unfold KeyAt World.cell? World.frozen? at *
  rw [← e]
  exact h
end Go.Proofs.YtdaigojpeofmpaaGreat
namespace Go.Proofs.YtdaigojpeofmpaaGreat
open Go.RowKit

set_option linter.unusedSimpArgs false

/-- the first that is not 0 -/
def cmpK (a b c d : Int) : Int := if a = 0 then (if b = 0 then (if c = 0 then d else c) else b) else a

theorem cmpK_neg (x y : RecD) : decide (cmpK (cmpN x.area y.area) (cmpN x.kind y.kind) (cmpN x.owner y.owner) (cmpN x.key y.key) < 0) = beforeB x y := by
  unfold cmpK beforeB
  by_cases h1 : x.area = y.area
  · rw [if_pos (cmpN_zero.2 h1)]
    by_cases h2 : x.kind = y.kind
    · rw [if_pos (cmpN_zero.2 h2)]
      by_cases h3 : x.owner = y.owner
      · rw [if_pos (cmpN_zero.2 h3)]
        simp [cmpN_neg, h1, h2, h3]
      · rw [if_neg (fun h => h3 (cmpN_zero.1 h))]
        simp [cmpN_neg, h1, h2, h3]
    · rw [if_neg (fun h => h2 (cmpN_zero.1 h))]
      simp [cmpN_neg, h1, h2]
  · rw [if_neg (fun h => h1 (cmpN_zero.1 h))]
    simp [cmpN_neg, h1]

set_option maxRecDepth 100000 in
set_option maxHeartbeats 1000000 in
theorem scompare_any (p q : Nat) (a b c d a' b' c' d' : Int) (w : World) (h : KeyAt w p a b c d) (h' : KeyAt w q a' b' c' d') :
    Calls Tryz.prog 249 #[.slice (some ⟨p, 0, none⟩) 4 4, .slice (some ⟨q, 0, none⟩) 4 4] w fun e w' => e = .returned (.int .i64 (cmpK (cmpN a a') (cmpN b b') (cmpN c c') (cmpN d d'))) ∧ w = w' := by
  obtain ⟨⟨h0, h1, h2, h3⟩, _⟩ := h
  obtain ⟨⟨g0, g1, g2, g3⟩, _⟩ := h'
  have C0 := hide (compare_any a a')
  have C1 := hide (compare_any b b')
  have C2 := hide (compare_any c c')
  have C3 := hide (compare_any d d')
  generalize cmpN a a' = k0 at C0 ⊢
  generalize cmpN b b' = k1 at C1 ⊢
  generalize cmpN c c' = k2 at C2 ⊢
  generalize cmpN d d' = k3 at C3 ⊢
  go_enter Tryz.func249, Tryz.ntmps249
  go_wp2
  refine wp_loop_rounds 5 ?_
  rw [rounds_succ]
  go_wp2_with fail
  refine (C0.out _).mono ?_
  rintro e w1 ⟨rfl, rfl⟩
  by_cases z0 : k0 = 0
  case neg =>
    have hd : (k0 != 0) = true := by simpa using z0
    have E0 := hide (show cmpK k0 k1 k2 k3 = k0 by unfold cmpK; rw [if_neg z0])
    clear z0
    go_wp2
    go_ret
    exact ⟨ret_i E0.out, rfl⟩
  subst z0
  go_wp2
  rw [rounds_succ]
  go_wp2_with fail
  refine (C1.out _).mono ?_
  rintro e w1 ⟨rfl, rfl⟩
  by_cases z1 : k1 = 0
  case neg =>
    have hd : (k1 != 0) = true := by simpa using z1
    have E0 := hide (show cmpK 0 k1 k2 k3 = k1 by unfold cmpK; rw [if_pos rfl, if_neg z1])
    clear z1
    go_wp2
    go_ret
    exact ⟨ret_i E0.out, rfl⟩
  subst z1
  go_wp2
  rw [rounds_succ]
  go_wp2_with fail
  refine (C2.out _).mono ?_
  rintro e w1 ⟨rfl, rfl⟩
  by_cases z2 : k2 = 0
  case neg =>
    have hd : (k2 != 0) = true := by simpa using z2
    have E0 := hide (show cmpK 0 0 k2 k3 = k2 by unfold cmpK; rw [if_pos rfl, if_pos rfl, if_neg z2])
    clear z2
    go_wp2
    go_ret
    exact ⟨ret_i E0.out, rfl⟩
  subst z2
  go_wp2
  rw [rounds_succ]
  go_wp2_with fail
  refine (C3.out _).mono ?_
  rintro e w1 ⟨rfl, rfl⟩
  by_cases z3 : k3 = 0
  case neg =>
    have hd : (k3 != 0) = true := by simpa using z3
    have E0 := hide (show cmpK 0 0 0 k3 = k3 by unfold cmpK; rfl)
    clear z3
    go_wp2
    go_ret
    exact ⟨ret_i E0.out, rfl⟩
  subst z3
  go_wp2
  rw [rounds_succ]
  go_wp2
  go_ret
  exact ⟨ret_i rfl, rfl⟩

set_option maxRecDepth 100000 in
set_option maxHeartbeats 1000000 in
theorem orderKeys_any (a b c d a' b' c' d' : Int) (w : World) : Calls Tryz.prog 214 #[.agg #[.int .i64 a, .int .i64 b, .int .i64 c, .int .i64 d], .agg #[.int .i64 a', .int .i64 b', .int .i64 c', .int .i64 d']] w fun e w' => e = .returned (.int .i64 (cmpK (cmpN a a') (cmpN b b') (cmpN c c') (cmpN d d'))) ∧ Below w.heap.size w w' := by
  obtain ⟨r, hr⟩ : ∃ r, r = cmpK (cmpN a a') (cmpN b b') (cmpN c c') (cmpN d d') := ⟨_, rfl⟩
  obtain ⟨w1, hw1⟩ : ∃ w1, w1 = (w.alloc (.cells #[.int .i64 a, .int .i64 b, .int .i64 c, .int .i64 d] 232)).alloc (.cells #[.int .i64 a', .int .i64 b', .int .i64 c', .int .i64 d'] 232) := ⟨_, rfl⟩
  have B1 : Below w.heap.size w w1 := by rw [hw1]; exact below_two _ _
  have p0 : w1.heap[w.heap.size]? = some (.cells #[.int .i64 a, .int .i64 b, .int .i64 c, .int .i64 d] 232) := by rw [hw1, Below.heap_alloc _ _ _ (by simp), heap_alloc_new]
  have q0 : w1.heap[w.heap.size + 1]? = some (.cells #[.int .i64 a', .int .i64 b', .int .i64 c', .int .i64 d'] 232) := by
    rw [hw1]
    have := heap_alloc_new (w.alloc (.cells #[.int .i64 a, .int .i64 b, .int .i64 c, .int .i64 d] 232)) (.cells #[.int .i64 a', .int .i64 b', .int .i64 c', .int .i64 d'] 232)
    simpa using this
  have kp : KeyAt w1 w.heap.size a b c d := ⟨⟨cells_at p0 0, cells_at p0 1, cells_at p0 2, cells_at p0 3⟩, frozen_at p0 0, frozen_at p0 1, frozen_at p0 2, frozen_at p0 3⟩
  have kq : KeyAt w1 (w.heap.size + 1) a' b' c' d' := ⟨⟨cells_at q0 0, cells_at q0 1, cells_at q0 2, cells_at q0 3⟩, frozen_at q0 0, frozen_at q0 1, frozen_at q0 2, frozen_at q0 3⟩
  have HC := hide (fun W' (h : w1.heap = W'.heap) => scompare_any w.heap.size (w.heap.size + 1) a b c d a' b' c' d' W' (kp.same h) (kq.same h))
  rw [← hr] at HC ⊢
  clear kp kq p0 q0 hr
  go_enter Tryz.func214, Tryz.ntmps214
  go_wp2
  rw [← hw1]
  clear hw1
  go_region_held3 (fun W' => w1.heap = W'.heap) (first | rfl | assumption | go_keep) (first | (go_at_call 249; refine (HC.out _ ?_).mono ?_; (first | rfl | assumption); rintro e w3 ⟨rfl, rfl⟩))
  go_wp2
  go_ret
  exact ⟨rfl, B1.drew⟩

end Go.Proofs.YtdaigojpeofmpaaGreat
namespace Go.Proofs.YtdaigojpeofmpaaGreat
open Go.RowKit

/-- the first place of a key, -1 without one -/
def atZ (xs : List RecD) (r : RecD) : Int := match xs.findIdx? (fun x => sameKeyB x r) with
  | some i => (i : Int)
  | none => -1

theorem atZ_found {xs : List RecD} {r x : RecD} {k : Nat} (hk : xs[k]? = some x) (hs : sameKeyB x r = true) (hall : ∀ j, j < k → ∀ y, xs[j]? = some y → sameKeyB y r = false) : atZ xs r = (k : Int) := by
  obtain ⟨h1, e1⟩ := List.getElem?_eq_some_iff.1 hk
  have : xs.findIdx? (fun x => sameKeyB x r) = some k := by
    rw [List.findIdx?_eq_some_iff_getElem]
    refine ⟨h1, by rw [e1]; exact hs, fun j hj => ?_⟩
    have := hall j hj xs[j] (List.getElem?_eq_getElem (by omega))
    simp [this]
  unfold atZ
  rw [this]

theorem atZ_none {xs : List RecD} {r : RecD} (hall : ∀ j, j < xs.length → ∀ y, xs[j]? = some y → sameKeyB y r = false) : atZ xs r = -1 := by
  have : xs.findIdx? (fun x => sameKeyB x r) = none := by
    rw [List.findIdx?_eq_none_iff]
    intro x hx
    obtain ⟨i, hi, e⟩ := List.getElem_of_mem hx
    exact hall i hi x (by rw [← e]; exact List.getElem?_eq_getElem hi)
  unfold atZ
  rw [this]

theorem atZ_cases (xs : List RecD) (r : RecD) : atZ xs r = -1 ∨ ∃ (k : Nat) (x : RecD), atZ xs r = (k : Int) ∧ xs[k]? = some x ∧ sameKeyB x r = true := by
  unfold atZ
  cases h : xs.findIdx? (fun x => sameKeyB x r) with
  | none => exact .inl rfl
  | some i =>
    obtain ⟨h1, h2, _⟩ := List.findIdx?_eq_some_iff_getElem.1 h
    exact .inr ⟨i, xs[i], rfl, List.getElem?_eq_getElem h1, h2⟩

def keyV (r : RecD) : Array Value := #[.int .i64 r.area, .int .i64 r.kind, .int .i64 r.owner, .int .i64 r.key]

/-- the answer of placeOf -/
def plV (z : Int) : Value := if z < 0 then .tuple #[.int .i64 0, .bool false] else .tuple #[.int .i64 z, .bool true]

end Go.Proofs.YtdaigojpeofmpaaGreat
