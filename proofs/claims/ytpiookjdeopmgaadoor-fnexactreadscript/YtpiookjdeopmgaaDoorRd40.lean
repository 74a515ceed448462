/-
  laws.FnExactReadScript: its walk.
-/
import Derived.Test.YtpiookjdeopmgaaDoorRd37
import Derived.Test.YtpiookjdeopmgaaDoorRd39
namespace Go.Proofs.YtpiookjdeopmgaaDoor
open Go.RowKit
set_option linter.unusedSimpArgs false
set_option linter.unusedVariables false

theorem lines_inv : ∀ (L : List (List UInt8)) (s : SD) (k : Nat) (s' : SD), SInv s → linesF s k L = .inl s' → SInv s'
  | [], s, k, s', hi, h => by cases h; exact hi
  | l :: L, s, k, s', hi, h => by
    unfold linesF at h
    split at h
    · rename_i s2 h2
      exact lines_inv L _ _ s' (lineF_inv hi h2) h
    · cases h

theorem scr_inv (t : ByteArray) : SInv (resD (scrF t)) := by
  unfold scrF
  split
  · exact sd0_inv
  · cases hl : linesF sd0 0 (lnsOf t.data.toList) with
    | inl s =>
      simp only [endF]
      split
      · exact sd0_inv
      · exact lines_inv _ _ _ s sd0_inv hl
    | inr z => exact sd0_inv

theorem tab_at {w w' : World} (h : Lib.TabIs Tryd.prog w "strings.asciiSpace" .u8 Lib.asciiSpaceTab) (hb : Below w.heap.size w w') : Lib.TabIs Tryd.prog w' "strings.asciiSpace" .u8 Lib.asciiSpaceTab := tab_thenB h hb

/-- what the specification told, kept -/
structure SpS (W : World) (lo zw : Nat) (u1 u2 u3 : Value) (D : SD) : Prop where
  box : W.heap[zw]? = some (.cells #[.int .i64 D.n, u1, u2] 25)
  r1 : LinksAt W u1 D.ls lo
  r2 : ThingsAt W u2 D.ts lo
  r3 : EvsAt W u3 D.es lo
  zlt : zw < lo

theorem SpS.keep {W W' : World} {lo zw : Nat} {u1 u2 u3 : Value} {D : SD} (h : SpS W lo zw u1 u2 u3 D) (hb : Below lo W W') : SpS W' lo zw u1 u2 u3 D :=
  ⟨(hb.block _ h.zlt).trans h.box, RowAt.later h.r1 hb (Nat.le_refl _), RowAt.later h.r2 hb (Nat.le_refl _), RowAt.later h.r3 hb (Nat.le_refl _), h.zlt⟩

theorem SpS.net {W : World} {lo zw : Nat} {u1 u2 u3 : Value} {D : SD} (h : SpS W lo zw u1 u2 u3 D) (hl : lo ≤ W.heap.size) : NetAt W (.agg #[.int .i64 D.n, u1, u2]) ⟨D.n, D.ls, D.ts⟩ W.heap.size :=
  ⟨u1, u2, rfl, RowAt.more h.r1 hl, RowAt.more h.r2 hl⟩

/-- what the program told: its box and its rows -/
structure ImS (W : World) (lo zg : Nat) (g1 g2 g3 : Value) (n : Int) (a b c : Nat) (ls : List Lk) (ts : List Th) (es : List EvD) : Prop where
  box : W.heap[zg]? = some (.cells #[.int .i64 n, g1, g2] 25)
  l1 : ls.length = a
  l2 : ts.length = b
  l3 : es.length = c
  r1 : W.ownsRow lo 77 4 g1 a (flat lkE ls)
  r2 : W.ownsRow lo 81 4 g2 b (flat thE ts)
  r3 : W.ownsRow lo 53 4 g3 c (flat evE es)

theorem ImS.below {W W' : World} {lo zg : Nat} {g1 g2 g3 : Value} {n : Int} {a b c : Nat} {ls : List Lk} {ts : List Th} {es : List EvD} (h : ImS W lo zg g1 g2 g3 n a b c ls ts es) (hb : Below W.heap.size W W') : ImS W' lo zg g1 g2 g3 n a b c ls ts es :=
  ⟨(hb.block _ (lt_of_heap h.box)).trans h.box, h.l1, h.l2, h.l3, owns_below h.r1 hb (Nat.le_refl _), owns_below h.r2 hb (Nat.le_refl _), owns_below h.r3 hb (Nat.le_refl _)⟩

theorem ImS.links {W : World} {lo zg : Nat} {g1 g2 g3 : Value} {n : Int} {a b c : Nat} {ls : List Lk} {ts : List Th} {es : List EvD} (h : ImS W lo zg g1 g2 g3 n a b c ls ts es) : LinksAt W g1 ls W.heap.size := owns_rowAt (xs := ls) (by rw [h.l1]; exact h.r1)
theorem ImS.things {W : World} {lo zg : Nat} {g1 g2 g3 : Value} {n : Int} {a b c : Nat} {ls : List Lk} {ts : List Th} {es : List EvD} (h : ImS W lo zg g1 g2 g3 n a b c ls ts es) : ThingsAt W g2 ts W.heap.size := owns_rowAt (xs := ts) (by rw [h.l2]; exact h.r2)
theorem ImS.events {W : World} {lo zg : Nat} {g1 g2 g3 : Value} {n : Int} {a b c : Nat} {ls : List Lk} {ts : List Th} {es : List EvD} (h : ImS W lo zg g1 g2 g3 n a b c ls ts es) : EvsAt W g3 es W.heap.size := owns_rowAt (xs := es) (by rw [h.l3]; exact h.r3)

theorem ImS.net {W : World} {lo zg : Nat} {g1 g2 g3 : Value} {n : Int} {a b c : Nat} {ls : List Lk} {ts : List Th} {es : List EvD} (h : ImS W lo zg g1 g2 g3 n a b c ls ts es) : NetAt W (.agg #[.int .i64 n, g1, g2]) ⟨n, ls, ts⟩ W.heap.size :=
  ⟨g1, g2, rfl, h.links, h.things⟩

set_option maxRecDepth 100000 in
set_option maxHeartbeats 4000000 in
theorem fnExactReadScript_walk0 (s : ByteArray) (_ : s.size ≤ maxLen) (w : World) (hT : Lib.TabIs Tryd.prog w "strings.asciiSpace" .u8 Lib.asciiSpaceTab) :
    Calls Tryd.prog 3 #[.string s] w fun e w' => e = .returned (.bool true) ∧ Below w.heap.size w w' := by
  by_cases hs : (1048576 : Int) < (s.size : Int)
  · clear hT
    go_enter Tryd.func3, Tryd.ntmps3
    go_wp2
    go_ret
    exact ⟨rfl, Below.refl _ _⟩
  have HT := hide hT
  clear hT
  have hfew := (scr_inv s).few
  have CS := hide (fun W => sread_any s W (by omega))
  have CI := hide (fun W ht => iread_any s W (by omega) ht)
  obtain ⟨D, hD⟩ : ∃ D, D = resD (scrF s) := ⟨_, rfl⟩
  obtain ⟨Z, hZ⟩ : ∃ Z, Z = retZ (scrF s) := ⟨_, rfl⟩
  rw [← hD] at CS CI hfew
  rw [← hZ] at CS CI
  clear hD hZ
  obtain ⟨hfa, hfb, hfc⟩ := hfew
  obtain ⟨n, ls, ts, es⟩ := D
  simp only [] at hfa hfb hfc CS CI
  obtain ⟨a, ha⟩ : ∃ a, a = ls.length := ⟨_, rfl⟩
  obtain ⟨b, hb⟩ : ∃ a, a = ts.length := ⟨_, rfl⟩
  obtain ⟨c, hc⟩ : ∃ a, a = es.length := ⟨_, rfl⟩
  rw [← ha] at hfa
  rw [← hb] at hfb
  rw [← hc] at hfc
  have HA := hide ha
  have HB := hide hb
  have HC := hide hc
  clear ha hb hc
  go_enter Tryd.func3, Tryd.ntmps3
  go_wp2_with fail
  refine (CS.out _).mono ?_
  rintro e w1 ⟨u1, u2, u3, rfl, r1, b1⟩
  obtain ⟨a1, c1, rfl⟩ := r1.r1.shape
  obtain ⟨a2, c2, rfl⟩ := r1.r2.shape
  obtain ⟨a3, c3, rfl⟩ := EvsAt.shape r1.r3
  have R1 := hide r1
  have hz1 := b1.size
  obtain ⟨w2, hw2⟩ : ∃ w2, w2 = w1.alloc (.cells #[.int .i64 n, .slice a1 ls.length c1, .slice a2 ts.length c2] 25) := ⟨_, rfl⟩
  have q2 : w2.heap[w1.heap.size]? = some (.cells #[.int .i64 n, .slice a1 ls.length c1, .slice a2 ts.length c2] 25) := by rw [hw2, heap_alloc_new]
  have b2 : Below w1.heap.size w1 w2 := by rw [hw2]; exact (Below.refl _ _).alloc (Nat.le_refl _) _
  have s2 : w2.heap.size = w1.heap.size + 1 := by rw [hw2]; simp
  obtain ⟨zw, hzw⟩ : ∃ z, z = w1.heap.size := ⟨_, rfl⟩
  have SP2 := hide (show SpS w2 w2.heap.size zw (.slice a1 ls.length c1) (.slice a2 ts.length c2) (.slice a3 es.length c3) ⟨n, ls, ts, es⟩ from
    ⟨by rw [hzw]; exact q2, RowAt.then R1.out.r1 b2, RowAt.then R1.out.r2 b2, RowAt.then R1.out.r3 b2, by omega⟩)
  have BB2 := hide (b1.trans (b2.mono hz1))
  have HW2 := hide hw2
  have HZW := hide hzw
  have hlo0 : w.heap.size ≤ w2.heap.size := by omega
  clear r1 b1 b2 q2 hw2 hzw R1 s2
  go_wp2_with fail
  rw [← HW2.out]
  try simp only [← HZW.out]
  refine (CI.out _ (tab_at HT.out BB2.out)).mono ?_
  rintro e w3 ⟨v1, v2, v3, rfl, o3, b3⟩
  obtain ⟨d1, e1, rfl⟩ := owns_lenS o3.r1
  obtain ⟨d2, e2, rfl⟩ := owns_lenS o3.r2
  obtain ⟨d3, e3, rfl⟩ := owns_lenS o3.r3
  have hz3 := b3.size
  obtain ⟨lo, hlo⟩ : ∃ l, l = w2.heap.size := ⟨_, rfl⟩
  have SP2' := SP2.out
  rw [← hlo] at o3 SP2' hlo0 hz3
  have SP3 := hide (SP2'.keep (by rw [hlo]; exact b3))
  have BB3 := hide (BB2.out.trans (b3.mono BB2.out.size))
  have O3 := hide o3
  obtain ⟨w4, hw4⟩ : ∃ w4, w4 = w3.alloc (.cells #[.int .i64 n, .slice d1 ls.length e1, .slice d2 ts.length e2] 25) := ⟨_, rfl⟩
  have q4 : w4.heap[w3.heap.size]? = some (.cells #[.int .i64 n, .slice d1 ls.length e1, .slice d2 ts.length e2] 25) := by rw [hw4, heap_alloc_new]
  have b4 : Below w3.heap.size w3 w4 := by rw [hw4]; exact (Below.refl _ _).alloc (Nat.le_refl _) _
  have s4 : lo ≤ w4.heap.size := by have := b4.size; omega
  obtain ⟨zg, hzg⟩ : ∃ z, z = w3.heap.size := ⟨_, rfl⟩
  have IM4 := hide (show ImS w4 lo zg (.slice d1 ls.length e1) (.slice d2 ts.length e2) (.slice d3 es.length e3) n a b c ls ts es from
    ⟨by rw [hzg]; exact q4, HA.out.symm, HB.out.symm, HC.out.symm, by rw [HA.out]; exact owns_below O3.out.r1 b4 (Nat.le_refl _), by rw [HB.out]; exact owns_below O3.out.r2 b4 (Nat.le_refl _), by rw [HC.out]; exact owns_below O3.out.r3 b4 (Nat.le_refl _)⟩)
  have SP4 := hide (SP3.out.keep (b4.mono hz3))
  have BB4 := hide (BB3.out.trans (b4.mono BB3.out.size))
  have HW4 := hide hw4
  have HZG := hide hzg
  clear o3 b3 b4 q4 hw4 hzg SP2 SP2' SP3 BB2 BB3 O3 HW2 HZW hlo hz1 hz3
  have y0 := cells_at SP4.out.box 0
  have y1 := cells_at SP4.out.box 1
  have y2 := cells_at SP4.out.box 2
  have x0 := cells_at IM4.out.box 0
  have x1 := cells_at IM4.out.box 1
  have x2 := cells_at IM4.out.box 2
  simp only [List.getElem?_toArray, List.getElem?_cons_succ, List.getElem?_cons_zero] at y0 y1 y2 x0 x1 x2
  rw [HW4.out] at x0 x1 x2 y0 y1 y2
  rw [HZG.out] at x0 x1 x2
  go_wp2_with fail
  rw [← HW4.out]
  try simp only [← HZG.out]
  refine (eqNet_any _ _ ⟨n, ls, ts⟩ ⟨n, ls, ts⟩ _ IM4.out.net (SP4.out.net s4) (by simp only []; have := HA.out; omega) (by simp only []; have := HB.out; omega)).mono ?_
  rw [decide_eq_true rfl]
  rintro e w5 ⟨rfl, b5⟩
  have SP5 := hide (SP4.out.keep (b5.mono s4))
  have IM5 := hide (IM4.out.below b5)
  have BB5 := hide (BB4.out.trans (b5.mono BB4.out.size))
  have s5 : lo ≤ w5.heap.size := Nat.le_trans s4 b5.size
  clear b5 s4 SP4 IM4 BB4
  clear y0 y1 y2 x0 x1 x2 HW4
  go_wp2_with fail
  try simp only [← HZG.out]
  refine (eqEventS_same _ _ es _ IM5.out.events (RowAt.more SP5.out.r3 s5) (by have := HC.out; omega)).mono ?_
  rintro e w6 ⟨rfl, b6⟩
  have SP6 := hide (SP5.out.keep (b6.mono s5))
  have IM6 := hide (IM5.out.below b6)
  have BB6 := hide (BB5.out.trans (b6.mono BB5.out.size))
  have s6 : lo ≤ w6.heap.size := Nat.le_trans s5 b6.size
  clear b6 s5 SP5 IM5 BB5
  have x0 := cells_at IM6.out.box 0
  have x1 := cells_at IM6.out.box 1
  have x2 := cells_at IM6.out.box 2
  simp only [List.getElem?_toArray, List.getElem?_cons_succ, List.getElem?_cons_zero] at x0 x1 x2
  go_wp2_with fail
  try simp only [← HZG.out]
  have MN := hide (fun W (h : ImS W lo zg (.slice d1 ls.length e1) (.slice d2 ts.length e2) (.slice d3 es.length e3) n a b c ls ts es) (hl : lo ≤ W.heap.size) => markNet_own (.int .i64 n) (.slice d1 ls.length e1) (.slice d2 ts.length e2) lo a b ls ts 1 W h.l1 h.l2 h.r1 h.r2 hl (by omega) (by omega) (by omega) (by omega))
  refine (MN.out _ IM6.out s6).mono ?_
  rintro e w7 ⟨rfl, o7, p7, k7, b7⟩
  have SP7 := hide (SP6.out.keep b7)
  have IM7 := hide (show ImS w7 lo zg (.slice d1 ls.length e1) (.slice d2 ts.length e2) (.slice d3 es.length e3) n a b c (mkAll (mkLk 1) a) (mkAll (mkTh (1 + 4 * (a : Int))) b) es from
    ⟨k7 _ _ _ _ IM6.out.box (by decide), mkAll_len _ _, mkAll_len _ _, IM6.out.l3, o7, p7, k7.own IM6.out.r3 (by decide)⟩)
  have BB7 := hide (BB6.out.trans (b7.mono hlo0))
  have s7 : lo ≤ w7.heap.size := Nat.le_trans s6 b7.size
  clear MN o7 p7 k7 b7 s6 SP6 IM6 BB6 x0 x1 x2
  go_wp2_with fail
  try simp only [← HZG.out]
  refine (markEventS_own _ lo c es _ _ IM7.out.l3 IM7.out.r3 s7 (by omega) (by omega) (by omega)).mono ?_
  rintro e w8 ⟨rfl, o8, k8, b8⟩
  have SP8 := hide (SP7.out.keep b8)
  have IM8 := hide (show ImS w8 lo zg (.slice d1 ls.length e1) (.slice d2 ts.length e2) (.slice d3 es.length e3) n a b c (mkAll (mkLk 1) a) (mkAll (mkTh (1 + 4 * (a : Int))) b) (mkAll (mkEv (1 + 4 * (a : Int) + 4 * (b : Int))) c) from
    ⟨k8 _ _ _ _ IM7.out.box (by decide), mkAll_len _ _, mkAll_len _ _, mkAll_len _ _, k8.own IM7.out.r1 (by decide), k8.own IM7.out.r2 (by decide), o8⟩)
  have BB8 := hide (BB7.out.trans (b8.mono hlo0))
  have s8 : lo ≤ w8.heap.size := Nat.le_trans s7 b8.size
  clear o8 k8 b8 s7 SP7 IM7 BB7
  have x0 := cells_at IM8.out.box 0
  have x1 := cells_at IM8.out.box 1
  have x2 := cells_at IM8.out.box 2
  simp only [List.getElem?_toArray, List.getElem?_cons_succ, List.getElem?_cons_zero] at x0 x1 x2
  have hp : ¬ (1 + 4 * (a : Int) + 4 * (b : Int)) < 0 := by omega
  have hp2 : ¬ (1 + 4 * (a : Int) + 4 * (b : Int) + 4 * (c : Int)) < 0 := by omega
  have hp3 : ((1 + 4 * (a : Int) + 4 * (b : Int) + 4 * (c : Int)) != (1 + 4 * (a : Int) + 4 * (b : Int) + 4 * (c : Int))) = false := by simp
  go_wp2_with fail
  try simp only [← HZG.out]
  refine (heldNet_all _ _ _ a b 1 _ IM8.out.links IM8.out.things (by omega) (by omega) (by omega) (by omega)).mono ?_
  rintro e w9 ⟨rfl, b9⟩
  have SP9 := hide (SP8.out.keep (b9.mono s8))
  have IM9 := hide (IM8.out.below b9)
  have BB9 := hide (BB8.out.trans (b9.mono BB8.out.size))
  have s9 : lo ≤ w9.heap.size := Nat.le_trans s8 b9.size
  clear b9 s8 SP8 IM8 BB8
  clear x0 x1 x2
  go_wp2_with fail
  try simp only [← HZG.out]
  refine (heldEventS_all _ c _ _ IM9.out.events (by omega) (by omega) (by omega)).mono ?_
  rintro e w10 ⟨rfl, b10⟩
  have SP10 := hide (SP9.out.keep (b10.mono s9))
  have IM10 := hide (IM9.out.below b10)
  have BB10 := hide (BB9.out.trans (b10.mono BB9.out.size))
  have s10 : lo ≤ w10.heap.size := Nat.le_trans s9 b10.size
  clear b10 s9 SP9 IM9 BB9
  go_wp2_with fail
  try simp only [← HZG.out]
  refine (CI.out _ (tab_at HT.out BB10.out)).mono ?_
  rintro e w11 ⟨v1, v2, v3, rfl, o11, b11⟩
  obtain ⟨h1, i1, rfl⟩ := owns_lenS o11.r1
  obtain ⟨h2, i2, rfl⟩ := owns_lenS o11.r2
  obtain ⟨h3, i3, rfl⟩ := owns_lenS o11.r3
  have O11 := hide o11
  have SP11 := hide (SP10.out.keep (b11.mono s10))
  have IM11 := hide (IM10.out.below b11)
  have BB11 := hide (BB10.out.trans (b11.mono BB10.out.size))
  have s11 : lo ≤ w11.heap.size := Nat.le_trans s10 b11.size
  clear b11 s10 SP10 IM10 BB10
  clear o11
  obtain ⟨w12, hw12⟩ : ∃ w12, w12 = w11.alloc (.cells #[.int .i64 n, .slice h1 ls.length i1, .slice h2 ts.length i2] 25) := ⟨_, rfl⟩
  have q12 : w12.heap[w11.heap.size]? = some (.cells #[.int .i64 n, .slice h1 ls.length i1, .slice h2 ts.length i2] 25) := by rw [hw12, heap_alloc_new]
  have b12 : Below w11.heap.size w11 w12 := by rw [hw12]; exact (Below.refl _ _).alloc (Nat.le_refl _) _
  obtain ⟨zh, hzh⟩ : ∃ z, z = w11.heap.size := ⟨_, rfl⟩
  have IH12 := hide (show ImS w12 w10.heap.size zh (.slice h1 ls.length i1) (.slice h2 ts.length i2) (.slice h3 es.length i3) n a b c ls ts es from
    ⟨by rw [hzh]; exact q12, HA.out.symm, HB.out.symm, HC.out.symm, by rw [HA.out]; exact owns_below O11.out.r1 b12 (Nat.le_refl _), by rw [HB.out]; exact owns_below O11.out.r2 b12 (Nat.le_refl _), by rw [HC.out]; exact owns_below O11.out.r3 b12 (Nat.le_refl _)⟩)
  have SP12 := hide (SP11.out.keep (b12.mono s11))
  have IM12 := hide (IM11.out.below b12)
  have BB12 := hide (BB11.out.trans (b12.mono BB11.out.size))
  have s12 : lo ≤ w12.heap.size := Nat.le_trans s11 b12.size
  clear b12 s11 SP11 IM11 BB11
  have HW12 := hide hw12
  have HZH := hide hzh
  clear hw12 hzh q12 O11
  have y0 := cells_at SP12.out.box 0
  have y1 := cells_at SP12.out.box 1
  have y2 := cells_at SP12.out.box 2
  have x0 := cells_at IH12.out.box 0
  have x1 := cells_at IH12.out.box 1
  have x2 := cells_at IH12.out.box 2
  simp only [List.getElem?_toArray, List.getElem?_cons_succ, List.getElem?_cons_zero] at y0 y1 y2 x0 x1 x2
  rw [HW12.out] at x0 x1 x2 y0 y1 y2
  rw [HZH.out] at x0 x1 x2
  go_wp2_with fail
  rw [← HW12.out]
  try simp only [← HZG.out, ← HZH.out]
  refine (eqNet_any _ _ ⟨n, ls, ts⟩ ⟨n, ls, ts⟩ _ IH12.out.net (SP12.out.net s12) (by simp only []; have := HA.out; omega) (by simp only []; have := HB.out; omega)).mono ?_
  rw [decide_eq_true rfl]
  rintro e w13 ⟨rfl, b13⟩
  have IH13 := hide (IH12.out.below b13)
  have SP13 := hide (SP12.out.keep (b13.mono s12))
  have IM13 := hide (IM12.out.below b13)
  have BB13 := hide (BB12.out.trans (b13.mono BB12.out.size))
  have s13 : lo ≤ w13.heap.size := Nat.le_trans s12 b13.size
  clear b13 s12 SP12 IM12 BB12
  clear y0 y1 y2 x0 x1 x2 HW12 IH12
  go_wp2_with fail
  try simp only [← HZG.out, ← HZH.out]
  refine (eqEventS_same _ _ es _ IH13.out.events (RowAt.more SP13.out.r3 s13) (by have := HC.out; omega)).mono ?_
  rintro e w14 ⟨rfl, b14⟩
  have SP14 := hide (SP13.out.keep (b14.mono s13))
  have IM14 := hide (IM13.out.below b14)
  have BB14 := hide (BB13.out.trans (b14.mono BB13.out.size))
  have s14 : lo ≤ w14.heap.size := Nat.le_trans s13 b14.size
  clear b14 s13 SP13 IM13 BB13
  have x0 := cells_at IM14.out.box 0
  have x1 := cells_at IM14.out.box 1
  have x2 := cells_at IM14.out.box 2
  simp only [List.getElem?_toArray, List.getElem?_cons_succ, List.getElem?_cons_zero] at x0 x1 x2
  go_wp2_with fail
  try simp only [← HZG.out]
  refine (heldNet_all _ _ _ a b 1 _ IM14.out.links IM14.out.things (by omega) (by omega) (by omega) (by omega)).mono ?_
  rintro e w15 ⟨rfl, b15⟩
  have SP15 := hide (SP14.out.keep (b15.mono s14))
  have IM15 := hide (IM14.out.below b15)
  have BB15 := hide (BB14.out.trans (b15.mono BB14.out.size))
  have s15 : lo ≤ w15.heap.size := Nat.le_trans s14 b15.size
  clear b15 s14 SP14 IM14 BB14
  clear x0 x1 x2
  go_wp2_with fail
  try simp only [← HZG.out]
  refine (heldEventS_all _ c _ _ IM15.out.events (by omega) (by omega) (by omega)).mono ?_
  rintro e w16 ⟨rfl, b16⟩
  have SP16 := hide (SP15.out.keep (b16.mono s15))
  have IM16 := hide (IM15.out.below b16)
  have BB16 := hide (BB15.out.trans (b16.mono BB15.out.size))
  have s16 : lo ≤ w16.heap.size := Nat.le_trans s15 b16.size
  clear b16 s15 SP15 IM15 BB15
  go_wp2
  go_ret
  exact ⟨rfl, BB16.out⟩

theorem tab_spaceR : (Rows.laid_strings_asciiSpace : DataW Unit) = Lib.tabData .u8 Lib.asciiSpaceTab := by kernel_rfl

theorem space_of_laidR {W : World} (h : laidMetH Tryd.prog Rows.fnExactReadScriptRow.laid W) : Lib.TabIs Tryd.prog W "strings.asciiSpace" .u8 Lib.asciiSpaceTab := by
  rw [MakeChecks.laidMetH_plain _ _ _ (by kernel_rfl)] at h
  have h2 : laidMet Tryd.prog [("strings.asciiSpace", Rows.laid_strings_asciiSpace)] W := laidMet.tail h
  rw [tab_spaceR] at h2
  exact Lib.tabIs_of_head gSpace (t := 134) (by kernel_rfl) Tryd.underlying134 Tryd.underlying5 (by kernel_rfl) (by kernel_rfl) h2

theorem fnExactReadScript_walk (s : ByteArray) (h : s.size ≤ maxLen) (w : World) (hL : laidMetH Tryd.prog Rows.fnExactReadScriptRow.laid w) :
    Calls Tryd.prog 3 #[.string s] w fun e w' => e = .returned (.bool true) ∧ Below w.heap.size w w' :=
  fnExactReadScript_walk0 s h w (space_of_laidR hL)
end Go.Proofs.YtpiookjdeopmgaaDoor
