/-
  spec.ReadRecord: its contract.
-/
import Derived.Test.YtchmmekhfcojgaaGreatDoorPq44
import Derived.Test.YtchmmekhfcojgaaGreatDoorPq32
import Derived.Test.YtchmmekhfcojgaaGreatDoorPq21
import Derived.Deep.CutRange
import Derived.Deep.CutBlock
namespace Go.Proofs.YtchmmekhfcojgaaGreatDoor
open Go.RowKit

theorem heap_set_ne {w : World} {k r i : Nat} {u : Value} {o : Obj} (h : w.heap[k]? = some o) (hk : k ≠ r) : (w.setCell ⟨r, i, none⟩ u).heap[k]? = some o := (heap_setCell_other w ⟨r, i, none⟩ k _ hk).trans h

theorem heap_app {W w' : World} {o ob : Obj} {v : Value} {base size n k : Nat} {e : TypeId} {xs : List Value} (h : W.heap[k]? = some ob) (hg : (W.alloc o).grownBy w' v.ownBlock) (ho : W.ownsRow base e size v n xs) (hk : k < base) : w'.heap[k]? = some ob := by
  have hl := lt_of_heap h
  rw [hg.block k (by simp; omega) (fun e => by have := (ho.lt k e.symm).1; omega), Below.heap_alloc _ _ _ hl]
  exact h

theorem textV_parts {x : RecD} {ts : ByteArray} {tb : Bool} (h : textV x = .tuple #[.string ts, .bool tb]) : tb = recOkB x ∧ (tb = true → ts = bs (recL x)) := by
  unfold textV at h
  split at h
  · rename_i hx
    simp only [Value.tuple.injEq, Array.mk.injEq, List.cons.injEq, Value.string.injEq, Value.bool.injEq, and_true] at h
    exact ⟨by rw [hx, ← h.2], fun _ => h.1.symm⟩
  · rename_i hx
    simp only [Value.tuple.injEq, Array.mk.injEq, List.cons.injEq, Value.string.injEq, Value.bool.injEq, and_true] at h
    exact ⟨by rw [← h.2]; simpa using hx, fun e => by rw [← h.2] at e; cases e⟩

theorem bs_eq_iff (l : List UInt8) (s : ByteArray) : bs l = s ↔ l = s.data.toList := by
  constructor
  · rintro rfl; rfl
  · rintro rfl; rfl

set_option maxRecDepth 100000 in
set_option maxHeartbeats 4000000 in
theorem sreadR_any (s : ByteArray) (w : World) (hs : s.size ≤ 1048576) :
    Calls Tryz.prog 35 #[.string s] w fun e w' => ∃ u : Value, e = .returned (.tuple #[.agg (recC (readD s) u), .bool (okI s)]) ∧ w'.ownsRow w.heap.size 100 2 u (readD s).near.length (flat nrE (readD s).near) ∧ Below w.heap.size w w' := by
  obtain ⟨z, hz⟩ : ∃ z, z = w.heap.size + 1 := ⟨_, rfl⟩
  obtain ⟨q0, h0⟩ : ∃ q, q = oneR s 0 false := ⟨_, rfl⟩
  obtain ⟨q1, h1⟩ : ∃ q, q = oneR s q0.p q0.b := ⟨_, rfl⟩
  obtain ⟨q2, h2⟩ : ∃ q, q = oneR s q1.p q1.b := ⟨_, rfl⟩
  obtain ⟨q3, h3⟩ : ∃ q, q = oneR s q2.p q2.b := ⟨_, rfl⟩
  obtain ⟨q4, h4⟩ : ∃ q, q = varR s q3.p q3.b := ⟨_, rfl⟩
  obtain ⟨q5, h5⟩ : ∃ q, q = varR s q4.p q4.b := ⟨_, rfl⟩
  obtain ⟨cnt, hcnt⟩ : ∃ c, c = min q5.v.toNat 50 := ⟨_, rfl⟩
  obtain ⟨l6, h6⟩ : ∃ q, q = nearA s q5.p q5.b cnt := ⟨_, rfl⟩
  obtain ⟨q7, h7⟩ : ∃ q, q = varR s l6.p l6.b := ⟨_, rfl⟩
  obtain ⟨q8, h8⟩ : ∃ q, q = oneR s q7.p q7.b := ⟨_, rfl⟩
  obtain ⟨x, hx⟩ : ∃ x : RecD, x = ⟨q0.v, q1.v, q2.v, q3.v, q4.v, l6.l, q7.v, q8.v == 1⟩ := ⟨_, rfl⟩
  have hrec : recP s (cntS s) = x := by rw [hx]; subst h8 h7 h6 hcnt h5 h4 h3 h2 h1 h0; rfl
  have hok : okI s = (!q8.b && recOkB x && decide (recL x = s.data.toList)) := by
    rw [(okI_okS s).1, ← hrec]; subst h8 h7 h6 hcnt h5 h4 h3 h2 h1 h0; rfl
  obtain ⟨O, hO⟩ : ∃ O, O = okI s := ⟨_, rfl⟩
  obtain ⟨D, hDD⟩ : ∃ D, D = readD s := ⟨_, rfl⟩
  have HD := hide (show D = if O then x else zeroR by
    rw [hDD, hO]
    unfold readD
    cases ho : okI s with
    | false => rfl
    | true => rw [(okI_okS s).2 ho, hrec])
  rw [← hDD, ← hO]
  rw [← hO] at hok
  have HO := hide hok
  have g0 : q0.p ≤ s.size := by rw [h0]; exact oneR_le (Nat.zero_le _)
  have g1 : q1.p ≤ s.size := by rw [h1]; exact oneR_le g0
  have g2 : q2.p ≤ s.size := by rw [h2]; exact oneR_le g1
  have g3 : q3.p ≤ s.size := by rw [h3]; exact oneR_le g2
  have g4 : q4.p ≤ s.size := by rw [h4]; exact varR_le g3
  have g5 : q5.p ≤ s.size := by rw [h5]; exact varR_le g4
  have v5 := varR_range (b := q4.b) g4
  rw [← h5] at v5
  have g6 : l6.p ≤ s.size := by rw [h6]; exact nearA_le g5 _
  have n6 : l6.l.length ≤ 50 := by have := nearA_len s q5.p q5.b cnt; rw [← h6] at this; omega
  have g7 : q7.p ≤ s.size := by rw [h7]; exact varR_le g6
  have C0 := hide (fun W => byteS_any z 0 s false W hs (Nat.zero_le _))
  have C1 := hide (fun W => byteS_any z q0.p s q0.b W hs g0)
  have C2 := hide (fun W => byteS_any z q1.p s q1.b W hs g1)
  have C3 := hide (fun W => byteS_any z q2.p s q2.b W hs g2)
  have C4 := hide (fun W => numS_any z q3.p s q3.b W hs g3)
  have C5 := hide (fun W => numS_any z q4.p s q4.b W hs g4)
  have C7 := hide (fun W => numS_any z l6.p s l6.b W hs g6)
  have C8 := hide (fun W => byteS_any z q7.p s q7.b W hs g7)
  have CO := hide (fun q c W => byteS_any z q s c W hs)
  have CN := hide (fun q c W => numS_any z q s c W hs)
  rw [← h0] at C0
  rw [← h1] at C1
  rw [← h2] at C2
  rw [← h3] at C3
  rw [← h4] at C4
  rw [← h5] at C5
  rw [← h7] at C7
  rw [← h8] at C8
  have HXX := hide hx
  have H6 := hide h6
  obtain ⟨nn, hnn⟩ : ∃ m : Nat, q5.v = (m : Int) := ⟨q5.v.toNat, by omega⟩
  have hcn : cnt ≤ nn ∧ cnt ≤ 50 ∧ (cnt = nn ∨ cnt = 50) := by rw [hcnt, hnn]; simp; omega
  have hnb : nn ≤ 1000000000 := by omega
  rw [hnn] at C5
  clear h0 h1 h2 h3 h4 h5 h6 h7 h8 hrec hok hDD hO hx hcnt v5 hnn
  have hb0 : ((w.alloc (.cells #[.int .i64 0, .int .i64 0, .int .i64 0, .int .i64 0, .int .i64 0, .slice none 0 0, .int .i64 0, .bool false] 51)).alloc (.cells #[.string s, .int .i64 0, .bool false] 62)).heap[w.heap.size]? = some (.cells #[.int .i64 0, .int .i64 0, .int .i64 0, .int .i64 0, .int .i64 0, .slice none 0 0, .int .i64 0, .bool false] 51) := by rw [Below.heap_alloc _ _ _ (by simp), heap_alloc_new]
  have hb1 : ((w.alloc (.cells #[.int .i64 0, .int .i64 0, .int .i64 0, .int .i64 0, .int .i64 0, .slice none 0 0, .int .i64 0, .bool false] 51)).alloc (.cells #[.string s, .int .i64 0, .bool false] 62)).heap[w.heap.size + 1]? = some (.cells #[.string s, .int .i64 0, .bool false] 62) := by
    have := heap_alloc_new (w.alloc (.cells #[.int .i64 0, .int .i64 0, .int .i64 0, .int .i64 0, .int .i64 0, .slice none 0 0, .int .i64 0, .bool false] 51)) (.cells #[.string s, .int .i64 0, .bool false] 62)
    simpa using this
  have bw := below_two (w := w) (.cells #[.int .i64 0, .int .i64 0, .int .i64 0, .int .i64 0, .int .i64 0, .slice none 0 0, .int .i64 0, .bool false] 51) (.cells #[.string s, .int .i64 0, .bool false] 62)
  rw [← hz] at hb1
  have hwz : w.heap.size < z := by omega
  go_enter Tryz.func35, Tryz.ntmps35
  go_wp2_with fail
  rw [← hz]
  clear hz
  generalize (w.alloc (.cells #[.int .i64 0, .int .i64 0, .int .i64 0, .int .i64 0, .int .i64 0, .slice none 0 0, .int .i64 0, .bool false] 51)).alloc (.cells #[.string s, .int .i64 0, .bool false] 62) = w0 at *
  have R0 := hide (show RdAt w0 z 62 s 0 false from hb1)
  refine (C0.out _ R0.out).mono ?_
  rintro e w1 ⟨rfl, hh, hg⟩
  have B1 := hide (res_grown hb0 hg (by omega))
  have R1 := hide hh
  have W1 := hide (below_z bw hg (by omega))
  clear hh hg hb0 hb1 bw R0 C0
  have hb1 := Below.heap_alloc w1 (.cells #[.int .i64 q0.v, .int .i64 0, .int .i64 0, .int .i64 0, .int .i64 0, .slice none 0 0, .int .i64 0, .bool false] 51)
  have X2a := heap_alloc_new w1 (.cells #[.int .i64 q0.v, .int .i64 0, .int .i64 0, .int .i64 0, .int .i64 0, .slice none 0 0, .int .i64 0, .bool false] 51)
  have B2a := (hb1 _ (lt_of_heap B1.out)).trans B1.out
  have R2a := (hb1 _ (lt_of_heap R1.out)).trans R1.out
  have W2a := W1.out.alloc W1.out.size (.cells #[.int .i64 q0.v, .int .i64 0, .int .i64 0, .int .i64 0, .int .i64 0, .slice none 0 0, .int .i64 0, .bool false] 51)
  have hzr0 : z < w1.heap.size := lt_of_heap R1.out
  clear hb1
  go_wp2_with fail
  obtain ⟨r, hr⟩ : ∃ r, r = w1.heap.size := ⟨_, rfl⟩
  rw [← hr] at X2a hzr0 ⊢
  generalize w1.alloc (.cells #[.int .i64 q0.v, .int .i64 0, .int .i64 0, .int .i64 0, .int .i64 0, .slice none 0 0, .int .i64 0, .bool false] 51) = w2 at *
  have B2 := hide B2a
  have X2 := hide X2a
  have R2 := hide (show RdAt w2 z 62 s q0.p q0.b from R2a)
  have W2 := hide W2a
  have hzr : z < r := hzr0
  clear B2a X2a R2a W2a hzr0 hr B1 R1 W1
  refine (C1.out _ R2.out).mono ?_
  rintro e w3 ⟨rfl, hh, hg⟩
  have B3 := hide (res_grown B2.out hg (by omega))
  have X3 := hide (res_grown X2.out hg (by omega))
  have R3 := hide hh
  have W3 := hide (below_z W2.out hg (by omega))
  clear hh hg B2 X2 R2 W2 C1
  have sc := cells_at X3.out 1
  simp at sc
  have fz := frozen_at X3.out
  have X4a := heap_setCell_same _ _ 1 _ _ (.int .i64 q1.v) X3.out
  have B4a := heap_set_ne (r := r) (i := 1) (u := .int .i64 q1.v) B3.out (by omega)
  have R4a := heap_set_ne (r := r) (i := 1) (u := .int .i64 q1.v) R3.out (by omega)
  have W4a := W3.out.setCell (p := ⟨r, 1, none⟩) (by show w.heap.size ≤ r; omega) (.int .i64 q1.v)
  go_wp2_with fail
  generalize w3.setCell ⟨r, 1, none⟩ (.int .i64 q1.v) = w4 at *
  have X4 := hide (show w4.heap[r]? = some (.cells #[.int .i64 q0.v, .int .i64 q1.v, .int .i64 0, .int .i64 0, .int .i64 0, .slice none 0 0, .int .i64 0, .bool false] 51) from X4a)
  have B4 := hide B4a
  have R4 := hide (show RdAt w4 z 62 s q1.p q1.b from R4a)
  have W4 := hide W4a
  clear X4a B4a R4a W4a sc fz X3 B3 R3 W3
  refine (C2.out _ R4.out).mono ?_
  rintro e w5 ⟨rfl, hh, hg⟩
  have B5 := hide (res_grown B4.out hg (by omega))
  have X5 := hide (res_grown X4.out hg (by omega))
  have R5 := hide hh
  have W5 := hide (below_z W4.out hg (by omega))
  clear hh hg B4 X4 R4 W4 C2
  have sc := cells_at X5.out 2
  simp at sc
  have fz := frozen_at X5.out
  have X6a := heap_setCell_same _ _ 2 _ _ (.int .i64 q2.v) X5.out
  have B6a := heap_set_ne (r := r) (i := 2) (u := .int .i64 q2.v) B5.out (by omega)
  have R6a := heap_set_ne (r := r) (i := 2) (u := .int .i64 q2.v) R5.out (by omega)
  have W6a := W5.out.setCell (p := ⟨r, 2, none⟩) (by show w.heap.size ≤ r; omega) (.int .i64 q2.v)
  go_wp2_with fail
  generalize w5.setCell ⟨r, 2, none⟩ (.int .i64 q2.v) = w6 at *
  have X6 := hide (show w6.heap[r]? = some (.cells #[.int .i64 q0.v, .int .i64 q1.v, .int .i64 q2.v, .int .i64 0, .int .i64 0, .slice none 0 0, .int .i64 0, .bool false] 51) from X6a)
  have B6 := hide B6a
  have R6 := hide (show RdAt w6 z 62 s q2.p q2.b from R6a)
  have W6 := hide W6a
  clear X6a B6a R6a W6a sc fz X5 B5 R5 W5
  refine (C3.out _ R6.out).mono ?_
  rintro e w7 ⟨rfl, hh, hg⟩
  have B7 := hide (res_grown B6.out hg (by omega))
  have X7 := hide (res_grown X6.out hg (by omega))
  have R7 := hide hh
  have W7 := hide (below_z W6.out hg (by omega))
  clear hh hg B6 X6 R6 W6 C3
  have sc := cells_at X7.out 3
  simp at sc
  have fz := frozen_at X7.out
  have X8a := heap_setCell_same _ _ 3 _ _ (.int .i64 q3.v) X7.out
  have B8a := heap_set_ne (r := r) (i := 3) (u := .int .i64 q3.v) B7.out (by omega)
  have R8a := heap_set_ne (r := r) (i := 3) (u := .int .i64 q3.v) R7.out (by omega)
  have W8a := W7.out.setCell (p := ⟨r, 3, none⟩) (by show w.heap.size ≤ r; omega) (.int .i64 q3.v)
  go_wp2_with fail
  generalize w7.setCell ⟨r, 3, none⟩ (.int .i64 q3.v) = w8 at *
  have X8 := hide (show w8.heap[r]? = some (.cells #[.int .i64 q0.v, .int .i64 q1.v, .int .i64 q2.v, .int .i64 q3.v, .int .i64 0, .slice none 0 0, .int .i64 0, .bool false] 51) from X8a)
  have B8 := hide B8a
  have R8 := hide (show RdAt w8 z 62 s q3.p q3.b from R8a)
  have W8 := hide W8a
  clear X8a B8a R8a W8a sc fz X7 B7 R7 W7
  refine (C4.out _ R8.out).mono ?_
  rintro e w9 ⟨rfl, hh, hg⟩
  have B9 := hide (res_grown B8.out hg (by omega))
  have X9 := hide (res_grown X8.out hg (by omega))
  have R9 := hide hh
  have W9 := hide (below_z W8.out hg (by omega))
  clear hh hg B8 X8 R8 W8 C4
  have sc := cells_at X9.out 4
  simp at sc
  have fz := frozen_at X9.out
  have X10a := heap_setCell_same _ _ 4 _ _ (.int .i64 q4.v) X9.out
  have B10a := heap_set_ne (r := r) (i := 4) (u := .int .i64 q4.v) B9.out (by omega)
  have R10a := heap_set_ne (r := r) (i := 4) (u := .int .i64 q4.v) R9.out (by omega)
  have W10a := W9.out.setCell (p := ⟨r, 4, none⟩) (by show w.heap.size ≤ r; omega) (.int .i64 q4.v)
  go_wp2_with fail
  generalize w9.setCell ⟨r, 4, none⟩ (.int .i64 q4.v) = w10 at *
  have X10 := hide (show w10.heap[r]? = some (.cells #[.int .i64 q0.v, .int .i64 q1.v, .int .i64 q2.v, .int .i64 q3.v, .int .i64 q4.v, .slice none 0 0, .int .i64 0, .bool false] 51) from X10a)
  have B10 := hide B10a
  have R10 := hide (show RdAt w10 z 62 s q4.p q4.b from R10a)
  have W10 := hide W10a
  clear X10a B10a R10a W10a sc fz X9 B9 R9 W9
  refine (C5.out _ R10.out).mono ?_
  rintro e w11 ⟨rfl, hh, hg⟩
  have B11 := hide (res_grown B10.out hg (by omega))
  have X11 := hide (res_grown X10.out hg (by omega))
  have R11 := hide hh
  have W11 := hide (below_z W10.out hg (by omega))
  clear hh hg B10 X10 R10 W10 C5
  go_upto_block 0 with fail
  go_cut [] from 6 (fun wx => ∃ ua uc, wx.heap[r]? = some (.cells #[.int .i64 q0.v, .int .i64 q1.v, .int .i64 q2.v, .int .i64 q3.v, .int .i64 q4.v, .slice ua l6.l.length uc, .int .i64 0, .bool false] 51) ∧ wx.ownsRow (r + 1) 100 2 (.slice ua l6.l.length uc) l6.l.length (flat nrE l6.l) ∧ RdAt wx z 62 s l6.p l6.b ∧ wx.heap[w.heap.size]? = some (.cells #[.int .i64 0, .int .i64 0, .int .i64 0, .int .i64 0, .int .i64 0, .slice none 0 0, .int .i64 0, .bool false] 51) ∧ Below w.heap.size w wx)
  case rest =>
    obtain ⟨ua, uc, hcx, hco, hcr, hcb, hcw⟩ := hcut
    have X := hide hcx
    have OW := hide hco
    have R := hide hcr
    have B := hide hcb
    have W := hide hcw
    clear hcx hco hcr hcb hcw
    obtain ⟨ll, lp, lb⟩ := l6
    simp only [] at *
    go_wp2_with fail
    refine (C7.out _ R.out).mono ?_
    rintro e w41 ⟨rfl, hh, hg⟩
    have X41 := hide (res_grown X.out hg (by omega))
    have B41 := hide (res_grown B.out hg (by omega))
    have W41 := hide (below_z W.out hg (by omega))
    have O41 := hide (kept_other OW.out hg (by omega))
    have R41 := hide hh
    clear hh hg X B W OW R
    have sc := cells_at X41.out 6
    simp at sc
    have fz := frozen_at X41.out
    have X42a := heap_setCell_same _ _ 6 _ _ (.int .i64 q7.v) X41.out
    have B42a := heap_set_ne (r := r) (i := 6) (u := .int .i64 q7.v) B41.out (by omega)
    have R42a := heap_set_ne (r := r) (i := 6) (u := .int .i64 q7.v) R41.out (by omega)
    have W42a := W41.out.setCell (p := ⟨r, 6, none⟩) (by show w.heap.size ≤ r; omega) (.int .i64 q7.v)
    have O42a := owns_set (p := r) (j := 6) (u := .int .i64 q7.v) O41.out (by omega)
    go_wp2_with fail
    generalize w41.setCell ⟨r, 6, none⟩ (.int .i64 q7.v) = w42 at *
    have X42 := hide (show w42.heap[r]? = some (.cells #[.int .i64 q0.v, .int .i64 q1.v, .int .i64 q2.v, .int .i64 q3.v, .int .i64 q4.v, .slice ua ll.length uc, .int .i64 q7.v, .bool false] 51) from X42a)
    clear sc fz
    refine (C8.out _ R42a).mono ?_
    rintro e w43 ⟨rfl, hh, hg⟩
    have X43 := hide (res_grown X42.out hg (by omega))
    have B43 := hide (res_grown B42a hg (by omega))
    have W43 := hide (below_z W42a hg (by omega))
    have O43 := hide (kept_other O42a hg (by omega))
    have R43 := hide hh
    clear hh hg X42 X42a B42a W42a O42a R42a X41 B41 W41 O41 R41 C7 C8
    have sc := cells_at X43.out 7
    simp at sc
    have y0 := cells_at X43.out 0
    have y1 := cells_at X43.out 1
    have y2 := cells_at X43.out 2
    have y3 := cells_at X43.out 3
    have y4 := cells_at X43.out 4
    have y5 := cells_at X43.out 5
    have y6 := cells_at X43.out 6
    simp at y0 y1 y2 y3 y4 y5 y6
    have fz := frozen_at X43.out
    have X44a := heap_setCell_same _ _ 7 _ _ (.bool (q8.v == 1)) X43.out
    have B44a := heap_set_ne (r := r) (i := 7) (u := .bool (q8.v == 1)) B43.out (by omega)
    have R44a := heap_set_ne (r := r) (i := 7) (u := .bool (q8.v == 1)) R43.out (by omega)
    have W44a := W43.out.setCell (p := ⟨r, 7, none⟩) (by show w.heap.size ≤ r; omega) (.bool (q8.v == 1))
    have O44a := owns_set (p := r) (j := 7) (u := .bool (q8.v == 1)) O43.out (by omega)
    obtain ⟨ts, tb, htv⟩ := textV_two x
    obtain ⟨htb, hts⟩ := textV_parts htv
    have CT := stext_any (.slice ua ll.length uc) ⟨q0.v, q1.v, q2.v, q3.v, q4.v, ll, q7.v, q8.v == 1⟩ _ (by show ll.length ≤ 1048576; omega) (owns_rowAt O44a)
    rw [← HXX.out, htv, HXX.out] at CT
    unfold recC at CT
    simp only [] at CT
    have HCT := hide CT
    have HTB := hide htb
    have HTS := hide hts
    clear CT htv htb hts
    go_wp2_with fail
    refine HCT.out.mono ?_
    rintro e w45 ⟨rfl, b45⟩
    have hxs : w45.heap[r]? = some (.cells #[.int .i64 q0.v, .int .i64 q1.v, .int .i64 q2.v, .int .i64 q3.v, .int .i64 q4.v, .slice ua ll.length uc, .int .i64 q7.v, .bool (q8.v == 1)] 51) := (b45.block _ (lt_of_heap X44a)).trans X44a
    have hbs : w45.heap[w.heap.size]? = _ := (b45.block _ (lt_of_heap B44a)).trans B44a
    have hrs : w45.heap[z]? = _ := (b45.block _ (lt_of_heap R44a)).trans R44a
    have W45 : Below w.heap.size w w45 := W44a.trans (b45.mono W44a.size)
    have O45 := hide (owns_below O44a b45 (Nat.le_refl _))
    clear y0 y1 y2 y3 y4 y5 y6 sc fz
    have t2 := cells_at hrs 2
    have u0 := cells_at hbs 0
    have u1 := cells_at hbs 1
    have u2 := cells_at hbs 2
    have u3 := cells_at hbs 3
    have u4 := cells_at hbs 4
    have u5 := cells_at hbs 5
    have u6 := cells_at hbs 6
    have u7 := cells_at hbs 7
    have y0 := cells_at hxs 0
    have y1 := cells_at hxs 1
    have y2 := cells_at hxs 2
    have y3 := cells_at hxs 3
    have y4 := cells_at hxs 4
    have y5 := cells_at hxs 5
    have y6 := cells_at hxs 6
    have y7 := cells_at hxs 7
    simp at t2 u0 u1 u2 u3 u4 u5 u6 u7 y0 y1 y2 y3 y4 y5 y6 y7
    have fu := frozen_at hbs
    have HBS := hide hbs
    clear CO CN g0 g1 g2 g3 g4 g5 g6 g7 hnb hcn hs
    clear b45 hbs hrs hxs HCT X44a B44a R44a W44a O44a X43 B43 R43 W43 O43
    cases hb8 : q8.b
    case true =>
      rw [hb8] at t2
      have HB8 := hide hb8
      clear hb8 y0 y1 y2 y3 y4 y5 y6 y7
      go_wp2_with fail
      have k0 := HBS.out
      have k1 := heap_setCell_same _ _ 0 _ _ (.int .i64 0) k0
      have k2 := heap_setCell_same _ _ 1 _ _ (.int .i64 0) k1
      have k3 := heap_setCell_same _ _ 2 _ _ (.int .i64 0) k2
      have k4 := heap_setCell_same _ _ 3 _ _ (.int .i64 0) k3
      have k5 := heap_setCell_same _ _ 4 _ _ (.int .i64 0) k4
      have k6 := heap_setCell_same _ _ 5 _ _ (.slice none 0 0) k5
      have k7 := heap_setCell_same _ _ 6 _ _ (.int .i64 0) k6
      have k8 := heap_setCell_same _ _ 7 _ _ (.bool false) k7
      (try simp only [Exit.inBlock, Exit.then])
      refine bodyPost_ret (results_cell_row_tmp rfl _ _ w.heap.size 51 #[.int .i64 0, .int .i64 0, .int .i64 0, .int .i64 0, .int .i64 0, .slice none 0 0, .int .i64 0, .bool false] (0, 0) _ rfl k8 Tryz.underlying51 rfl (by kernel_rfl)) rfl ?_
      clear k0 k1 k2 k3 k4 k5 k6 k7 k8
      obtain rfl : O = false := by rw [HO.out, HB8.out]; rfl
      obtain rfl : D = zeroR := HD.out
      refine ⟨.slice none 0 0, rfl, ?_, ?_⟩
      · exact ⟨rfl, .inl ⟨rfl, rfl⟩⟩
      · repeat (refine Below.setCell ?_ (by first | (show w.heap.size ≤ w.heap.size; omega) | (show w.heap.size ≤ r; omega)) _)
        exact W45
    rw [hb8] at t2
    have HB8 := hide hb8
    clear hb8
    cases tb
    case false =>
      clear y0 y1 y2 y3 y4 y5 y6 y7
      go_wp2_with fail
      have k0 := HBS.out
      have k1 := heap_setCell_same _ _ 0 _ _ (.int .i64 0) k0
      have k2 := heap_setCell_same _ _ 1 _ _ (.int .i64 0) k1
      have k3 := heap_setCell_same _ _ 2 _ _ (.int .i64 0) k2
      have k4 := heap_setCell_same _ _ 3 _ _ (.int .i64 0) k3
      have k5 := heap_setCell_same _ _ 4 _ _ (.int .i64 0) k4
      have k6 := heap_setCell_same _ _ 5 _ _ (.slice none 0 0) k5
      have k7 := heap_setCell_same _ _ 6 _ _ (.int .i64 0) k6
      have k8 := heap_setCell_same _ _ 7 _ _ (.bool false) k7
      (try simp only [Exit.inBlock, Exit.then])
      refine bodyPost_ret (results_cell_row_tmp rfl _ _ w.heap.size 51 #[.int .i64 0, .int .i64 0, .int .i64 0, .int .i64 0, .int .i64 0, .slice none 0 0, .int .i64 0, .bool false] (0, 0) _ rfl k8 Tryz.underlying51 rfl (by kernel_rfl)) rfl ?_
      clear k0 k1 k2 k3 k4 k5 k6 k7 k8
      obtain rfl : O = false := by rw [HO.out, ← HTB.out]; simp
      obtain rfl : D = zeroR := HD.out
      refine ⟨.slice none 0 0, rfl, ?_, ?_⟩
      · exact ⟨rfl, .inl ⟨rfl, rfl⟩⟩
      · repeat (refine Below.setCell ?_ (by first | (show w.heap.size ≤ w.heap.size; omega) | (show w.heap.size ≤ r; omega)) _)
        exact W45
    by_cases hq : ts = s
    case neg =>
      have hd : (ts.toList == s.toList) = false := by
        rw [ByteArray.toList_eq, ByteArray.toList_eq]
        simp only [beq_eq_false_iff_ne, ne_eq]
        intro h
        exact hq (ByteArray.ext (Array.ext' h))
      have HNE := hide (show ¬ recL x = s.data.toList from fun h => hq (by rw [HTS.out rfl]; exact (bs_eq_iff _ _).2 h))
      clear hq y0 y1 y2 y3 y4 y5 y6 y7
      go_wp2_with fail
      have k0 := HBS.out
      have k1 := heap_setCell_same _ _ 0 _ _ (.int .i64 0) k0
      have k2 := heap_setCell_same _ _ 1 _ _ (.int .i64 0) k1
      have k3 := heap_setCell_same _ _ 2 _ _ (.int .i64 0) k2
      have k4 := heap_setCell_same _ _ 3 _ _ (.int .i64 0) k3
      have k5 := heap_setCell_same _ _ 4 _ _ (.int .i64 0) k4
      have k6 := heap_setCell_same _ _ 5 _ _ (.slice none 0 0) k5
      have k7 := heap_setCell_same _ _ 6 _ _ (.int .i64 0) k6
      have k8 := heap_setCell_same _ _ 7 _ _ (.bool false) k7
      (try simp only [Exit.inBlock, Exit.then])
      refine bodyPost_ret (results_cell_row_tmp rfl _ _ w.heap.size 51 #[.int .i64 0, .int .i64 0, .int .i64 0, .int .i64 0, .int .i64 0, .slice none 0 0, .int .i64 0, .bool false] (0, 0) _ rfl k8 Tryz.underlying51 rfl (by kernel_rfl)) rfl ?_
      clear k0 k1 k2 k3 k4 k5 k6 k7 k8
      obtain rfl : O = false := by rw [HO.out, decide_eq_false HNE.out]; simp
      obtain rfl : D = zeroR := HD.out
      refine ⟨.slice none 0 0, rfl, ?_, ?_⟩
      · exact ⟨rfl, .inl ⟨rfl, rfl⟩⟩
      · repeat (refine Below.setCell ?_ (by first | (show w.heap.size ≤ w.heap.size; omega) | (show w.heap.size ≤ r; omega)) _)
        exact W45
    have HEQ := hide (show recL x = s.data.toList from (bs_eq_iff _ _).1 ((HTS.out rfl).symm.trans hq))
    subst hq
    go_wp2_with fail
    have k0 := HBS.out
    have k1 := heap_setCell_same _ _ 0 _ _ (.int .i64 q0.v) k0
    have k2 := heap_setCell_same _ _ 1 _ _ (.int .i64 q1.v) k1
    have k3 := heap_setCell_same _ _ 2 _ _ (.int .i64 q2.v) k2
    have k4 := heap_setCell_same _ _ 3 _ _ (.int .i64 q3.v) k3
    have k5 := heap_setCell_same _ _ 4 _ _ (.int .i64 q4.v) k4
    have k6 := heap_setCell_same _ _ 5 _ _ (.slice ua ll.length uc) k5
    have k7 := heap_setCell_same _ _ 6 _ _ (.int .i64 q7.v) k6
    have k8 := heap_setCell_same _ _ 7 _ _ (.bool (q8.v == 1)) k7
    (try simp only [Exit.inBlock, Exit.then])
    refine bodyPost_ret (results_cell_row_tmp rfl _ _ w.heap.size 51 #[.int .i64 q0.v, .int .i64 q1.v, .int .i64 q2.v, .int .i64 q3.v, .int .i64 q4.v, .slice ua ll.length uc, .int .i64 q7.v, .bool (q8.v == 1)] (0, 0) _ rfl k8 Tryz.underlying51 rfl (by kernel_rfl)) rfl ?_
    clear k0 k1 k2 k3 k4 k5 k6 k7 k8
    obtain rfl : O = true := by rw [HO.out, HB8.out, ← HTB.out, HEQ.out]; simp
    obtain rfl : D = ⟨q0.v, q1.v, q2.v, q3.v, q4.v, ll, q7.v, q8.v == 1⟩ := HD.out.trans HXX.out
    refine ⟨_, rfl, ?_, ?_⟩
    · refine owns_baseS (b1 := r + 1) ?_ (by omega)
      repeat (refine owns_set ?_ (by omega))
      exact O45.out
    · repeat (refine Below.setCell ?_ (by first | (show w.heap.size ≤ w.heap.size; omega) | (show w.heap.size ≤ r; omega)) _)
      exact W45
  go_wp2_with fail
  go_loopw [7] (fun i wr => ∃ (k : Nat) (l : RdL) (u : Value), k ≤ cnt ∧ i = .int .i64 k ∧ l = nearA s q5.p q5.b k ∧ wr.heap[r]? = some (.cells #[.int .i64 q0.v, .int .i64 q1.v, .int .i64 q2.v, .int .i64 q3.v, .int .i64 q4.v, u, .int .i64 0, .bool false] 51) ∧ wr.ownsRow (r + 1) 100 2 u l.l.length (flat nrE l.l) ∧ RdAt wr z 62 s l.p l.b ∧ wr.heap[w.heap.size]? = some (.cells #[.int .i64 0, .int .i64 0, .int .i64 0, .int .i64 0, .int .i64 0, .slice none 0 0, .int .i64 0, .bool false] 51) ∧ Below w.heap.size w wr) (fun i _ => cnt + 1 - (intOf i).toNat)
  case atStart => exact ⟨0, ⟨[], q5.p, q5.b⟩, _, by omega, rfl, rfl, X11.out, ⟨by simp [flat], .inl ⟨rfl, rfl⟩⟩, R11.out, B11.out, W11.out⟩
  case round =>
    clear X11 R11 B11 W11
    obtain ⟨wz, rfl⟩ : ∃ wz : World, wz = wr := ⟨_, rfl⟩
    obtain ⟨k, l, u, hk, rfl, hl, hbx, hown, hrd, hres, hbel⟩ := hrel
    have hle := nearA_le (b := q5.b) g5 k
    have hnl := nearA_len s q5.p q5.b k
    rw [← hl] at hle hnl
    have HL := hide hl
    have OW := hide hown
    have X := hide hbx
    have R := hide hrd
    have B := hide hres
    have W := hide hbel
    have c2 := cells_at hrd 2
    simp at c2
    clear hl hown hbx hrd hres hbel
    obtain ⟨ll, lp, lb⟩ := l
    simp only [] at *
    by_cases hgo : k < cnt ∧ lb = false
    · obtain ⟨hkc, rfl⟩ := hgo
      have i1 : (k : Int) < (nn : Int) := by omega
      have i2 : (k : Int) < 50 := by omega
      have HST := hide (nearA_good (s := s) (p := q5.p) (b := q5.b) (k := k) (by rw [← HL.out]))
      rw [← HL.out] at HST
      simp only [] at HST
      go_wp2_with fail
      refine (CO.out lp false _ hle R.out).mono ?_
      rintro e w31 ⟨rfl, hh, hg⟩
      have hle2 := oneR_le (b := false) hle
      have X31 := hide (res_grown X.out hg (by omega))
      have B31 := hide (res_grown B.out hg (by omega))
      have W31 := hide (below_z W.out hg (by omega))
      have O31 := hide (kept_other OW.out hg (by omega))
      generalize oneR s lp false = r1 at HST hh hle2 ⊢
      obtain ⟨t1, p1, c1⟩ := r1
      simp only [] at HST hh hle2 ⊢
      have R31 := hide hh
      clear hh hg X B W OW R c2
      have hba := Below.heap_alloc w31 (.cells #[.int .i64 t1, .int .i64 0] 100)
      have N32a := heap_alloc_new w31 (.cells #[.int .i64 t1, .int .i64 0] 100)
      have X32a := (hba _ (lt_of_heap X31.out)).trans X31.out
      have B32a := (hba _ (lt_of_heap B31.out)).trans B31.out
      have R32a := (hba _ (lt_of_heap R31.out)).trans R31.out
      have W32a := W31.out.alloc W31.out.size (.cells #[.int .i64 t1, .int .i64 0] 100)
      have O32a := O31.out.alloc (.cells #[.int .i64 t1, .int .i64 0] 100)
      have hrn0 : r < w31.heap.size := lt_of_heap X31.out
      have hun0 : ∀ g, u.ownBlock = some g → g < w31.heap.size := fun g hg => (O31.out.lt g hg).2
      clear hba
      go_wp2_with fail
      obtain ⟨nb, hnb2⟩ : ∃ nb, nb = w31.heap.size := ⟨_, rfl⟩
      rw [← hnb2] at N32a hrn0 hun0 ⊢
      generalize w31.alloc (.cells #[.int .i64 t1, .int .i64 0] 100) = w32 at *
      have hrn : r < nb := hrn0
      have HUN := hide hun0
      clear hnb2 hrn0 hun0 X31 B31 R31 W31 O31
      refine (CN.out p1 c1 _ hle2 R32a).mono ?_
      rintro e w33 ⟨rfl, hh, hg⟩
      have X33 := hide (res_grown X32a hg (by omega))
      have B33 := hide (res_grown B32a hg (by omega))
      have N33 := hide (res_grown N32a hg (by omega))
      have W33 := hide (below_z W32a hg (by omega))
      have O33 := hide (kept_other O32a hg (by omega))
      generalize varR s p1 c1 = r2 at HST hh ⊢
      obtain ⟨t2, p2, c2⟩ := r2
      simp only [] at HST hh ⊢
      have R33 := hide hh
      clear hh hg X32a B32a R32a W32a O32a N32a
      have s0 := cells_at N33.out 0
      have s1 := cells_at N33.out 1
      have y5 := cells_at X33.out 5
      simp at s0 s1 y5
      have fn := frozen_at N33.out
      have fx := frozen_at X33.out
      have N34 := hide (heap_setCell_same _ _ 1 _ _ (.int .i64 t2) N33.out)
      have X34 := hide (heap_set_ne (r := nb) (i := 1) (u := .int .i64 t2) X33.out (by omega))
      have B34 := hide (heap_set_ne (r := nb) (i := 1) (u := .int .i64 t2) B33.out (by have := lt_of_heap R33.out; omega))
      have R34 := hide (heap_set_ne (r := nb) (i := 1) (u := .int .i64 t2) R33.out (by omega))
      have W34 := hide (W33.out.setCell (p := ⟨nb, 1, none⟩) (by show w.heap.size ≤ nb; omega) (.int .i64 t2))
      have e1 : ¬ r = nb := by omega
      have e2 : ¬ nb = r := by omega
      have O34 : (w33.setCell ⟨nb, 1, none⟩ (.int .i64 t2)).ownsRow (r + 1) 100 2 u ll.length (flat nrE ll) := by
        refine O33.out.kept (grown_set w33 nb 1 _) ?_
        cases hu : u.ownBlock with
        | none => exact .inl rfl
        | some g =>
          refine .inr ?_
          have := HUN.out g hu
          intro h
          simp at h
          omega
      have OX := hide O34
      have hs34 : (w33.setCell ⟨nb, 1, none⟩ (.int .i64 t2)).heap.size = w33.heap.size := by simp
      have hr33 : r < w33.heap.size := lt_of_heap X33.out
      clear O34
      go_wp2_with (first
        | (at_builtin; refine wpList_append_struct nrE_len (by omega) nrE_one (by omega) _ rfl _ _ 49 rfl (r + 1) 100 Tryz.underlying49 (nrV nr0) rfl Tryz.infoNr u ll ⟨t1, t2⟩ rfl (OX.out.alloc _) ⟨w33.heap.size, 0, none⟩ 1 rfl ?_ (by omega) (by simp; omega) ?_))
      · have hnw := news_struct (w := w33.setCell ⟨nb, 1, none⟩ (.int .i64 t2)) (cs := nrE ⟨t1, t2⟩) (t := 100)
        rw [hs34] at hnw
        exact hnw
      intro v' w35 l' hl' hown' hgrow
      obtain ⟨na, nc, rfl⟩ := owns_lenS hown'
      have X35 := hide (heap_app X34.out hgrow OX.out (by omega))
      have B35 := hide (heap_app B34.out hgrow OX.out (by omega))
      have R35 := hide (heap_app R34.out hgrow OX.out (by omega))
      have W35 := hide ((W34.out.alloc W34.out.size (.cells #[.int .i64 t1, .int .i64 t2] 100)).grown hgrow (Nat.le_trans W34.out.size (by simp)) (fun k hk => by have := (OX.out.lt k hk).1; omega))
      have O35 := hide hown'
      have sc := cells_at X35.out 5
      simp at sc
      have fz := frozen_at X35.out
      have X36 := hide (heap_setCell_same _ _ 5 _ _ (.slice na l'.length nc) X35.out)
      have B36 := hide (heap_set_ne (r := r) (i := 5) (u := .slice na l'.length nc) B35.out (by omega))
      have R36 := hide (heap_set_ne (r := r) (i := 5) (u := .slice na l'.length nc) R35.out (by omega))
      have W36 := hide (W35.out.setCell (p := ⟨r, 5, none⟩) (by show w.heap.size ≤ r; omega) (.slice na l'.length nc))
      have O36 := hide (owns_set (p := r) (j := 5) (u := .slice na l'.length nc) O35.out (by omega))
      clear hown' hgrow X33 B33 R33 W33 O33 X34 B34 R34 W34 N33 N34 X35 B35 R35 W35 O35 s0 s1 y5 fn fx
      go_wp2
      exact ⟨⟨k + 1, ⟨l', p2, c2⟩, _, by omega, by go_num, by rw [HST.out, hl'.out], X36.out, O36.out, R36.out, B36.out, W36.out⟩, by simp [intOf]; omega⟩
    · have hend : l6 = ⟨ll, lp, lb⟩ := by
        by_cases hkc : k < cnt
        · have hb : lb = true := by
            cases lb
            · exact absurd ⟨hkc, rfl⟩ hgo
            · rfl
          have hbad := nearA_bad (s := s) (p := q5.p) (b := q5.b) (k := k) (by rw [← HL.out]; exact hb) (cnt - k)
          rw [show k + (cnt - k) = cnt by omega, ← H6.out, ← HL.out] at hbad
          exact hbad
        · have : k = cnt := by omega
          rw [H6.out, ← this]; exact HL.out.symm
      subst hend
      simp only [] at *
      obtain ⟨ua, uc, rfl⟩ := owns_lenS OW.out
      have hb8 : k < nn ∧ k < 50 → lb = true := fun h => by
        cases lb
        · exact absurd ⟨by omega, rfl⟩ hgo
        · rfl
      clear hgo
      by_cases i1 : k < nn
      case neg =>
        have j1 : ¬ (k : Int) < (nn : Int) := by omega
        clear hb8
        go_wp2_with fail
        go_meet
        exact ⟨ua, uc, X.out, OW.out, R.out, B.out, W.out⟩
      have j1 : (k : Int) < (nn : Int) := by omega
      by_cases i2 : k < 50
      case neg =>
        have j2 : ¬ (k : Int) < 50 := by omega
        clear hb8
        go_wp2_with fail
        go_meet
        exact ⟨ua, uc, X.out, OW.out, R.out, B.out, W.out⟩
      have j2 : (k : Int) < 50 := by omega
      obtain rfl := hb8 ⟨i1, i2⟩
      clear hb8
      go_wp2_with fail
      go_meet
      exact ⟨ua, uc, X.out, OW.out, R.out, B.out, W.out⟩

end Go.Proofs.YtchmmekhfcojgaaGreatDoor
