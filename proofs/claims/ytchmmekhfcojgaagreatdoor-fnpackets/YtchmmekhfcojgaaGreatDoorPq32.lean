/-
  impl.ReadRecord: its contract.
-/
import Derived.Test.YtchmmekhfcojgaaGreatDoorPq30
import Derived.Test.YtchmmekhfcojgaaGreatDoorPq8
import Derived.Laws.ResultCell
import Derived.Laws.Rows
namespace Go.Proofs.YtchmmekhfcojgaaGreatDoor
open Go.RowKit

theorem res_grown {w w' : World} {z k : Nat} {o : Obj} (h : w.heap[k]? = some o) (hg : w.grownBy w' (some z)) (hk : k ≠ z) : w'.heap[k]? = some o := by
  rw [hg.block k (lt_of_heap h) (by simpa using hk)]; exact h

theorem below_z {w w0 w' : World} {z : Nat} (h : Below w0.heap.size w0 w) (hg : w.grownBy w' (some z)) (hz : w0.heap.size ≤ z) : Below w0.heap.size w0 w' := h.grown hg h.size (fun k hk => by simp at hk; omega)

theorem results_cell_row_tmp {P : Program} {fn : Func} {p u : Tmp} {ty : TypeId} (h : fn.results = #[.cell p ty, .tmp u]) (tmps : Array Value) (w : World) (g : Nat) (t : TypeId) (cs : Array Value) (fr : Nat × Nat) (d : TypeDesc)
    (hp : tmps.getD p undef = .pointer (some ⟨g, 0, none⟩)) (hg : w.heap[g]? = some (.cells cs t fr))
    (hu : P.underlying ty = some d) (hd : (match d with | .struct _ | .array _ _ => true | _ => false) = true) (hi : (P.info? ty).map (·.size) = some cs.size) :
    (results fn tmps).run P w = .ok (.tuple #[.agg cs, tmps.getD u undef]) w := by
  have hp' : tmps[p]?.getD undef = .pointer (some ⟨g, 0, none⟩) := by simpa using hp
  rw [results_cell_tmp h]
  simp [hp', asAddr, run_loadVar_row w g t ty cs fr d hg hu hd hi]

set_option maxRecDepth 100000 in
set_option maxHeartbeats 800000 in
theorem ireadR_any (s : ByteArray) (w : World) (hs : s.size ≤ 1048576) :
    Calls Tryz.prog 104 #[.string s] w fun e w' => ∃ u : Value, e = .returned (.tuple #[.agg (recC (readD s) u), .bool (okI s)]) ∧ w'.ownsRow w.heap.size 100 2 u (readD s).near.length (flat nrE (readD s).near) ∧ Below w.heap.size w w' := by
  obtain ⟨z, hz⟩ : ∃ z, z = w.heap.size + 1 := ⟨_, rfl⟩
  obtain ⟨r, hr⟩ : ∃ r, r = w.heap.size + 2 := ⟨_, rfl⟩
  obtain ⟨q0, h0⟩ : ∃ q, q = oneR s 0 false := ⟨_, rfl⟩
  obtain ⟨q1, h1⟩ : ∃ q, q = oneR s q0.p q0.b := ⟨_, rfl⟩
  obtain ⟨q2, h2⟩ : ∃ q, q = oneR s q1.p q1.b := ⟨_, rfl⟩
  obtain ⟨q3, h3⟩ : ∃ q, q = oneR s q2.p q2.b := ⟨_, rfl⟩
  obtain ⟨q4, h4⟩ : ∃ q, q = varR s q3.p q3.b := ⟨_, rfl⟩
  obtain ⟨q5, h5⟩ : ∃ q, q = varR s q4.p q4.b := ⟨_, rfl⟩
  obtain ⟨l6, h6⟩ : ∃ q, q = nearA s q5.p q5.b q5.v.toNat := ⟨_, rfl⟩
  obtain ⟨q7, h7⟩ : ∃ q, q = varR s l6.p l6.b := ⟨_, rfl⟩
  obtain ⟨q8, h8⟩ : ∃ q, q = oneR s q7.p q7.b := ⟨_, rfl⟩
  obtain ⟨x, hx⟩ : ∃ x : RecD, x = ⟨q0.v, q1.v, q2.v, q3.v, q4.v, l6.l, q7.v, q8.v == 1⟩ := ⟨_, rfl⟩
  have hrec : recP s (cntI s) = x := by rw [hx]; subst h8 h7 h6 h5 h4 h3 h2 h1 h0; rfl
  have hok : okI s = (!(q8.b || decide (1 < q8.v)) && !decide (q8.p < s.size) && recOkB x) := by
    rw [← hrec]; subst h8 h7 h6 h5 h4 h3 h2 h1 h0; rfl
  have g0 : q0.p ≤ s.size := by rw [h0]; exact oneR_le (Nat.zero_le _)
  have g1 : q1.p ≤ s.size := by rw [h1]; exact oneR_le g0
  have g2 : q2.p ≤ s.size := by rw [h2]; exact oneR_le g1
  have g3 : q3.p ≤ s.size := by rw [h3]; exact oneR_le g2
  have g4 : q4.p ≤ s.size := by rw [h4]; exact varR_le g3
  have g5 : q5.p ≤ s.size := by rw [h5]; exact varR_le g4
  have g6 : l6.p ≤ s.size := by rw [h6]; exact nearA_le g5 _
  have n6 : l6.l.length ≤ 1048577 := by have := (nearA_size (b := q5.b) g5 q5.v.toNat).1; rw [← h6] at this; omega
  have g7 : q7.p ≤ s.size := by rw [h7]; exact varR_le g6
  have n8 : q8.b = false → l6.l.length ≤ 1048576 := by
    intro hb
    have b7 : q7.b = false := (oneR_got (l := s.data.toList.take q7.p) (by rw [← h8]; exact hb) (fun _ => ⟨g7, rfl⟩)).1
    have b6 : l6.b = false := (varR_got (l := s.data.toList.take l6.p) (by rw [← h7]; exact b7) (fun _ => ⟨g6, rfl⟩)).1
    have := (nearA_size (b := q5.b) g5 q5.v.toNat).2 (by rw [← h6]; exact b6)
    rw [← h6] at this
    omega
  have N8 := hide n8
  clear n8
  have C0 := hide (fun W => oneI_any z 0 s false W hs (Nat.zero_le _))
  have C1 := hide (fun W => oneI_any z q0.p s q0.b W hs g0)
  have C2 := hide (fun W => oneI_any z q1.p s q1.b W hs g1)
  have C3 := hide (fun W => oneI_any z q2.p s q2.b W hs g2)
  have C4 := hide (fun W => numI_any z q3.p s q3.b W hs g3)
  have C6 := hide (fun W => nearI_any z q4.p s q4.b W hs g4)
  have C7 := hide (fun W => numI_any z l6.p s l6.b W hs g6)
  have C8 := hide (fun W => flagI_any z q7.p s q7.b W hs g7)
  rw [← h0] at C0
  rw [← h1] at C1
  rw [← h2] at C2
  rw [← h3] at C3
  rw [← h4] at C4
  rw [← h5, ← h6] at C6
  rw [← h7] at C7
  rw [← h8] at C8
  obtain ⟨O, hO⟩ : ∃ O, O = okI s := ⟨_, rfl⟩
  obtain ⟨D, hDD⟩ : ∃ D, D = readD s := ⟨_, rfl⟩
  have HD := hide (show D = if O then x else zeroR by rw [hDD, hO]; unfold readD; rw [hrec])
  rw [← hDD, ← hO]
  rw [← hO] at hok
  have HO := hide hok
  have HXX := hide hx
  clear h0 h1 h2 h3 h4 h5 h6 h7 h8 hrec hok hDD hO hx
  have hb0 := heap3_0 w (.cells #[.int .i64 0, .int .i64 0, .int .i64 0, .int .i64 0, .int .i64 0, .slice none 0 0, .int .i64 0, .bool false] 51) (.cells #[.string s, .int .i64 0, .bool false] 89) (.cells #[.int .i64 0, .int .i64 0, .int .i64 0, .int .i64 0, .int .i64 0, .slice none 0 0, .int .i64 0, .bool false] 51)
  have hb1 := heap3_1 w (.cells #[.int .i64 0, .int .i64 0, .int .i64 0, .int .i64 0, .int .i64 0, .slice none 0 0, .int .i64 0, .bool false] 51) (.cells #[.string s, .int .i64 0, .bool false] 89) (.cells #[.int .i64 0, .int .i64 0, .int .i64 0, .int .i64 0, .int .i64 0, .slice none 0 0, .int .i64 0, .bool false] 51)
  have hb2 := heap3_2 w (.cells #[.int .i64 0, .int .i64 0, .int .i64 0, .int .i64 0, .int .i64 0, .slice none 0 0, .int .i64 0, .bool false] 51) (.cells #[.string s, .int .i64 0, .bool false] 89) (.cells #[.int .i64 0, .int .i64 0, .int .i64 0, .int .i64 0, .int .i64 0, .slice none 0 0, .int .i64 0, .bool false] 51)
  have bw := below_three (w := w) (.cells #[.int .i64 0, .int .i64 0, .int .i64 0, .int .i64 0, .int .i64 0, .slice none 0 0, .int .i64 0, .bool false] 51) (.cells #[.string s, .int .i64 0, .bool false] 89) (.cells #[.int .i64 0, .int .i64 0, .int .i64 0, .int .i64 0, .int .i64 0, .slice none 0 0, .int .i64 0, .bool false] 51)
  have hrz : r = z + 1 := by omega
  have hwz : w.heap.size < z := by omega
  rw [show w.heap.size + 1 + 1 = r by omega] at hb2
  rw [← hz] at hb1
  go_enter Tryz.func104, Tryz.ntmps104
  go_wp2_with fail
  rw [show w.heap.size + 1 + 1 = r by omega, ← hz]
  have HZ := hide hz
  have HR := hide hr
  clear hz hr
  generalize ((w.alloc (.cells #[.int .i64 0, .int .i64 0, .int .i64 0, .int .i64 0, .int .i64 0, .slice none 0 0, .int .i64 0, .bool false] 51)).alloc (.cells #[.string s, .int .i64 0, .bool false] 89)).alloc (.cells #[.int .i64 0, .int .i64 0, .int .i64 0, .int .i64 0, .int .i64 0, .slice none 0 0, .int .i64 0, .bool false] 51) = w0 at *
  have hzr : z < r := by omega
  have B0 := hide hb0
  have X0 := hide hb2
  have R0 := hide (show RdAt w0 z 89 s 0 false from hb1)
  have W0 := hide bw
  clear hrz hb0 hb1 hb2 bw
  go_wp2_with fail
  refine (C0.out _ R0.out).mono ?_
  rintro e w1 ⟨rfl, hh, hg⟩
  have B1 := hide (res_grown B0.out hg (by omega))
  have X1 := hide (res_grown X0.out hg (by omega))
  have R1 := hide hh
  have W1 := hide (below_z W0.out hg (by omega))
  clear hh hg B0 X0 R0 W0 C0
  go_wp2_with fail
  refine (C1.out _ R1.out).mono ?_
  rintro e w2 ⟨rfl, hh, hg⟩
  have B2 := hide (res_grown B1.out hg (by omega))
  have X2 := hide (res_grown X1.out hg (by omega))
  have R2 := hide hh
  have W2 := hide (below_z W1.out hg (by omega))
  clear hh hg B1 X1 R1 W1 C1
  go_wp2_with fail
  refine (C2.out _ R2.out).mono ?_
  rintro e w3 ⟨rfl, hh, hg⟩
  have B3 := hide (res_grown B2.out hg (by omega))
  have X3 := hide (res_grown X2.out hg (by omega))
  have R3 := hide hh
  have W3 := hide (below_z W2.out hg (by omega))
  clear hh hg B2 X2 R2 W2 C2
  go_wp2_with fail
  refine (C3.out _ R3.out).mono ?_
  rintro e w4 ⟨rfl, hh, hg⟩
  have B4 := hide (res_grown B3.out hg (by omega))
  have X4 := hide (res_grown X3.out hg (by omega))
  have R4 := hide hh
  have W4 := hide (below_z W3.out hg (by omega))
  clear hh hg B3 X3 R3 W3 C3
  have s0 := cells_at X4.out 0
  have s1 := cells_at X4.out 1
  have s2 := cells_at X4.out 2
  have s3 := cells_at X4.out 3
  simp at s0 s1 s2 s3
  have fz := frozen_at X4.out
  have k0 := X4.out
  have k1 := heap_setCell_same _ _ 0 _ _ (.int .i64 q0.v) k0
  have k2 := heap_setCell_same _ _ 1 _ _ (.int .i64 q1.v) k1
  have k3 := heap_setCell_same _ _ 2 _ _ (.int .i64 q2.v) k2
  have k4 := heap_setCell_same _ _ 3 _ _ (.int .i64 q3.v) k3
  have X50 : ((((w4.setCell ⟨r, 0, none⟩ (.int .i64 q0.v)).setCell ⟨r, 1, none⟩ (.int .i64 q1.v)).setCell ⟨r, 2, none⟩ (.int .i64 q2.v)).setCell ⟨r, 3, none⟩ (.int .i64 q3.v)).heap[r]? = some (.cells #[.int .i64 q0.v, .int .i64 q1.v, .int .i64 q2.v, .int .i64 q3.v, .int .i64 0, .slice none 0 0, .int .i64 0, .bool false] 51) := k4
  have B50 : ((((w4.setCell ⟨r, 0, none⟩ (.int .i64 q0.v)).setCell ⟨r, 1, none⟩ (.int .i64 q1.v)).setCell ⟨r, 2, none⟩ (.int .i64 q2.v)).setCell ⟨r, 3, none⟩ (.int .i64 q3.v)).heap[w.heap.size]? = _ := (show ((((w4.setCell ⟨r, 0, none⟩ (.int .i64 q0.v)).setCell ⟨r, 1, none⟩ (.int .i64 q1.v)).setCell ⟨r, 2, none⟩ (.int .i64 q2.v)).setCell ⟨r, 3, none⟩ (.int .i64 q3.v)).heap[w.heap.size]? = w4.heap[w.heap.size]? by rw [heap_setCell_other _ ⟨r, 3, none⟩ _ _ (by show w.heap.size ≠ r; omega), heap_setCell_other _ ⟨r, 2, none⟩ _ _ (by show w.heap.size ≠ r; omega), heap_setCell_other _ ⟨r, 1, none⟩ _ _ (by show w.heap.size ≠ r; omega), heap_setCell_other _ ⟨r, 0, none⟩ _ _ (by show w.heap.size ≠ r; omega)]).trans B4.out
  have R50 : ((((w4.setCell ⟨r, 0, none⟩ (.int .i64 q0.v)).setCell ⟨r, 1, none⟩ (.int .i64 q1.v)).setCell ⟨r, 2, none⟩ (.int .i64 q2.v)).setCell ⟨r, 3, none⟩ (.int .i64 q3.v)).heap[z]? = _ := (show ((((w4.setCell ⟨r, 0, none⟩ (.int .i64 q0.v)).setCell ⟨r, 1, none⟩ (.int .i64 q1.v)).setCell ⟨r, 2, none⟩ (.int .i64 q2.v)).setCell ⟨r, 3, none⟩ (.int .i64 q3.v)).heap[z]? = w4.heap[z]? by rw [heap_setCell_other _ ⟨r, 3, none⟩ _ _ (by show z ≠ r; omega), heap_setCell_other _ ⟨r, 2, none⟩ _ _ (by show z ≠ r; omega), heap_setCell_other _ ⟨r, 1, none⟩ _ _ (by show z ≠ r; omega), heap_setCell_other _ ⟨r, 0, none⟩ _ _ (by show z ≠ r; omega)]).trans R4.out
  have W50 : Below w.heap.size w ((((w4.setCell ⟨r, 0, none⟩ (.int .i64 q0.v)).setCell ⟨r, 1, none⟩ (.int .i64 q1.v)).setCell ⟨r, 2, none⟩ (.int .i64 q2.v)).setCell ⟨r, 3, none⟩ (.int .i64 q3.v)) := by
    repeat (refine Below.setCell ?_ (by show w.heap.size ≤ r; omega) _)
    exact W4.out
  clear k0 k1 k2 k3 k4
  go_wp2_with fail
  generalize ((((w4.setCell ⟨r, 0, none⟩ (.int .i64 q0.v)).setCell ⟨r, 1, none⟩ (.int .i64 q1.v)).setCell ⟨r, 2, none⟩ (.int .i64 q2.v)).setCell ⟨r, 3, none⟩ (.int .i64 q3.v)) = w5 at *
  have B5 := hide B50
  have X5 := hide X50
  have R5 := hide R50
  have W5 := hide W50
  clear B50 X50 R50 W50 B4 X4 R4 W4
  clear fz s0 s1 s2 s3
  refine (C4.out _ R5.out).mono ?_
  rintro e w6 ⟨rfl, hh, hg⟩
  have B6 := hide (res_grown B5.out hg (by omega))
  have X6 := hide (res_grown X5.out hg (by omega))
  have R6 := hide hh
  have W6 := hide (below_z W5.out hg (by omega))
  clear hh hg B5 X5 R5 W5 C4
  have s4 := cells_at X6.out 4
  simp at s4
  have fz := frozen_at X6.out
  have k0 := X6.out
  have k1 := heap_setCell_same _ _ 4 _ _ (.int .i64 q4.v) k0
  have X70 : (w6.setCell ⟨r, 4, none⟩ (.int .i64 q4.v)).heap[r]? = some (.cells #[.int .i64 q0.v, .int .i64 q1.v, .int .i64 q2.v, .int .i64 q3.v, .int .i64 q4.v, .slice none 0 0, .int .i64 0, .bool false] 51) := k1
  have B70 : (w6.setCell ⟨r, 4, none⟩ (.int .i64 q4.v)).heap[w.heap.size]? = _ := (show (w6.setCell ⟨r, 4, none⟩ (.int .i64 q4.v)).heap[w.heap.size]? = w6.heap[w.heap.size]? by rw [heap_setCell_other _ ⟨r, 4, none⟩ _ _ (by show w.heap.size ≠ r; omega)]).trans B6.out
  have R70 : (w6.setCell ⟨r, 4, none⟩ (.int .i64 q4.v)).heap[z]? = _ := (show (w6.setCell ⟨r, 4, none⟩ (.int .i64 q4.v)).heap[z]? = w6.heap[z]? by rw [heap_setCell_other _ ⟨r, 4, none⟩ _ _ (by show z ≠ r; omega)]).trans R6.out
  have W70 : Below w.heap.size w (w6.setCell ⟨r, 4, none⟩ (.int .i64 q4.v)) := by
    repeat (refine Below.setCell ?_ (by show w.heap.size ≤ r; omega) _)
    exact W6.out
  clear k0 k1
  go_wp2_with fail
  generalize (w6.setCell ⟨r, 4, none⟩ (.int .i64 q4.v)) = w7 at *
  have B7 := hide B70
  have X7 := hide X70
  have R7 := hide R70
  have W7 := hide W70
  clear B70 X70 R70 W70 B6 X6 R6 W6
  clear fz s4
  refine (C6.out _ R7.out).mono ?_
  rintro e w8 ⟨un, rfl, ow, hh, hg⟩
  have B8 := hide (res_grown B7.out hg (by omega))
  have X8 := hide (res_grown X7.out hg (by omega))
  have R8 := hide hh
  have W8 := hide (below_z W7.out hg (by omega))
  have hsz : r < w7.heap.size := lt_of_heap X7.out
  obtain ⟨bn, hbn⟩ : ∃ bn, bn = w7.heap.size := ⟨_, rfl⟩
  have hwb : w.heap.size ≤ bn := by rw [hbn]; exact W7.out.size
  rw [← hbn] at ow hsz
  obtain ⟨ua, uc, rfl⟩ := owns_lenS ow
  have OWN := hide ow
  clear ow hbn
  clear hh hg B7 X7 R7 W7 C6
  have s5 := cells_at X8.out 5
  simp at s5
  have fz := frozen_at X8.out
  have k0 := X8.out
  have k1 := heap_setCell_same _ _ 5 _ _ (.slice ua l6.l.length uc) k0
  have X90 : (w8.setCell ⟨r, 5, none⟩ (.slice ua l6.l.length uc)).heap[r]? = some (.cells #[.int .i64 q0.v, .int .i64 q1.v, .int .i64 q2.v, .int .i64 q3.v, .int .i64 q4.v, .slice ua l6.l.length uc, .int .i64 0, .bool false] 51) := k1
  have B90 : (w8.setCell ⟨r, 5, none⟩ (.slice ua l6.l.length uc)).heap[w.heap.size]? = _ := (show (w8.setCell ⟨r, 5, none⟩ (.slice ua l6.l.length uc)).heap[w.heap.size]? = w8.heap[w.heap.size]? by rw [heap_setCell_other _ ⟨r, 5, none⟩ _ _ (by show w.heap.size ≠ r; omega)]).trans B8.out
  have R90 : (w8.setCell ⟨r, 5, none⟩ (.slice ua l6.l.length uc)).heap[z]? = _ := (show (w8.setCell ⟨r, 5, none⟩ (.slice ua l6.l.length uc)).heap[z]? = w8.heap[z]? by rw [heap_setCell_other _ ⟨r, 5, none⟩ _ _ (by show z ≠ r; omega)]).trans R8.out
  have W90 : Below w.heap.size w (w8.setCell ⟨r, 5, none⟩ (.slice ua l6.l.length uc)) := by
    repeat (refine Below.setCell ?_ (by show w.heap.size ≤ r; omega) _)
    exact W8.out
  have OWN0 : (w8.setCell ⟨r, 5, none⟩ (.slice ua l6.l.length uc)).ownsRow bn 100 2 (.slice ua l6.l.length uc) l6.l.length (flat nrE l6.l) := by
    repeat (refine owns_set ?_ (by omega))
    exact OWN.out
  clear k0 k1
  go_wp2_with fail
  generalize (w8.setCell ⟨r, 5, none⟩ (.slice ua l6.l.length uc)) = w9 at *
  have B9 := hide B90
  have X9 := hide X90
  have R9 := hide R90
  have W9 := hide W90
  have OWN := hide OWN0
  clear B90 X90 R90 W90 B8 X8 R8 W8 OWN0
  clear fz s5
  refine (C7.out _ R9.out).mono ?_
  rintro e w10 ⟨rfl, hh, hg⟩
  have B10 := hide (res_grown B9.out hg (by omega))
  have X10 := hide (res_grown X9.out hg (by omega))
  have R10 := hide hh
  have W10 := hide (below_z W9.out hg (by omega))
  have OWN := hide (kept_other OWN.out hg (by omega))
  clear hh hg B9 X9 R9 W9 C7
  have s6 := cells_at X10.out 6
  simp at s6
  have fz := frozen_at X10.out
  have k0 := X10.out
  have k1 := heap_setCell_same _ _ 6 _ _ (.int .i64 q7.v) k0
  have X110 : (w10.setCell ⟨r, 6, none⟩ (.int .i64 q7.v)).heap[r]? = some (.cells #[.int .i64 q0.v, .int .i64 q1.v, .int .i64 q2.v, .int .i64 q3.v, .int .i64 q4.v, .slice ua l6.l.length uc, .int .i64 q7.v, .bool false] 51) := k1
  have B110 : (w10.setCell ⟨r, 6, none⟩ (.int .i64 q7.v)).heap[w.heap.size]? = _ := (show (w10.setCell ⟨r, 6, none⟩ (.int .i64 q7.v)).heap[w.heap.size]? = w10.heap[w.heap.size]? by rw [heap_setCell_other _ ⟨r, 6, none⟩ _ _ (by show w.heap.size ≠ r; omega)]).trans B10.out
  have R110 : (w10.setCell ⟨r, 6, none⟩ (.int .i64 q7.v)).heap[z]? = _ := (show (w10.setCell ⟨r, 6, none⟩ (.int .i64 q7.v)).heap[z]? = w10.heap[z]? by rw [heap_setCell_other _ ⟨r, 6, none⟩ _ _ (by show z ≠ r; omega)]).trans R10.out
  have W110 : Below w.heap.size w (w10.setCell ⟨r, 6, none⟩ (.int .i64 q7.v)) := by
    repeat (refine Below.setCell ?_ (by show w.heap.size ≤ r; omega) _)
    exact W10.out
  have OWN0 : (w10.setCell ⟨r, 6, none⟩ (.int .i64 q7.v)).ownsRow bn 100 2 (.slice ua l6.l.length uc) l6.l.length (flat nrE l6.l) := by
    repeat (refine owns_set ?_ (by omega))
    exact OWN.out
  clear k0 k1
  go_wp2_with fail
  generalize (w10.setCell ⟨r, 6, none⟩ (.int .i64 q7.v)) = w11 at *
  have B11 := hide B110
  have X11 := hide X110
  have R11 := hide R110
  have W11 := hide W110
  have OWN := hide OWN0
  clear B110 X110 R110 W110 B10 X10 R10 W10 OWN0
  clear fz s6
  refine (C8.out _ R11.out).mono ?_
  rintro e w12 ⟨rfl, hh, hg⟩
  have B12 := hide (res_grown B11.out hg (by omega))
  have X12 := hide (res_grown X11.out hg (by omega))
  have R12 := hide hh
  have W12 := hide (below_z W11.out hg (by omega))
  have OWN := hide (kept_other OWN.out hg (by omega))
  clear hh hg B11 X11 R11 W11 C8
  have s7 := cells_at X12.out 7
  simp at s7
  have fz := frozen_at X12.out
  obtain ⟨fb, hfb⟩ : ∃ q, q = (q8.b || decide (1 < q8.v)) := ⟨_, rfl⟩
  have rr := R12.out
  rw [← hfb] at rr
  have t1 := cells_at rr 1
  have t2 := cells_at rr 2
  simp at t1 t2
  have HFB := hide hfb
  clear hfb rr n6
  have u0 := cells_at B12.out 0
  have u1 := cells_at B12.out 1
  have u2 := cells_at B12.out 2
  have u3 := cells_at B12.out 3
  have u4 := cells_at B12.out 4
  have u5 := cells_at B12.out 5
  have u6 := cells_at B12.out 6
  have u7 := cells_at B12.out 7
  simp at u0 u1 u2 u3 u4 u5 u6 u7
  have fu := frozen_at B12.out
  have e1 : ¬ w.heap.size = r := by omega
  have e2 : ¬ r = w.heap.size := by omega
  have e3 : ¬ z = r := by omega
  have e4 : ¬ r = z := by omega
  cases fb
  · by_cases hat : q8.p < s.size
    · have hat1 : (q8.p : Int) < (s.size : Int) := by omega
      go_wp2_with fail
      have k0 := (show (w12.setCell ⟨r, 7, none⟩ (.bool (q8.v == 1))).heap[w.heap.size]? = _ from (heap_setCell_other w12 ⟨r, 7, none⟩ w.heap.size _ (by show w.heap.size ≠ r; omega)).trans B12.out)
      have k1 := heap_setCell_same _ _ 0 _ _ (.int .i64 0) k0
      have k2 := heap_setCell_same _ _ 1 _ _ (.int .i64 0) k1
      have k3 := heap_setCell_same _ _ 2 _ _ (.int .i64 0) k2
      have k4 := heap_setCell_same _ _ 3 _ _ (.int .i64 0) k3
      have k5 := heap_setCell_same _ _ 4 _ _ (.int .i64 0) k4
      have k6 := heap_setCell_same _ _ 5 _ _ (.slice none 0 0) k5
      have k7 := heap_setCell_same _ _ 6 _ _ (.int .i64 0) k6
      have k8 := heap_setCell_same _ _ 7 _ _ (.bool false) k7
      (try simp only [Exit.inBlock, Exit.then])
      refine bodyPost_ret (results_cell_row_tmp rfl _ _ w.heap.size 51 #[.int .i64 0, .int .i64 0, .int .i64 0, .int .i64 0, .int .i64 0, .slice none 0 0, .int .i64 0, .bool false] (0, 0) _ rfl k8 Tryz.underlying51 rfl (by kernel_rfl)) rfl ?_
      clear k0 k1 k2 k3 k4 k5 k6 k7 k8
      obtain rfl : O = false := by rw [HO.out, decide_eq_true hat]; simp
      obtain rfl : D = zeroR := HD.out
      refine ⟨.slice none 0 0, rfl, ?_, ?_⟩
      · exact ⟨rfl, .inl ⟨rfl, rfl⟩⟩
      · repeat (refine Below.setCell ?_ (by first | (show w.heap.size ≤ w.heap.size; omega) | (show w.heap.size ≤ r; omega)) _)
        exact W12.out
    · have hat1 : ¬ (q8.p : Int) < (s.size : Int) := by omega
      have hb8 : q8.b = false := by
        have := HFB.out
        cases hq : q8.b with
        | false => rfl
        | true => rw [hq] at this; simp at this
      have hl6 := N8.out hb8
      have OX : (w12.setCell ⟨r, 7, none⟩ (.bool (q8.v == 1))).ownsRow bn 100 2 (.slice ua l6.l.length uc) l6.l.length (flat nrE l6.l) := owns_set OWN.out (by omega)
      have CI := irecOk_any (.slice ua l6.l.length uc) ⟨q0.v, q1.v, q2.v, q3.v, q4.v, l6.l, q7.v, q8.v == 1⟩ (w12.setCell ⟨r, 7, none⟩ (.bool (q8.v == 1))) hl6 (owns_rowAt OX)
      rw [← HXX.out] at CI
      obtain ⟨ok, hok⟩ : ∃ q, q = recOkB x := ⟨_, rfl⟩
      rw [← hok, HXX.out] at CI
      unfold recC at CI
      simp only [] at CI
      have HCI := hide CI
      have HOK := hide hok
      have OXX := hide OX
      have k1 := heap_setCell_same _ _ 7 _ _ (.bool (q8.v == 1)) X12.out
      have XX : (w12.setCell ⟨r, 7, none⟩ (.bool (q8.v == 1))).heap[r]? = some (.cells #[.int .i64 q0.v, .int .i64 q1.v, .int .i64 q2.v, .int .i64 q3.v, .int .i64 q4.v, .slice ua l6.l.length uc, .int .i64 q7.v, .bool (q8.v == 1)] 51) := k1
      have HXR := hide XX
      have HBR := hide (show (w12.setCell ⟨r, 7, none⟩ (.bool (q8.v == 1))).heap[w.heap.size]? = _ from (heap_setCell_other w12 ⟨r, 7, none⟩ w.heap.size _ (by show w.heap.size ≠ r; omega)).trans B12.out)
      have y0 := cells_at X12.out 0
      have y1 := cells_at X12.out 1
      have y2 := cells_at X12.out 2
      have y3 := cells_at X12.out 3
      have y4 := cells_at X12.out 4
      have y5 := cells_at X12.out 5
      have y6 := cells_at X12.out 6
      simp at y0 y1 y2 y3 y4 y5 y6
      clear CI hok OX k1 XX
      go_wp2_with fail
      refine HCI.out.mono ?_
      rintro e w20 ⟨rfl, b20⟩
      have hbs : w20.heap[w.heap.size]? = _ := (b20.block _ (lt_of_heap HBR.out)).trans HBR.out
      have hrs : w20.heap[r]? = _ := (b20.block _ (lt_of_heap HXR.out)).trans HXR.out
      have WB : Below w.heap.size w (w12.setCell ⟨r, 7, none⟩ (.bool (q8.v == 1))) := W12.out.setCell (by show w.heap.size ≤ r; omega) _
      have W20 : Below w.heap.size w w20 := WB.trans (b20.mono WB.size)
      have O20 := hide (owns_below OXX.out b20 (Nat.le_refl _))
      have v0 := cells_at hbs 0
      have v1 := cells_at hbs 1
      have v2 := cells_at hbs 2
      have v3 := cells_at hbs 3
      have v4 := cells_at hbs 4
      have v5 := cells_at hbs 5
      have v6 := cells_at hbs 6
      have v7 := cells_at hbs 7
      simp at v0 v1 v2 v3 v4 v5 v6 v7
      have fv := frozen_at hbs
      have y0 := cells_at hrs 0
      have y1 := cells_at hrs 1
      have y2 := cells_at hrs 2
      have y3 := cells_at hrs 3
      have y4 := cells_at hrs 4
      have y5 := cells_at hrs 5
      have y6 := cells_at hrs 6
      have y7 := cells_at hrs 7
      simp at y0 y1 y2 y3 y4 y5 y6 y7
      have HBS := hide hbs
      clear hbs hrs b20 HCI s7 fz t1 t2 u0 u1 u2 u3 u4 u5 u6 u7 fu
      have HFF := hide (show (!(q8.b || decide (1 < q8.v))) = true by rw [← HFB.out]; rfl)
      have hdat : decide (q8.p < s.size) = false := decide_eq_false hat
      have HDA := hide hdat
      clear hdat
      cases ok
      · go_wp2_with fail
        have k0 := HBS.out
        have k1 := heap_setCell_same _ _ 0 _ _ (.int .i64 0) k0
        have k2 := heap_setCell_same _ _ 1 _ _ (.int .i64 0) k1
        have k3 := heap_setCell_same _ _ 2 _ _ (.int .i64 0) k2
        have k4 := heap_setCell_same _ _ 3 _ _ (.int .i64 0) k3
        have k5 := heap_setCell_same _ _ 4 _ _ (.int .i64 0) k4
        have k6 := heap_setCell_same _ _ 5 _ _ (.slice none 0 0) k5
        have k7 := heap_setCell_same _ _ 6 _ _ (.int .i64 0) k6
        have k8 := heap_setCell_same _ _ 7 _ _ (.bool false) k7
        (try simp only [Exit.inBlock, Exit.then])
        refine bodyPost_ret (results_cell_row_tmp rfl _ _ w.heap.size 51 #[.int .i64 0, .int .i64 0, .int .i64 0, .int .i64 0, .int .i64 0, .slice none 0 0, .int .i64 0, .bool false] (0, 0) _ rfl k8 Tryz.underlying51 rfl (by kernel_rfl)) rfl ?_
        clear k0 k1 k2 k3 k4 k5 k6 k7 k8
        obtain rfl : O = false := by rw [HO.out, ← HOK.out]; simp
        obtain rfl : D = zeroR := HD.out
        refine ⟨.slice none 0 0, rfl, ?_, ?_⟩
        · exact ⟨rfl, .inl ⟨rfl, rfl⟩⟩
        · repeat (refine Below.setCell ?_ (by first | (show w.heap.size ≤ w.heap.size; omega) | (show w.heap.size ≤ r; omega)) _)
          exact W20
      · go_wp2_with fail
        have k0 := HBS.out
        have k1 := heap_setCell_same _ _ 0 _ _ (.int .i64 q0.v) k0
        have k2 := heap_setCell_same _ _ 1 _ _ (.int .i64 q1.v) k1
        have k3 := heap_setCell_same _ _ 2 _ _ (.int .i64 q2.v) k2
        have k4 := heap_setCell_same _ _ 3 _ _ (.int .i64 q3.v) k3
        have k5 := heap_setCell_same _ _ 4 _ _ (.int .i64 q4.v) k4
        have k6 := heap_setCell_same _ _ 5 _ _ (.slice ua l6.l.length uc) k5
        have k7 := heap_setCell_same _ _ 6 _ _ (.int .i64 q7.v) k6
        have k8 := heap_setCell_same _ _ 7 _ _ (.bool (q8.v == 1)) k7
        (try simp only [Exit.inBlock, Exit.then])
        refine bodyPost_ret (results_cell_row_tmp rfl _ _ w.heap.size 51 #[.int .i64 q0.v, .int .i64 q1.v, .int .i64 q2.v, .int .i64 q3.v, .int .i64 q4.v, .slice ua l6.l.length uc, .int .i64 q7.v, .bool (q8.v == 1)] (0, 0) _ rfl k8 Tryz.underlying51 rfl (by kernel_rfl)) rfl ?_
        clear k0 k1 k2 k3 k4 k5 k6 k7 k8
        obtain rfl : O = true := by rw [HO.out, ← HOK.out, HFF.out, HDA.out]; rfl
        obtain rfl : D = ⟨q0.v, q1.v, q2.v, q3.v, q4.v, l6.l, q7.v, q8.v == 1⟩ := HD.out.trans HXX.out
        refine ⟨_, rfl, ?_, ?_⟩
        · refine owns_baseS (b1 := bn) ?_ hwb
          repeat (refine owns_set ?_ (by omega))
          exact O20.out
        · repeat (refine Below.setCell ?_ (by first | (show w.heap.size ≤ w.heap.size; omega) | (show w.heap.size ≤ r; omega)) _)
          exact W20
  · go_wp2_with fail
    have k0 := (show (w12.setCell ⟨r, 7, none⟩ (.bool (q8.v == 1))).heap[w.heap.size]? = _ from (heap_setCell_other w12 ⟨r, 7, none⟩ w.heap.size _ (by show w.heap.size ≠ r; omega)).trans B12.out)
    have k1 := heap_setCell_same _ _ 0 _ _ (.int .i64 0) k0
    have k2 := heap_setCell_same _ _ 1 _ _ (.int .i64 0) k1
    have k3 := heap_setCell_same _ _ 2 _ _ (.int .i64 0) k2
    have k4 := heap_setCell_same _ _ 3 _ _ (.int .i64 0) k3
    have k5 := heap_setCell_same _ _ 4 _ _ (.int .i64 0) k4
    have k6 := heap_setCell_same _ _ 5 _ _ (.slice none 0 0) k5
    have k7 := heap_setCell_same _ _ 6 _ _ (.int .i64 0) k6
    have k8 := heap_setCell_same _ _ 7 _ _ (.bool false) k7
    (try simp only [Exit.inBlock, Exit.then])
    refine bodyPost_ret (results_cell_row_tmp rfl _ _ w.heap.size 51 #[.int .i64 0, .int .i64 0, .int .i64 0, .int .i64 0, .int .i64 0, .slice none 0 0, .int .i64 0, .bool false] (0, 0) _ rfl k8 Tryz.underlying51 rfl (by kernel_rfl)) rfl ?_
    clear k0 k1 k2 k3 k4 k5 k6 k7 k8
    obtain rfl : O = false := by rw [HO.out, ← HFB.out]; simp
    obtain rfl : D = zeroR := HD.out
    refine ⟨.slice none 0 0, rfl, ?_, ?_⟩
    · exact ⟨rfl, .inl ⟨rfl, rfl⟩⟩
    · repeat (refine Below.setCell ?_ (by first | (show w.heap.size ≤ w.heap.size; omega) | (show w.heap.size ≤ r; omega)) _)
      exact W12.out
end Go.Proofs.YtchmmekhfcojgaaGreatDoor
