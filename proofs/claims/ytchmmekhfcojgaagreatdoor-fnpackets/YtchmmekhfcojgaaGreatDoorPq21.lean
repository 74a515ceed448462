/-
  spec.RecordText: its contract.
  impl.VarText: its contract.
  impl.appendVar, farByte, RecordText: their contracts.
-/
import Derived.Test.YtchmmekhfcojgaaGreatDoorPq20
import Derived.Deep.RegionHeld3
import Derived.Test.YtchmmekhfcojgaaGreatDoorPq1
import Derived.Test.YtchmmekhfcojgaaGreatDoorPq8
import Derived.Lib.AppendStr
namespace Go.Proofs.YtchmmekhfcojgaaGreatDoor
open Go.RowKit

theorem str_add {P : Program} (a b : List UInt8) (W : World) (h : a.length + b.length ≤ 100000000000) : (Op.stringOp .add (bs a) (bs b)).run P W = .ok (.string (bs (a ++ b))) W := by
  rw [run_string_add_sum _ _ _ (by rw [bs_size, bs_size]; omega), bs_add]

theorem var_nat (m : Nat) (w : World) (h : m ≤ 1000000000) : Calls Tryz.prog 59 #[.int .i64 (m : Int)] w fun e w' => e = .returned (.string (bs (varL m))) ∧ Below w.heap.size w w' := by
  have := var_any (m : Int) w (by omega) (by omega)
  simpa using this

theorem ret_str2 {a b : ByteArray} {q : Bool} (h : b = a) : Ending.returned (.tuple #[.string a, .bool q]) = .returned (.tuple #[.string b, .bool q]) := by rw [h]

set_option maxRecDepth 100000 in
set_option maxHeartbeats 4000000 in
theorem stext_any (v1 : Value) (x : RecD) (w : World) (hl : x.near.length ≤ 1048576) (hv : NearsAt w v1 x.near w.heap.size) :
    Calls Tryz.prog 60 #[.agg (recC x v1)] w fun e w' => e = .returned (textV x) ∧ Below w.heap.size w w' := by
  obtain ⟨p1, c1, rfl⟩ := hv.shape
  have HOK := hide (fun W (h : Below w.heap.size w W) => srecOk_any (.slice p1 x.near.length c1) x W hl (hv.then h))
  have HV0 := hide hv
  have HTV := hide (show textV x = textV x from rfl)
  have HB := hide sbyte_any
  have HV := hide var_nat
  by_cases hok : recOkB x = true
  case neg =>
    have hf : recOkB x = false := by simpa using hok
    rw [hf] at HOK
    have htv : textV x = .tuple #[.string (bs []), .bool false] := by unfold textV; rw [if_neg hok]
    rw [htv]
    clear htv hok hf hv HV0 HTV
    unfold recC at *
    go_enter Tryz.func60, Tryz.ntmps60
    go_wp2_with fail
    refine (HOK.out _ ((Below.refl _ _).alloc (Nat.le_refl _) _)).mono ?_
    rintro e w1 ⟨rfl, b1⟩
    go_wp2
    go_ret2
    exact ⟨rfl, ((Below.refl _ _).alloc (Nat.le_refl _) _).trans (b1.mono (by simp))⟩
  rw [hok] at HOK
  have hbd := recOk_bounds hok
  have htv : textV x = .tuple #[.string (bs (recL x)), .bool true] := by unfold textV; rw [if_pos hok]
  rw [htv]
  clear htv hok hv HTV
  obtain ⟨area, kind, owner, key, seq, ns, cost, far⟩ := x
  obtain ⟨ha, hk, ho, hy, hs, hc, hn⟩ := hbd
  simp only [] at ha hk ho hy hs hc hn hl HV0
  have HN := hide hn
  obtain ⟨sq, rfl⟩ : ∃ m : Nat, seq = (m : Int) := ⟨seq.toNat, by omega⟩
  obtain ⟨co, rfl⟩ : ∃ m : Nat, cost = (m : Int) := ⟨cost.toNat, by omega⟩
  have hsq : sq ≤ 100000 := by omega
  have hco : co ≤ 60000 := by omega
  have hvs := varL_len sq
  have hvn := varL_len ns.length
  have hvc := varL_len co
  obtain ⟨L1, h1⟩ : ∃ l, l = [byB area] ++ [byB kind] := ⟨_, rfl⟩
  obtain ⟨L2, h2⟩ : ∃ l, l = L1 ++ [byB owner] := ⟨_, rfl⟩
  obtain ⟨L3, h3⟩ : ∃ l, l = L2 ++ [byB key] := ⟨_, rfl⟩
  obtain ⟨L4, h4⟩ : ∃ l, l = L3 ++ varL sq := ⟨_, rfl⟩
  obtain ⟨HL, h5⟩ : ∃ l, l = L4 ++ varL ns.length := ⟨_, rfl⟩
  have n1 : L1.length = 2 := by rw [h1]; rfl
  have n2 : L2.length = 3 := by rw [h2, List.length_append, n1]; rfl
  have n3 : L3.length = 4 := by rw [h3, List.length_append, n2]; rfl
  have n4 : L4.length ≤ 200000 := by rw [h4, List.length_append, n3]; omega
  have n5 : HL.length ≤ 2000000 := by rw [h5, List.length_append]; omega
  have e1 := fun W => str_add (P := Tryz.prog) [byB area] [byB kind] W (by simp)
  have e2 := fun W => str_add (P := Tryz.prog) L1 [byB owner] W (by simp; omega)
  have e3 := fun W => str_add (P := Tryz.prog) L2 [byB key] W (by simp; omega)
  have e4 := fun W => str_add (P := Tryz.prog) L3 (varL sq) W (by omega)
  have e5 := fun W => str_add (P := Tryz.prog) L4 (varL ns.length) W (by omega)
  rw [← h1] at e1
  rw [← h2] at e2
  rw [← h3] at e3
  rw [← h4] at e4
  rw [← h5] at e5
  have hR : recL ⟨area, kind, owner, key, (sq : Int), ns, (co : Int), far⟩ = HL ++ nearsL ns ++ varL co ++ farL far := by rw [h5, h4, h3, h2, h1]; simp [recL, headL]
  rw [hR]
  have N5 := hide n5
  clear hn hR h1 h2 h3 h4 h5 n1 n2 n3 n4 n5 hs hc
  unfold recC at *
  simp only [] at *
  have B0 : Below w.heap.size w (w.alloc (.cells #[.int .i64 area, .int .i64 kind, .int .i64 owner, .int .i64 key, .int .i64 (sq : Int), .slice p1 ns.length c1, .int .i64 (co : Int), .bool far] 51)) := (Below.refl _ _).alloc (Nat.le_refl _) _
  have NEW := hide (heap_alloc_new w (.cells #[.int .i64 area, .int .i64 kind, .int .i64 owner, .int .i64 key, .int .i64 (sq : Int), .slice p1 ns.length c1, .int .i64 (co : Int), .bool far] 51))
  go_enter Tryz.func60, Tryz.ntmps60
  go_wp2_with fail
  refine (HOK.out _ B0).mono ?_
  rintro e w2 ⟨rfl, b2⟩
  have B2 := B0.trans (b2.mono B0.size)
  have g2 : w2.heap[w.heap.size]? = some (.cells #[.int .i64 area, .int .i64 kind, .int .i64 owner, .int .i64 key, .int .i64 (sq : Int), .slice p1 ns.length c1, .int .i64 (co : Int), .bool far] 51) := (b2.block _ (by simp)).trans NEW.out
  have s0 := cells_at g2 0
  have s1 := cells_at g2 1
  have s2 := cells_at g2 2
  have s3 := cells_at g2 3
  have s4 := cells_at g2 4
  have s5 := cells_at g2 5
  simp at s0 s1 s2 s3 s4 s5
  have G2 := hide g2
  have hz2 := lt_of_heap g2
  clear b2 g2 B0 NEW HOK
  go_wp2
  go_region_held3 (fun W => W.cell? ⟨w.heap.size, 0, none⟩ = some (.int .i64 area) ∧ W.cell? ⟨w.heap.size, 1, none⟩ = some (.int .i64 kind) ∧ W.cell? ⟨w.heap.size, 2, none⟩ = some (.int .i64 owner) ∧ W.cell? ⟨w.heap.size, 3, none⟩ = some (.int .i64 key) ∧ W.cell? ⟨w.heap.size, 4, none⟩ = some (.int .i64 (sq : Int)) ∧ W.cell? ⟨w.heap.size, 5, none⟩ = some (.slice p1 ns.length c1)) (first | go_keep | (refine ⟨?_, ?_, ?_, ?_, ?_, ?_⟩ <;> (refine Eq.trans (Below.cell (B := w2.heap.size) (w := w2.drew) ?_ ?_) ?_ <;> first | assumption | (go_grown; done)))) (first | (go_at_call 59; have hD5 := D4; refine (HV.out _ _ ?_).mono ?_; omega; rintro e v5 ⟨rfl, b5⟩; have D5 : Below w2.heap.size w2.drew v5 := D4.trans (b5.mono D4.size)) | (go_at_call 59; have hD4 := D3; refine (HV.out _ _ ?_).mono ?_; omega; rintro e v4 ⟨rfl, b4⟩; have D4 : Below w2.heap.size w2.drew v4 := D3.trans (b4.mono D3.size)) | (go_at_call 58; have hD3 := D2; refine (HB.out _ _ ?_ ?_).mono ?_; omega; omega; rintro e v3 ⟨rfl, b3⟩; have D3 : Below w2.heap.size w2.drew v3 := D2.trans (b3.mono D2.size)) | (go_at_call 58; have hD2 := D1; refine (HB.out _ _ ?_ ?_).mono ?_; omega; omega; rintro e v2 ⟨rfl, b2⟩; have D2 : Below w2.heap.size w2.drew v2 := D1.trans (b2.mono D1.size)) | (go_at_call 58; have hD1 := D0; refine (HB.out _ _ ?_ ?_).mono ?_; omega; omega; rintro e v1 ⟨rfl, b1⟩; have D1 : Below w2.heap.size w2.drew v1 := D0.trans (b1.mono D0.size)) | (go_at_call 58; refine (HB.out _ _ ?_ ?_).mono ?_; omega; omega; rintro e v0 ⟨rfl, b0⟩; have D0 : Below w2.heap.size w2.drew v0 := b0))
  have B3 : Below w.heap.size w v5 := B2.drew.trans (D5.mono B2.size)
  have g3 : v5.heap[w.heap.size]? = some (.cells #[.int .i64 area, .int .i64 kind, .int .i64 owner, .int .i64 key, .int .i64 (sq : Int), .slice p1 ns.length c1, .int .i64 (co : Int), .bool far] 51) := (D5.block _ hz2).trans G2.out
  clear e1 e2 e3 e4 e5 b0 b1 b2 b3 b4 b5 D0 D1 D2 D3 D4 D5 hD1 hD2 hD3 hD4 hD5 G2 B2 hz2 s0 s1 s2 s3 s4 s5
  go_wp2
  go_loopw [4, 5] (fun t i wr => ∃ (k : Nat) (l : List UInt8), k ≤ ns.length ∧ i = .int .i64 k ∧ t = .string (bs l) ∧ l = HL ++ nearsL (ns.take k) ∧ Below w.heap.size w wr ∧ wr.heap[w.heap.size]? = some (.cells #[.int .i64 area, .int .i64 kind, .int .i64 owner, .int .i64 key, .int .i64 (sq : Int), .slice p1 ns.length c1, .int .i64 (co : Int), .bool far] 51)) (fun _ i _ => ns.length - (intOf i).toNat)
  case atStart => exact ⟨0, HL, by omega, rfl, rfl, by simp [nearsL], B3, g3⟩
  case round =>
    obtain ⟨wz, rfl⟩ : ∃ wz : World, wz = wr := ⟨_, rfl⟩
    clear B3 g3
    obtain ⟨k, l, hk, rfl, rfl, hll, hb, hx⟩ := hrel
    have hzr := hb.size
    have hzx := lt_of_heap hx
    have g5 := cells_at hx 5
    simp at g5
    have HX := hide hx
    have hl0 : l.length ≤ 2000000 + 1002 * k := by
      have h1 := nearsL_len HN.out k
      have h2 := N5.out
      rw [hll, List.length_append]
      omega
    have HLL := hide hll
    clear hx hll
    by_cases hlt : k < ns.length
    · obtain ⟨y, hyk⟩ : ∃ y, ns[k]? = some y := ⟨ns[k], List.getElem?_eq_getElem hlt⟩
      have hyb := HN.out y (List.mem_of_getElem? hyk)
      obtain ⟨b, off, cap', hve, hbb, s0, s1⟩ := HV0.out.cells k y hyk
      cases hve
      have HSU := hide (nearsL_succ hyk)
      obtain ⟨lt, lc⟩ := y
      simp only [] at hyb s0 s1
      obtain ⟨⟨ht0, ht1⟩, hc0, hc1⟩ := hyb
      obtain ⟨lm, rfl⟩ : ∃ m : Nat, lc = (m : Int) := ⟨lc.toNat, by omega⟩
      rw [← hb.cell (p := ⟨b, off + k * 2, none⟩) hbb] at s0
      rw [← hb.cell (p := ⟨b, off + k * 2 + 1, none⟩) hbb] at s1
      have hki : (0 : Int) ≤ (k : Int) := by omega
      have hkj : (k : Int) < (ns.length : Int) := by omega
      have hbr : b < wz.heap.size := by omega
      have hvm := varL_len lm
      obtain ⟨l1, h1⟩ : ∃ q, q = l ++ [byB lt] := ⟨_, rfl⟩
      obtain ⟨l2, h2⟩ : ∃ q, q = l1 ++ varL lm := ⟨_, rfl⟩
      have n1 : l1.length = l.length + 1 := by rw [h1, List.length_append]; rfl
      have e1 := fun W => str_add (P := Tryz.prog) l [byB lt] W (by simp; omega)
      have e2 := fun W => str_add (P := Tryz.prog) l1 (varL lm) W (by omega)
      rw [← h1] at e1
      rw [← h2] at e2
      have H12 := hide (show l2 = HL ++ nearsL (ns.take (k + 1)) by rw [h2, h1, HLL.out, HSU.out]; simp [nearL])
      clear h1 h2 n1 hyk
      go_wp2
      go_region_held3 (fun W => W.cell? ⟨w.heap.size, 5, none⟩ = some (.slice (some ⟨b, off, none⟩) ns.length c1) ∧ W.cell? ⟨b, off + k * 2, none⟩ = some (.int .i64 lt) ∧ W.cell? ⟨b, off + k * 2 + 1, none⟩ = some (.int .i64 (lm : Int))) (first | go_keep | (refine ⟨?_, ?_, ?_⟩ <;> (refine Eq.trans (Below.cell (B := wz.heap.size) (w := wz.drew) ?_ ?_) ?_ <;> first | assumption | (go_grown; done)))) (first | (go_at_call 58; refine (HB.out _ _ ?_ ?_).mono ?_; omega; omega; rintro e v6 ⟨rfl, b6⟩; have D6 : Below wz.heap.size wz.drew v6 := b6) | (go_at_call 59; refine (HV.out _ _ ?_).mono ?_; omega; rintro e v7 ⟨rfl, b7⟩; have D7 : Below wz.heap.size wz.drew v7 := D6.trans (b7.mono D6.size)))
      have B7 : Below w.heap.size w v7 := hb.drew.trans (D7.mono hb.size)
      have g7 : v7.heap[w.heap.size]? = _ := (D7.block _ hzx).trans HX.out
      clear e1 e2 D6 D7 b6 b7
      go_wp2
      exact ⟨⟨k + 1, l2, by omega, by go_num, rfl, H12.out, B7, g7⟩, by simp [intOf]; omega⟩
    · have hk' : k = ns.length := by omega
      have hlf : l = HL ++ nearsL ns := by rw [HLL.out, hk', List.take_length]
      have HLF := hide hlf
      have g6 := cells_at HX.out 6
      simp at g6
      obtain ⟨l1, h1⟩ : ∃ q, q = l ++ varL co := ⟨_, rfl⟩
      have n1 : l1.length ≤ 2000000000 := by rw [h1, List.length_append]; omega
      have e1 := fun W => str_add (P := Tryz.prog) l (varL co) W (by omega)
      have e2 : ∀ W, (Op.stringOp .add (bs l1) { data := #[1] }).run Tryz.prog W = .ok (.string (bs (l1 ++ [1]))) W := fun W => str_add l1 [1] W (by simp; omega)
      have e3 : ∀ W, (Op.stringOp .add (bs l1) { data := #[0] }).run Tryz.prog W = .ok (.string (bs (l1 ++ [0]))) W := fun W => str_add l1 [0] W (by simp; omega)
      rw [← h1] at e1
      have H1 := hide h1
      clear hlf hk' h1
      go_wp2_with fail
      refine (HV.out _ _ (by omega)).mono ?_
      rintro e v6 ⟨rfl, b6⟩
      have B6 : Below w.heap.size w v6 := hb.trans (b6.mono hb.size)
      have g7 := cells_at ((b6.block _ hzx).trans HX.out) 7
      simp at g7
      clear b6
      cases far
      · go_wp2
        go_ret2
        exact ⟨ret_str2 (by rw [H1.out, HLF.out]; rfl), B6⟩
      · go_wp2
        go_ret2
        exact ⟨ret_str2 (by rw [H1.out, HLF.out]; rfl), B6⟩
end Go.Proofs.YtchmmekhfcojgaaGreatDoor
namespace Go.Proofs.YtchmmekhfcojgaaGreatDoor
open Go.RowKit

def varV (n : Int) : Value := if 0 ≤ n ∧ n ≤ 1000000000 then .tuple #[.string (bs (varL n.toNat)), .bool true] else .tuple #[.string (bs []), .bool false]

set_option maxHeartbeats 400000 in
theorem ivt_any (n : Int) (w : World) : Calls Tryz.prog 42 #[.int .i64 n] w fun e w' => e = .returned (varV n) ∧ Below w.heap.size w w' := by
  by_cases hn : n < 0
  · have hv : varV n = .tuple #[.string (bs []), .bool false] := by simp [varV]; omega
    rw [hv]; clear hv
    go_enter Tryz.func42, Tryz.ntmps42
    go_wp2
    go_ret2
    exact ⟨rfl, Below.refl _ _⟩
  by_cases hx : 1000000000 < n
  · have hv : varV n = .tuple #[.string (bs []), .bool false] := by simp [varV]; omega
    rw [hv]; clear hv
    go_enter Tryz.func42, Tryz.ntmps42
    go_wp2
    go_ret2
    exact ⟨rfl, Below.refl _ _⟩
  have hv : varV n = .tuple #[.string (bs (varL n.toNat)), .bool true] := by simp [varV]; omega
  rw [hv]; clear hv
  go_enter Tryz.func42, Tryz.ntmps42
  go_wp2
  go_loopw [4, 0] (fun v i wr => ∃ (m : Nat) (pre : List UInt8), pre.length + m ≤ 1000000000 ∧ i = .int .i64 m ∧ Hid (varL n.toNat = pre ++ varL m) ∧ wr.ownsRow w.heap.size 5 1 v pre.length (cellsOf pre) ∧ Below w.heap.size w wr)
    (fun _ i _ => (intOf i).toNat)
  case atStart =>
    exact ⟨n.toNat, [], by simp; omega, by simp; omega, rfl, World.ownsRow_nil _ _ _ _, Below.refl _ _⟩
  case round =>
    obtain ⟨m, pre, hm, rfl, hv, hown, hnx⟩ := hrel
    have hsz := hnx.size
    by_cases hlt : 127 < m
    · go_wp2_with (first
        | (at_builtin; refine wpList_append_bytes _ rfl _ _ 22 rfl w.heap.size 5 Tryz.underlying22 Tryz.info5 _ pre [hiB m] rfl (hown.alloc _) ⟨wr.heap.size, 0, none⟩ 1 rfl (news_one _ _ _ (byte_hi m)) (by simp; omega) (by simp; omega) ?_))
      intro v' w1 l' hl' hown' hgrow
      have hb := below_append _ hnx hown (Nat.le_refl _) hsz hgrow
      clear hgrow hnx hown
      go_wp2
      go_roundw
      case rel => exact ⟨m / 128, l', by rw [hl'.out]; simp; omega, by go_num, by rw [hv.out, varL_big hlt, hl'.out]; simp [Hid], hown', hb⟩
      case measure => simp [intOf]; omega
    · go_wp2_with (first
        | (at_builtin; refine wpList_append_bytes _ rfl _ _ 22 rfl w.heap.size 5 Tryz.underlying22 Tryz.info5 _ pre [loB m] rfl (hown.alloc _) ⟨wr.heap.size, 0, none⟩ 1 rfl (news_one _ _ _ (byte_lo m (by omega))) (by simp; omega) (by simp; omega) ?_))
      intro v' w1 l' hl' hown' hgrow
      have hb := below_append _ hnx hown (Nat.le_refl _) hsz hgrow
      clear hgrow hnx hown
      have hstr := run_str_own (P := Tryz.prog) 22 9 5 Tryz.underlying22 Tryz.underlying5 Tryz.underlying9 hown'
      go_wp2
      go_ret2
      exact ⟨by rw [hv.out, varL_small (by omega), ← hl'.out]; rfl, hb⟩

end Go.Proofs.YtchmmekhfcojgaaGreatDoor
namespace Go.Proofs.YtchmmekhfcojgaaGreatDoor
open Go.RowKit

theorem strCells_bs (l : List UInt8) : Go.Lib.strCells (bs l) = cellsOf l := by
  simp [Go.Lib.strCells, cellsOf, bs]

set_option maxRecDepth 100000 in
set_option maxHeartbeats 1000000 in
theorem appendVar_any (base : Nat) (v : Value) (l : List UInt8) (n : Nat) (w : World) (hown : w.ownsRow base 5 1 v l.length (cellsOf l)) (hn : n ≤ 1000000000) (hl : l.length ≤ 10000000000) (hbase : base ≤ w.heap.size) :
    Calls Tryz.prog 76 #[v, .int .i64 (n : Int)] w fun e w' => ∃ v' l', e = .returned v' ∧ l' = l ++ varL n ∧ w'.ownsRow base 5 1 v' l'.length (cellsOf l') ∧ w.grownBy w' v.ownBlock := by
  obtain ⟨i0, hi, hz0, hz1, hz2⟩ := info_parts Tryz.info5
  have HI := hide hi
  have HZ := hide hz0
  have hvt : varV (n : Int) = .tuple #[.string (bs (varL n)), .bool true] := by unfold varV; rw [if_pos (by omega)]; simp
  have HVT := ivt_any (n : Int)
  rw [hvt] at HVT
  have HV := hide HVT
  have OW := hide hown
  have hlen := varL_len n
  have hvs := bs_size (varL n)
  clear HVT hvt hown hi hz0
  go_enter Tryz.func76, Tryz.ntmps76
  go_wp2_with fail
  refine (HV.out _).mono ?_
  rintro e w1 ⟨rfl, b1⟩
  have ow1 := owns_below OW.out b1 (Nat.le_refl _)
  have hb1 : base ≤ w1.heap.size := Nat.le_trans hbase b1.size
  go_wp2_with (first | (at_builtin; refine Go.Lib.wpList_append_own_string _ rfl _ _ 22 9 rfl base 5 i0 Tryz.underlying22 Tryz.underlying9 HI.out HZ.out hz1 hz2 v l.length (cellsOf l) rfl ow1 (bs (varL n)) rfl (by rw [hvs]; unfold maxLen; omega) (by rw [hvs]; omega) hb1 ?_))
  intro v' w2 ow2 hg _
  have B2 : w.grownBy w2 v.ownBlock := ⟨hg.os.trans b1.os, hg.tape.trans b1.tape, hg.output.trans b1.output, Nat.le_trans b1.size hg.size, fun k hk hr => (hg.block k (Nat.lt_of_lt_of_le hk b1.size) hr).trans (b1.block k hk)⟩
  rw [strCells_bs, ← cellsOf_append, ← List.length_append] at ow2
  have OW2 := hide ow2
  clear ow2 hg ow1
  go_wp2
  go_ret
  exact ⟨_, _, rfl, rfl, OW2.out, B2⟩

theorem below_own {w w' : World} {base n : Nat} {e : TypeId} {v : Value} {xs : List Value} (ho : w.ownsRow base e 1 v n xs) (hg : w.grownBy w' v.ownBlock) (hb : base ≤ w.heap.size) : Below base w w' := (Below.refl _ _).grown hg hb (fun k hk => (ho.lt k hk).1)

theorem keep_app {W W6 : World} {o : Obj} {z j : Nat} {u : Value} {row : Option Nat} (h : W.cell? ⟨z, j, none⟩ = some u) (hg : (W.drew.alloc o).grownBy W6 row) (hne : some z ≠ row) : W6.cell? ⟨z, j, none⟩ = some u :=
  hg.cell ((World.cell?_alloc_lt W.drew o ⟨z, j, none⟩ (World.block_lt_of_cell? W _ h)).trans h) hne

theorem own_ne {W : World} {base z : Nat} {v : Value} {l : List UInt8} {u : Int} (ho : W.ownsRow base 5 1 v l.length (cellsOf l)) (hl : 0 < l.length) (hc : W.cell? ⟨z, 0, none⟩ = some (.int .i64 u)) : some z ≠ v.ownBlock := by
  obtain ⟨g, cap, rfl, _, _⟩ := owns_shape ho hl
  intro e
  simp [Value.ownBlock] at e
  subst e
  rw [ho.cellAt 0 (by omega)] at hc
  have : (cellsOf l)[0]? = some (.int .u8 (l[0].toNat : Int)) := by simp [cellsOf, List.getElem?_eq_getElem hl]
  rw [this] at hc
  cases hc

set_option maxHeartbeats 400000 in
theorem farByte_any (f : Bool) (w : World) : Calls Tryz.prog 77 #[.bool f] w fun e w' => e = .returned (.int .u8 (if f then 1 else 0)) ∧ w = w' := by
  cases f
  all_goals
    go_enter Tryz.func77, Tryz.ntmps77
    go_wp2
    go_ret
    exact ⟨rfl, rfl⟩
end Go.Proofs.YtchmmekhfcojgaaGreatDoor
