/-
  impl.ShortText, spec.l04Short: their contracts.
  The program's writer of packets: its contracts.
  impl.PacketText: its contract.
  A cursor beside an append (cut out of CurT and DrawRight).
  spec.l06Copy: a way with a row of its own.
-/
import Derived.Test.YtchmmekhfcojgaaGreatDoorPq21
import Derived.Test.YtchmmekhfcojgaaGreatDoorPq20
import Derived.Test.YtchmmekhfcojgaaGreatDoorPq23
import Derived.Test.YtchmmekhfcojgaaGreatDoorPq12
import Derived.Test.YtchmmekhfcojgaaGreatDoorPq1
import Derived.Test.YtchmmekhfcojgaaGreatDoorPq10
import Derived.Test.YtchmmekhfcojgaaGreatDoorPq2
namespace Go.Proofs.YtchmmekhfcojgaaGreatDoor
open Go.RowKit

set_option linter.unusedSimpArgs false

theorem varV_in (n : Nat) (h : n ≤ 1000000000) : varV (n : Int) = .tuple #[.string (bs (varL n)), .bool true] := by
  unfold varV; rw [if_pos (by omega)]; rfl

theorem var_size (n : Nat) : (bs (varL n)).size ≤ n + 1 := by rw [bs_size]; exact varL_len n

set_option maxHeartbeats 400000 in
theorem ist_any (s : ByteArray) (w : World) (hs : s.size ≤ 20000) :
    Calls Tryz.prog 45 #[.string s] w fun e w' => e = .returned (.tuple #[.string (bs (varL s.size) ++ s), .bool true]) ∧ Below w.heap.size w w' := by
  have hv := varV_in s.size (by omega)
  have hz := var_size s.size
  go_enter Tryz.func45, Tryz.ntmps45
  go_wp2_with (first | (go_at_call 42; refine (ivt_any _ _).mono ?_; rw [hv]; rintro e w' ⟨rfl, hb⟩))
  go_ret2
  exact ⟨rfl, hb⟩

set_option maxHeartbeats 400000 in
theorem sshort_any (s : ByteArray) (w : World) (hs : s.size ≤ 20000) :
    Calls Tryz.prog 61 #[.string s] w fun e w' => e = .returned (.string (bs (varL s.size) ++ s)) ∧ Below w.heap.size w w' := by
  have hi : ((s.size : Int)).toNat = s.size := by omega
  have hz := var_size s.size
  go_enter Tryz.func61, Tryz.ntmps61
  go_wp2_with (first | (go_at_call 59; refine (var_any _ _ (by omega) (by omega)).mono ?_; rw [hi]; rintro e w' ⟨rfl, hb⟩))
  go_ret
  exact ⟨rfl, hb⟩
end Go.Proofs.YtchmmekhfcojgaaGreatDoor
namespace Go.Proofs.YtchmmekhfcojgaaGreatDoor
open Go.RowKit

set_option linter.unusedSimpArgs false

/-- a writer in block b that has written these bytes -/
def Buf (b : Nat) (l : List UInt8) (w : World) : Prop := LibA.IsBuffer 46 (fun _ => none) 5 b b 0 (Lib.byteCells l) w

theorem byteCells_append (a b : List UInt8) : Lib.byteCells (a ++ b) = Lib.byteCells a ++ Lib.byteCells b := by simp [Lib.byteCells]

theorem byteCells_one (l : List UInt8) : ∀ v ∈ Lib.byteCells l, v.oneCell' = true := by
  intro v hv
  obtain ⟨b, _, rfl⟩ := List.mem_map.1 hv
  rfl

theorem byteCells_len (l : List UInt8) : (Lib.byteCells l).length = l.length := by simp [Lib.byteCells]

theorem byteCells_by (z : Int) (h0 : 0 ≤ z) (h1 : z ≤ 255) : [Value.int .u8 z] = Lib.byteCells [byB z] := by
  simp only [Lib.byteCells, List.map_cons, List.map_nil]
  rw [← byB_val z h0 h1]

theorem buf_fresh (w : World) : Buf w.heap.size [] (w.alloc (.cells #[.slice none 0 0, .int .i64 0, .int .i8 0] 46)) := LibA.of_whole (Lib.fresh_isBuffer _ _ w)

theorem Buf.old {b : Nat} {l : List UInt8} {w w' : World} (h : Buf b l w) (hb : Below w.heap.size w w') : Buf b l w' := LibA.IsBuffer.old h hb

theorem Buf.lt {b : Nat} {l : List UInt8} {w : World} (h : Buf b l w) : b < w.heap.size := LibA.IsBuffer.lt h

theorem Buf.box {b : Nat} {l : List UInt8} {w : World} (h : Buf b l w) : ∃ cs fz, w.heap[b]? = some (.cells cs 46 fz) := by
  obtain ⟨_, v, lr, ⟨cs, hb, _⟩, _⟩ := h
  exact ⟨cs, _, hb⟩

theorem Buf.row {b base n : Nat} {l : List UInt8} {w w' : World} {v : Value} {xs : List Value} (h : Buf b l w) (ho : Lib.OthersKept 5 (some b) w w') (hr : w.ownsRow base 3 1 v n xs) : w'.ownsRow base 3 1 v n xs := by
  obtain ⟨cs, fz, hbx⟩ := h.box
  refine owns_keepB hr (fun k e => ?_)
  rcases hr.2 with ⟨h0, _⟩ | ⟨g, cap, cur, hv, _, hh, _⟩
  · rw [h0] at e; cases e
  · rw [hv] at e
    cases e
    rw [hh]
    refine ho g _ hh (fun e => ?_) (fun c f e => by cases e)
    cases e
    rw [hbx] at hh
    cases hh

theorem Buf.byte (b : Nat) (l : List UInt8) (z : Int) (w : World) (h : Buf b l w) (h0 : 0 ≤ z) (h1 : z ≤ 255) (hl : l.length ≤ 1000000) :
    Calls Tryz.prog 41 #[.pointer (some ⟨b, 0, none⟩), .int .u8 z] w fun e w' => e = .returned .nilIface ∧ Buf b (l ++ [byB z]) w' ∧ Below b w w' ∧ Lib.OthersKept 5 (some b) w w' := by
  have hlt := h.lt
  refine (Tryz.Buffer_WriteByte_at 46 (fun _ => none) b b 0 (Lib.byteCells l) z w h (by omega) (byteCells_one l) (by rw [byteCells_len]; omega)).mono ?_
  rintro e w' ⟨h2, h3, h4, h5⟩
  refine ⟨h2, ?_, h4, h5⟩
  unfold Buf
  rw [byteCells_append, ← byteCells_by z h0 h1]
  exact h3

theorem Buf.string (b : Nat) (l : List UInt8) (s : ByteArray) (w : World) (h : Buf b l w) (hl : l.length + s.size ≤ 1000000) :
    Calls Tryz.prog 43 #[.pointer (some ⟨b, 0, none⟩), .string s] w fun e w' => e = .returned (.tuple #[.int .i64 s.size, .nilIface]) ∧ Buf b (l ++ s.data.toList) w' ∧ Below b w w' ∧ Lib.OthersKept 5 (some b) w w' := by
  have hlt := h.lt
  refine (Tryz.Buffer_WriteString_at 46 (fun _ => none) b b 0 (Lib.byteCells l) s w h (by omega) (byteCells_one l) (by rw [byteCells_len]; omega)).mono ?_
  rintro e w' ⟨h2, h3, h4, h5⟩
  refine ⟨h2, ?_, h4, h5⟩
  unfold Buf
  rw [byteCells_append]
  exact h3

theorem Buf.read (b : Nat) (l : List UInt8) (w : World) (h : Buf b l w) :
    Calls Tryz.prog 20 #[.pointer (some ⟨b, 0, none⟩)] w fun e w' => e = .returned (.string (bs l)) ∧ ∃ n, w' = w.drewN n := Tryz.Buffer_String_at 46 (fun _ => none) b b 0 l w h

set_option maxRecDepth 100000 in
set_option maxHeartbeats 2000000 in
theorem oneEach_any (b base : Nat) (l : List UInt8) (v : Value) (ns : List Int) (w : World) (h : Buf b l w) (hr : w.ownsRow base 3 1 v ns.length (flat intE ns)) (hn : ∀ z ∈ ns, 0 ≤ z ∧ z ≤ 255) (hl : l.length + ns.length ≤ 100000) :
    Calls Tryz.prog 16 #[.pointer (some ⟨b, 0, none⟩), v] w fun e w' => e = .returned (.tuple #[]) ∧ Buf b (l ++ ns.map byB) w' ∧ Below b w w' ∧ Lib.OthersKept 5 (some b) w w' := by
  obtain ⟨va, vc, rfl⟩ := owns_lenS hr
  have HR := hide hr
  have HB := hide h
  have HN := hide hn
  clear hr h hn
  go_enter Tryz.func16, Tryz.ntmps16
  go_wp2
  go_loopw [8] (fun i wr => ∃ k : Nat, k ≤ ns.length ∧ i = .int .i64 k ∧ Buf b (l ++ (ns.take k).map byB) wr ∧ Below b w wr ∧ Lib.OthersKept 5 (some b) w wr) (fun i _ => ns.length - (intOf i).toNat)
  case atStart => exact ⟨0, by omega, rfl, by simpa using HB.out, Below.refl _ _, Lib.OthersKept.refl _ _ _⟩
  case round =>
    obtain ⟨k, hk, rfl, hbf, hbl, hot⟩ := hrel
    by_cases hlt : k < ns.length
    · obtain ⟨z, hz⟩ : ∃ z, ns[k]? = some z := ⟨ns[k], List.getElem?_eq_getElem hlt⟩
      have hrow := HB.out.row hot HR.out
      obtain ⟨g, off, cap', hve, hbb, c0⟩ := HopsAt.cell (hops_of hrow) k z hz
      cases hve
      have hzz := HN.out z (List.mem_of_getElem? hz)
      have hu8 : IntKind.u8.wrap z = z := by rw [IntKind.wrap_u8]; omega
      have HWB := hide (Buf.byte b _ z wr hbf hzz.1 hzz.2 (by simp; omega))
      have HST := hide (show l ++ (ns.take k).map byB ++ [byB z] = l ++ (ns.take (k + 1)).map byB by
        obtain ⟨hk2, e2⟩ := List.getElem?_eq_some_iff.1 hz
        rw [List.take_succ_eq_append_getElem hk2, List.map_append, e2, List.append_assoc]
        rfl)
      rw [HST.out] at HWB
      have HBL := hide hbl
      have HOT := hide hot
      have hki : (0 : Int) ≤ (k : Int) := by omega
      have hkj : (k : Int) < (ns.length : Int) := by omega
      have hbn := hbf.lt
      clear hbf hbl hot hrow hz HST hzz
      go_wp2_with fail
      refine HWB.out.mono ?_
      rintro e w2 ⟨rfl, q1, q2, q3⟩
      have Q1 := hide q1
      have Q2 := hide (HBL.out.trans q2)
      have Q3 := hide (HOT.out.trans q3)
      clear q1 q2 q3
      go_wp2
      go_roundw
      case rel => exact ⟨k + 1, by omega, by go_num, Q1.out, Q2.out, Q3.out⟩
      case measure => simp [intOf]; omega
    · have hkn : k = ns.length := by omega
      have Q1 := hide hbf
      rw [hkn, List.take_length] at Q1
      have Q2 := hide hbl
      have Q3 := hide hot
      clear hkn hbf hbl hot
      go_wp2
      go_returns
      exact ⟨rfl, Q1.out, Q2.out, Q3.out⟩

set_option maxRecDepth 100000 in
set_option maxHeartbeats 1000000 in
theorem number_any (b n : Nat) (l : List UInt8) (w : World) (h : Buf b l w) (hn : n ≤ 1000) (hl : l.length ≤ 100000) :
    Calls Tryz.prog 17 #[.pointer (some ⟨b, 0, none⟩), .int .i64 (n : Int)] w fun e w' => e = .returned (.tuple #[]) ∧ Buf b (l ++ varL n) w' ∧ Below b w w' ∧ Lib.OthersKept 5 (some b) w w' := by
  have hv := varV_in n (by omega)
  have HV := hide (ivt_any (n : Int))
  rw [hv] at HV
  have HB := hide h
  have hbl := h.lt
  have hz := varL_five (n := n) (by omega)
  clear h hv
  go_enter Tryz.func17, Tryz.ntmps17
  go_wp2_with fail
  refine (HV.out _).mono ?_
  rintro e w1 ⟨rfl, b1⟩
  have HS := hide (Buf.string b l (bs (varL n)) w1 (HB.out.old b1) (by rw [bs_size]; omega))
  have hbs := b1.size
  have B1 := hide (b1.mono (Nat.le_of_lt hbl))
  have O1 := hide (Lib.OthersKept.below (Lib.OthersKept.refl 5 (some b) w) b1)
  clear b1
  go_wp2_with fail
  refine HS.out.mono ?_
  rintro e w2 ⟨rfl, q1, q2, q3⟩
  have Q1 := hide q1
  have Q2 := hide (B1.out.trans q2)
  have Q3 := hide (O1.out.trans q3)
  clear q1 q2 q3
  go_wp2
  go_returns
  exact ⟨rfl, Q1.out, Q2.out, Q3.out⟩

set_option maxRecDepth 100000 in
set_option maxHeartbeats 1000000 in
theorem record_any (b : Nat) (l : List UInt8) (x : RecD) (va : Option Addr) (vc : Nat) (w : World) (h : Buf b l w) (hok : recOkB x = true) (hv : NearsAt w (.slice va x.near.length vc) x.near w.heap.size) (hl : l.length ≤ 100000) :
    Calls Tryz.prog 18 #[.pointer (some ⟨b, 0, none⟩), .agg (recC x (.slice va x.near.length vc))] w fun e w' => e = .returned (.tuple #[]) ∧ Buf b (l ++ shortL x) w' ∧ Below b w w' ∧ Lib.OthersKept 5 (some b) w w' := by
  have hn6 := recOk_near hok
  have h60 := recL_len hok
  have hbl := h.lt
  have hsl := shortL_len hok
  have BA : Below w.heap.size w (w.alloc (.cells (recC x (.slice va x.near.length vc)) 51)) := (Below.refl _ _).alloc (Nat.le_refl _) _
  have HT := itext_any _ x (w.alloc (.cells (recC x (.slice va x.near.length vc)) 51)) (by omega) (RowAt.then hv BA)
  rw [show textV x = .tuple #[.string (bs (recL x)), .bool true] by unfold textV; rw [if_pos hok]] at HT
  have HB := hide h
  have HI := hide (ist_any (bs (recL x)))
  have HTT := hide HT
  have hsz : (bs (recL x)).size = (recL x).length := bs_size _
  clear hv h HT hok
  unfold recC at *
  go_enter Tryz.func18, Tryz.ntmps18
  go_wp2_with fail
  obtain ⟨w0, hw0⟩ : ∃ W, W = w.alloc (.cells #[.int .i64 x.area, .int .i64 x.kind, .int .i64 x.owner, .int .i64 x.key, .int .i64 x.seq, .slice va x.near.length vc, .int .i64 x.cost, .bool x.far] 51) := ⟨_, rfl⟩
  rw [← hw0] at BA HTT ⊢
  clear hw0
  refine HTT.out.mono ?_
  rintro e w1 ⟨rfl, b1⟩
  have B1 : Below w.heap.size w w1 := BA.trans (b1.mono BA.size)
  clear b1 BA
  go_wp2_with fail
  refine (HI.out _ (by omega)).mono ?_
  rintro e w2 ⟨rfl, b2⟩
  have B2 : Below w.heap.size w w2 := B1.trans (b2.mono B1.size)
  have HS := hide (Buf.string b l (bs (varL (bs (recL x)).size) ++ bs (recL x)) w2 (HB.out.old B2) (by
    rw [bs_add, bs_size, bs_size]
    have : (varL (recL x).length ++ recL x).length = (shortL x).length := rfl
    omega))
  have HE := hide (show (bs (varL (bs (recL x)).size) ++ bs (recL x)).data.toList = shortL x by rw [bs_add, bs_size]; rfl)
  rw [HE.out] at HS
  have BB := hide (B2.mono (Nat.le_of_lt hbl))
  have O1 := hide (Lib.OthersKept.below (Lib.OthersKept.refl 5 (some b) w) B2)
  have hs2 := B2.size
  clear b2 B1 B2 HE
  go_wp2_with fail
  refine HS.out.mono ?_
  rintro e w3 ⟨rfl, q1, q2, q3⟩
  have Q1 := hide q1
  have Q2 := hide (BB.out.trans q2)
  have Q3 := hide (O1.out.trans q3)
  clear q1 q2 q3
  go_wp2
  go_returns
  exact ⟨rfl, Q1.out, Q2.out, Q3.out⟩
end Go.Proofs.YtchmmekhfcojgaaGreatDoor
namespace Go.Proofs.YtchmmekhfcojgaaGreatDoor
open Go.RowKit

set_option linter.unusedSimpArgs false

/-- a packet whose rows are whole blocks, below hi -/
structure PkSrc (W : World) (hi : Nat) (v1 v2 : Value) (x : PkD) (ps : List RP) : Prop where
  heard : W.ownsRow 0 3 1 v1 x.heard.length (flat intE x.heard)
  htop : ∀ k, v1.ownBlock = some k → k < hi
  list : RecsIn W hi v2 ps

theorem PkOwn.src {W : World} {lo hi m : Nat} {v1 v2 : Value} {x : PkD} {ps : List RP} (h : PkOwn W lo hi v1 v2 x ps m) : PkSrc W hi v1 v2 x ps :=
  ⟨owns_baseS h.heard.row (Nat.zero_le _), fun k e => Nat.lt_of_lt_of_le (h.heard.top k e) h.o2, h.list.in⟩

theorem PkSrc.below {W W' : World} {hi B : Nat} {v1 v2 : Value} {x : PkD} {ps : List RP} (h : PkSrc W hi v1 v2 x ps) (hb : Below B W W') (hB : hi ≤ B) : PkSrc W' hi v1 v2 x ps :=
  ⟨owns_keepB h.heard (fun k e => hb.block k (by have := h.htop k e; omega)), h.htop, h.list.below hb hB⟩

theorem PkSrc.wide {W : World} {hi hi' : Nat} {v1 v2 : Value} {x : PkD} {ps : List RP} (h : PkSrc W hi v1 v2 x ps) (hh : hi ≤ hi') : PkSrc W hi' v1 v2 x ps :=
  ⟨h.heard, fun k e => Nat.lt_of_lt_of_le (h.htop k e) hh, h.list.wide hh⟩

theorem PkSrc.in {W : World} {hi : Nat} {v1 v2 : Value} {x : PkD} {ps : List RP} (h : PkSrc W hi v1 v2 x ps) : PkIn W v1 v2 x ps hi where
  heard := by
    obtain ⟨a, cap, hv, h2⟩ := owns_rowAt h.heard
    refine ⟨a, cap, hv, ?_⟩
    rcases h2 with h0 | ⟨b, off, ha, hb1, hx⟩
    · exact .inl h0
    · exact .inr ⟨b, off, ha, h.htop b (by rw [hv, ha]; rfl), hx⟩
  list := h.list.at

theorem pt_no {x : PkD} {xs : List RecD} (h : pkB x xs = false) : ptV x xs = .tuple #[.string (bs []), .bool false] := by unfold ptV; rw [h]; rfl

theorem pt_yes {x : PkD} {xs : List RecD} (h : pkB x xs = true) : ptV x xs = .tuple #[.string (bs (pkL x xs) ++ bs (fourL (sumS (bs (pkL x xs))))), .bool true] := by unfold ptV; rw [if_pos h]

theorem se_short {s : ByteArray} (h : s.size ≤ 20000) : seV s = .tuple #[.string (s ++ bs (fourL (sumS s))), .bool true] := by unfold seV; rw [if_pos h]

theorem bdrewT {B n : Nat} {w w1 : World} (h : Below B w w1) : Below B w (w1.drewN n) := h.trans ⟨rfl, rfl, rfl, Nat.le_refl _, fun _ _ => rfl⟩

theorem bs_more (a b : ByteArray) : (a ++ b).size = a.size + b.size := ByteArray.size_append ..

set_option maxRecDepth 100000 in
set_option maxHeartbeats 4000000 in
theorem iptext_any (v1 v2 : Value) (x : PkD) (ps : List RP) (hi : Nat) (w : World) (ht : totP x ps ≤ 1048576) (hv : PkSrc w hi v1 v2 x ps) (hhi : hi ≤ w.heap.size) (hT : Steps w) :
    Calls Tryz.prog 6 #[pkV x v1 v2] w fun e w' => e = .returned (ptV x (fsts ps)) ∧ Below w.heap.size w w' := by
  have hin := hv.in.more hhi
  obtain ⟨⟨a1, c1, rfl⟩, ⟨a2, c2, rfl⟩⟩ := hin.shapes
  have BA : Below w.heap.size w (w.alloc (.cells #[.int .i64 x.kind, .int .i64 x.src, .int .i64 x.dst, .int .i64 x.area, .slice a1 x.heard.length c1, .slice a2 ps.length c2] 27)) := (Below.refl _ _).alloc (Nat.le_refl _) _
  have g0 := heap_alloc_new w (.cells #[.int .i64 x.kind, .int .i64 x.src, .int .i64 x.dst, .int .i64 x.area, .slice a1 x.heard.length c1, .slice a2 ps.length c2] 27)
  have HOK := hide (ipacketOk_any _ _ x ps (w.alloc (.cells #[.int .i64 x.kind, .int .i64 x.src, .int .i64 x.dst, .int .i64 x.area, .slice a1 x.heard.length c1, .slice a2 ps.length c2] 27)) ht (hin.then BA))
  have HV := hide hv
  have HT := hide hT
  have G0 := hide g0
  have HFL := hide (show (fsts ps).length = ps.length by simp [fsts])
  clear hv hin g0 hT
  obtain ⟨r, hr⟩ : ∃ r, r = pkB x (fsts ps) := ⟨_, rfl⟩
  rw [← hr] at HOK
  have HR := hide hr
  clear hr
  cases r
  · rw [pt_no HR.out.symm]
    go_enter Tryz.func6, Tryz.ntmps6
    go_wp2_with fail
    refine HOK.out.mono ?_
    rintro e w1 ⟨rfl, b1⟩
    go_wp2
    go_returns
    exact ⟨rfl, BA.trans (b1.mono BA.size)⟩
  rw [pt_yes HR.out.symm]
  have hbd := pk_bounds HR.out.symm
  have hlen := pkL_len hbd
  have HBD := hide hbd
  have hfew := hbd.few
  have hlst : ps.length ≤ 150 := by have := hbd.list; have := HFL.out; omega
  obtain ⟨PL, hPL⟩ : ∃ L, L = pkL x (fsts ps) := ⟨_, rfl⟩
  rw [← hPL] at hlen ⊢
  have HPL := hide hPL
  clear hbd hPL
  go_enter Tryz.func6, Tryz.ntmps6
  go_wp2_with fail
  obtain ⟨w0, hw0⟩ : ∃ W, W = w.alloc (.cells #[.int .i64 x.kind, .int .i64 x.src, .int .i64 x.dst, .int .i64 x.area, .slice a1 x.heard.length c1, .slice a2 ps.length c2] 27) := ⟨_, rfl⟩
  rw [← hw0] at BA G0 HOK ⊢
  clear hw0
  refine HOK.out.mono ?_
  rintro e w1 ⟨rfl, b1⟩
  have hz0 := lt_of_heap G0.out
  have B1 : Below w.heap.size w w1 := BA.trans (b1.mono BA.size)
  have hs1 := B1.size
  have g1 := (b1.block _ hz0).trans G0.out
  have hb0 := buf_fresh w1
  have BB : Below w1.heap.size w1 (w1.alloc (.cells #[.slice none 0 0, .int .i64 0, .int .i8 0] 46)) := (Below.refl _ _).alloc (Nat.le_refl _) _
  have g2 := (BB.block _ (lt_of_heap g1)).trans g1
  obtain ⟨w2, hw2⟩ : ∃ W, W = w1.alloc (.cells #[.slice none 0 0, .int .i64 0, .int .i8 0] 46) := ⟨_, rfl⟩
  have hb2 : w1.heap.size < w2.heap.size := by rw [hw2]; simp
  have s0 := cells_at g1 0
  have s1 := cells_at g1 1
  have s2 := cells_at g1 2
  have s3 := cells_at g1 3
  simp at s0 s1 s2 s3
  have hz1 := lt_of_heap g1
  have hbx : w.heap.size ≠ w1.heap.size := by omega
  have hrow := World.ownsRow_lit w2 #[.int .i64 x.kind, .int .i64 x.src, .int .i64 x.dst, .int .i64 x.area] (e := 3) (base := 0) (size := 1) 4 (Nat.zero_le _) (by unfold maxLen; omega) (by simp)
  have BC : Below w2.heap.size w2 (w2.alloc (.cells #[.int .i64 x.kind, .int .i64 x.src, .int .i64 x.dst, .int .i64 x.area] 3)) := (Below.refl _ _).alloc (Nat.le_refl _) _
  rw [hw2] at hrow BC
  have HONE := hide (fun (hb : Buf w1.heap.size [] ((w1.alloc (.cells #[.slice none 0 0, .int .i64 0, .int .i8 0] 46)).alloc (.cells #[.int .i64 x.kind, .int .i64 x.src, .int .i64 x.dst, .int .i64 x.area] 3))) => oneEach_any w1.heap.size 0 [] _ [x.kind, x.src, x.dst, x.area] _ hb hrow (by
    have h1 := HBD.out.kind
    have h2 := HBD.out.src
    have h3 := HBD.out.dst
    have h4 := HBD.out.area
    intro z hz
    simp at hz
    omega) (by simp))
  have hbo : Buf w1.heap.size [] ((w1.alloc (.cells #[.slice none 0 0, .int .i64 0, .int .i8 0] 46)).alloc (.cells #[.int .i64 x.kind, .int .i64 x.src, .int .i64 x.dst, .int .i64 x.area] 3)) := hb0.old (by rw [← hw2]; rw [← hw2] at BC; exact BC)
  have BD : Below w1.heap.size w1 ((w1.alloc (.cells #[.slice none 0 0, .int .i64 0, .int .i8 0] 46)).alloc (.cells #[.int .i64 x.kind, .int .i64 x.src, .int .i64 x.dst, .int .i64 x.area] 3)) := BB.trans (BC.mono (by rw [← hw2]; omega))
  have HO := hide (HONE.out hbo)
  rw [show (w1.alloc (.cells #[.slice none 0 0, .int .i64 0, .int .i8 0] 46)).heap.size = w1.heap.size + 1 by simp] at HO
  simp only [List.nil_append, List.map_cons, List.map_nil] at HO
  have G1 := hide g1
  clear hbo hb0 HONE hrow BC BB g2 hw2 hb2 b1 HOK G0 g1
  go_wp2_with fail
  refine HO.out.mono ?_
  rintro e w3 ⟨rfl, f3, b3, _⟩
  obtain ⟨b, hb⟩ : ∃ b, b = w1.heap.size := ⟨_, rfl⟩
  have HBE := hide hb
  rw [← hb] at BD f3 b3 hz1 hbx ⊢
  have BN3 : Below b w1 w3 := BD.trans b3
  have HBF := hide (show Buf b (oneL x) w3 from f3)
  have hpp : hi ≤ b := by omega
  clear hb f3 b3 BD HO s0 s1 s2 s3
  have g3 := (BN3.block _ hz1).trans G1.out
  have s4 := cells_at g3 4
  simp at s4
  have HNU := hide (number_any b x.heard.length _ w3 HBF.out (by omega) (by simp [oneL]))
  clear g3
  go_wp2_with fail
  refine HNU.out.mono ?_
  rintro e w4 ⟨rfl, f4, b4, _⟩
  have BN4 : Below b w1 w4 := BN3.trans b4
  have SRC := hide ((HV.out.below B1 hhi).below BN4 hpp)
  have HO2 := hide (oneEach_any b 0 _ (.slice a1 x.heard.length c1) x.heard w4 f4 SRC.out.heard (fun z hz => by have := HBD.out.heard z hz; omega) (by have := varL_five (n := x.heard.length) (by omega); simp [oneL]; omega))
  have g4 := (BN4.block _ hz1).trans G1.out
  clear s4
  have s4 := cells_at g4 4
  simp at s4
  clear g4 f4 b4 BN3 HNU HBF
  go_wp2_with fail
  refine HO2.out.mono ?_
  rintro e w5 ⟨rfl, f5, b5, _⟩
  have BN5 : Below b w1 w5 := BN4.trans b5
  have HNU := hide (number_any b ps.length _ w5 f5 (by omega) (by have := varL_five (n := x.heard.length) (by omega); simp [oneL]; omega))
  have g5 := (BN5.block _ hz1).trans G1.out
  have s5 := cells_at g5 5
  simp at s5
  clear g5 f5 b5 BN4 HO2 s4
  go_wp2_with fail
  refine HNU.out.mono ?_
  rintro e w6 ⟨rfl, f6, b6, _⟩
  have BN6 : Below b w1 w6 := BN5.trans b6
  obtain ⟨L4, hL4⟩ : ∃ L, L = oneL x ++ varL x.heard.length ++ x.heard.map byB ++ varL ps.length := ⟨_, rfl⟩
  rw [← hL4] at f6
  have hl4 : L4.length ≤ 100 := by
    rw [hL4]
    have h1 := varL_five (n := x.heard.length) (by omega)
    have h2 := varL_five (n := ps.length) (by omega)
    simp [oneL]
    omega
  have HL4 := hide hL4
  have HBF := hide f6
  have g6 := (BN6.block _ hz1).trans G1.out
  clear s5
  have s5 := cells_at g6 5
  simp at s5
  clear g6 f6 b6 BN5 HNU hL4 SRC
  go_wp2
  go_loopw [36] (fun i wr => ∃ k : Nat, k ≤ ps.length ∧ i = .int .i64 k ∧ Buf b (L4 ++ shortsL ((fsts ps).take k)) wr ∧ Below b w1 wr) (fun i _ => ps.length - (intOf i).toNat)
  case atStart => exact ⟨0, by omega, rfl, by simpa [shortsL] using HBF.out, BN6⟩
  case round =>
    clear HBF BN6 s5
    obtain ⟨k, hk, rfl, hbf, hbn⟩ := hrel
    have hbl := hbf.lt
    have SRC := hide ((HV.out.below B1 hhi).below hbn hpp)
    by_cases hlt : k < ps.length
    · obtain ⟨p, hp⟩ : ∃ p, ps[k]? = some p := ⟨ps[k], List.getElem?_eq_getElem hlt⟩
      obtain ⟨g, off, cap', hve, hgb, d0, d1, d2, d3, d4, d5, d6, d7, hnr⟩ := SRC.out.in.list.cells k p hp
      cases hve
      obtain ⟨pa, pc, hpn⟩ := NearsAt.shape hnr
      rw [hpn] at d5 hnr
      have hpr := HBD.out.recs p.1 (List.mem_map_of_mem (List.mem_of_getElem? hp))
      have BR : Below wr.heap.size wr (wr.alloc (.cells #[.int .i64 p.1.area, .int .i64 p.1.kind, .int .i64 p.1.owner, .int .i64 p.1.key, .int .i64 p.1.seq, .slice pa p.1.near.length pc, .int .i64 p.1.cost, .bool p.1.far] 51)) := (Below.refl _ _).alloc (Nat.le_refl _) _
      have hln : (L4 ++ shortsL ((fsts ps).take k)).length ≤ 20000 := by
        have h1 := shortsL_len (xs := (fsts ps).take k) (fun r hr => HBD.out.recs r (List.mem_of_mem_take hr))
        have h2 : ((fsts ps).take k).length ≤ k := by simp; omega
        simp only [List.length_append]
        omega
      have HREC := record_any b _ p.1 pa pc (wr.alloc (.cells #[.int .i64 p.1.area, .int .i64 p.1.kind, .int .i64 p.1.owner, .int .i64 p.1.key, .int .i64 p.1.seq, .slice pa p.1.near.length pc, .int .i64 p.1.cost, .bool p.1.far] 51)) (hbf.old BR) hpr (RowAt.then (RowAt.more hnr (by omega)) BR) (by omega)
      rw [List.append_assoc, ← shortsL_succ (fsts_at hp)] at HREC
      unfold recC at HREC
      have HRC := hide HREC
      have BN := hide hbn
      have BRR := hide BR
      clear HREC hnr hpn hp hpr hbf hbn BR SRC
      have hki : (0 : Int) ≤ (k : Int) := by omega
      have hkj : (k : Int) < (ps.length : Int) := by omega
      go_wp2_with fail
      refine HRC.out.mono ?_
      rintro e w7 ⟨rfl, f7, b7, _⟩
      have F7 := hide f7
      have B7 := hide (BN.out.trans ((BRR.out.mono (Nat.le_of_lt hbl)).trans b7))
      clear f7 b7 BN BRR
      go_wp2
      go_roundw
      case rel => exact ⟨k + 1, by omega, by go_num, F7.out, B7.out⟩
      case measure => simp [intOf]; omega
    · have hkn : k = ps.length := by omega
      have hPL2 : L4 ++ shortsL ((fsts ps).take k) = PL := by
        rw [HPL.out, HL4.out, hkn, List.take_of_length_le (by have := HFL.out; omega)]
        unfold pkL
        rw [HFL.out]
      rw [hPL2] at hbf
      have HRD := hide (Buf.read b PL wr hbf)
      have BN := hide hbn
      have BW := hide (B1.trans (hbn.mono (by have := HBE.out; omega)))
      clear hkn hPL2 hbf hbn SRC
      go_wp2_with fail
      refine HRD.out.mono ?_
      rintro e w8 ⟨rfl, nd, rfl⟩
      have hst : Steps (wr.drewN nd) := steps_later HT.out (bdrewT BW.out) (Nat.le_refl _)
      have HSE := ise_any (bs PL) (wr.drewN nd) (by rw [bs_size]; omega) hst
      rw [se_short (by rw [bs_size]; omega)] at HSE
      have HSS := hide HSE
      have hsz : (bs PL ++ bs (fourL (sumS (bs PL)))).size ≤ 20000 := by rw [bs_more, bs_size, bs_size, fourL_len]; omega
      have B8 := hide (bdrewT (n := nd) BW.out)
      clear HSE hst
      obtain ⟨TX, hTX⟩ : ∃ T, T = bs PL ++ bs (fourL (sumS (bs PL))) := ⟨_, rfl⟩
      rw [← hTX] at HSS hsz
      have HTX := hide hTX
      clear hTX
      have hszi : ¬ (20000 : Int) < (TX.size : Int) := by omega
      go_wp2_with fail
      refine HSS.out.mono ?_
      rintro e w9 ⟨rfl, b9⟩
      have B9 := hide (B8.out.trans (b9.mono (by have := B8.out.size; omega)))
      clear b9
      go_wp2
      go_returns
      exact ⟨by rw [HTX.out]; rfl, B9.out⟩
end Go.Proofs.YtchmmekhfcojgaaGreatDoor
namespace Go.Proofs.YtchmmekhfcojgaaGreatDoor
open Go.RowKit

theorem Cur.appended {w w' : World} {p : Nat} {a : Option Addr} {len cap : Nat} {v : Value} {base : Nat} {e : TypeId} {n : Nat} {xs : List Value} (o : Obj) (h : Cur w p a len cap) (hown : w.ownsRow base e 1 v n xs) (hb : p < base) (hg : (w.alloc o).grownBy w' v.ownBlock) : Cur w' p a len cap := by
  have h1 : Cur (w.alloc o) p a len cap := h.grown (row := none) ⟨rfl, rfl, rfl, by simp, fun k hk _ => Below.heap_alloc _ _ _ hk⟩ (fun b _ => by simp)
  refine h1.grown hg (fun b hbp he => ?_)
  have := (hown.lt b he.symm).1
  omega
end Go.Proofs.YtchmmekhfcojgaaGreatDoor
namespace Go.Proofs.YtchmmekhfcojgaaGreatDoor
open Go.RowKit

set_option linter.unusedSimpArgs false

theorem intE_one (z : Int) : ∀ u ∈ intE z, u.oneCell' = true := by
  intro u hu
  simp [intE] at hu
  subst hu
  rfl

theorem int_flat1 (l : List Int) : (flat intE l).length = l.length * 1 := flat_len intE_len l

theorem own_litI (W : World) (g base : Nat) (hg : g = W.heap.size) (hb : base ≤ W.heap.size) : (W.alloc (.cells #[] 3)).ownsRow base 3 1 (.slice (some ⟨g, 0, none⟩) 0 0) 0 (flat intE []) := by
  subst hg
  exact World.ownsRow_lit W #[] 0 hb (by unfold maxLen; omega) (by simp)

end Go.Proofs.YtchmmekhfcojgaaGreatDoor
