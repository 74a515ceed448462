/-
  Contracts of the library, laid at this program: stringslite_Clone, Buffer_WriteByte_at, Buffer_WriteString_at, Buffer_String_at.
  spec.l01Var: its contract.
  The text of a record: the plain mathematics; spec.l04Byte.
-/
import Derived.Shelf.LaysM
import Derived.Shelf.Bytes.GrowSliceCatch
import Derived.Shelf.Bytes.GrowSlice
import Derived.Shelf.Strconv.Clone
import Derived.Shelf.Bytes.LenAt
import Derived.Shelf.Bytes.StringAt
import Derived.Shelf.Bytes.TryGrowAt
import Derived.Shelf.Bytes.GrowRow0At
import Derived.Shelf.Bytes.GrowRowAt
import Derived.Shelf.Bytes.GrowNilAt
import Derived.Shelf.Bytes.GrowAt
import Derived.Shelf.Bytes.WriteByteAt
import Derived.Shelf.Bytes.WriteStringAt
import Derived.Test.YtchmmekhfcojgaaGreatDoorProg
import Derived.Test.YtchmmekhfcojgaaGreatDoorPq1
import Derived.Test.YtchmmekhfcojgaaGreatDoorPq7
namespace Go.Proofs
open Go.Shelf
def Tryz.laysM316_ren : Go.Shelf.Ren := ⟨fun | 316 => 79 | n => n, fun | 9 => 9 | 3 => 3 | 4 => 4 | 37 => 22 | 0 => 0 | 127 => 134 | 5 => 5 | n => n, fun | n => n⟩
theorem Tryz.laysM316 : Go.Proofs.LaysM.n316 Tryz.prog Tryz.laysM316_ren := {
  mixed := by kernel_rfl
  f316 := Tryz.func79.trans (congrArg some (by kernel_rfl))
  t0 := Tryz.underlying0
  a0 := Tryz.isAgg0
  z0 := Tryz.sizeOf0
  v0 := Tryz.zeroValue0
  t3 := Tryz.underlying3
  a3 := Tryz.isAgg3
  z3 := Tryz.sizeOf3
  v3 := Tryz.zeroValue3
  t4 := Tryz.underlying4
  a4 := Tryz.isAgg4
  z4 := Tryz.sizeOf4
  v4 := Tryz.zeroValue4
  t9 := Tryz.underlying9
  a9 := Tryz.isAgg9
  z9 := Tryz.sizeOf9
  v9 := Tryz.zeroValue9
  t37 := Tryz.underlying22
  a37 := Tryz.isAgg22
  z37 := Tryz.sizeOf22
  v37 := Tryz.zeroValue22
  t127 := Tryz.underlying134
  a127 := Tryz.isAgg134
  z127 := Tryz.sizeOf134
  v127 := Tryz.zeroValue134
  t5 := Tryz.underlying5
  a5 := Tryz.isAgg5
  z5 := Tryz.sizeOf5
  v5 := Tryz.zeroValue5
  i0 := by kernel_rfl
  i3 := by kernel_rfl
  i4 := by kernel_rfl
  i5 := by kernel_rfl
  i9 := by kernel_rfl
  i37 := by kernel_rfl
  i127 := by kernel_rfl }
open Go.RowKit in
theorem Tryz.stringslite_Clone (s : ByteArray) (w : World) (hlim : s.size ≤ 281474976710656) :
    Calls Tryz.prog 79 #[.string s] w fun e w' => e = .returned (.string s) ∧ Below w.heap.size w w' := Any.stringslite_Clone Tryz.laysM316 s w hlim
def Tryz.laysM179_ren : Go.Shelf.Ren := ⟨fun | 179 => 41 | 251 => 73 | 252 => 74 | 181 => 96 | 184 => 97 | 290 => 98 | 324 => 112 | n => n, fun | 130 => 83 | 5 => 5 | 75 => 74 | 0 => 0 | 93 => 44 | 91 => 42 | 3 => 3 | 131 => 113 | 4 => 4 | 37 => 22 | 20 => 20 | 80 => 54 | 9 => 9 | n => n, fun | 14 => 0 | n => n⟩
theorem Tryz.laysM179 : Go.Proofs.LaysM.n179 Tryz.prog Tryz.laysM179_ren := {
  mixed := by kernel_rfl
  f179 := Tryz.func41.trans (congrArg some (by kernel_rfl))
  f181 := Tryz.func96.trans (congrArg some (by kernel_rfl))
  f184 := Tryz.func97.trans (congrArg some (by kernel_rfl))
  f251 := Tryz.func73.trans (congrArg some (by kernel_rfl))
  f252 := Tryz.func74.trans (congrArg some (by kernel_rfl))
  f290 := Tryz.func98.trans (congrArg some (by kernel_rfl))
  f324 := Tryz.func112.trans (congrArg some (by kernel_rfl))
  t0 := Tryz.underlying0
  a0 := Tryz.isAgg0
  z0 := Tryz.sizeOf0
  v0 := Tryz.zeroValue0
  t3 := Tryz.underlying3
  a3 := Tryz.isAgg3
  z3 := Tryz.sizeOf3
  v3 := Tryz.zeroValue3
  t4 := Tryz.underlying4
  a4 := Tryz.isAgg4
  z4 := Tryz.sizeOf4
  v4 := Tryz.zeroValue4
  t5 := Tryz.underlying5
  a5 := Tryz.isAgg5
  z5 := Tryz.sizeOf5
  v5 := Tryz.zeroValue5
  t20 := Tryz.underlying20
  a20 := Tryz.isAgg20
  z20 := Tryz.sizeOf20
  v20 := Tryz.zeroValue20
  t37 := Tryz.underlying22
  a37 := Tryz.isAgg22
  z37 := Tryz.sizeOf22
  v37 := Tryz.zeroValue22
  t75 := Tryz.underlying74
  a75 := Tryz.isAgg74
  z75 := Tryz.sizeOf74
  v75 := Tryz.zeroValue74
  t91 := Tryz.underlying42
  a91 := Tryz.isAgg42
  z91 := Tryz.sizeOf42
  v91 := Tryz.zeroValue42
  t93 := Tryz.underlying44
  a93 := Tryz.isAgg44
  z93 := Tryz.sizeOf44
  v93 := Tryz.zeroValue44
  t130 := Tryz.underlying83
  a130 := Tryz.isAgg83
  z130 := Tryz.sizeOf83
  v130 := Tryz.zeroValue83
  t131 := Tryz.underlying113
  a131 := Tryz.isAgg113
  z131 := Tryz.sizeOf113
  v131 := Tryz.zeroValue113
  g14 := by kernel_rfl
  t9 := Tryz.underlying9
  a9 := Tryz.isAgg9
  z9 := Tryz.sizeOf9
  v9 := Tryz.zeroValue9
  t80 := Tryz.underlying54
  a80 := Tryz.isAgg54
  z80 := Tryz.sizeOf54
  v80 := Tryz.zeroValue54
  i0 := by kernel_rfl
  i3 := by kernel_rfl
  i4 := by kernel_rfl
  i5 := by kernel_rfl
  i9 := by kernel_rfl
  i20 := by kernel_rfl
  i37 := by kernel_rfl
  i75 := by kernel_rfl
  i80 := by kernel_rfl
  i91 := by kernel_rfl
  i93 := by kernel_rfl
  i130 := by kernel_rfl
  i131 := by kernel_rfl
  m14 := by kernel_rfl }
open Go.RowKit in
theorem Tryz.Buffer_WriteByte_at (T : TypeId) (R : Nat → Option Value) (B b q : Nat) (bs : List Value) (c : Int) (w : World) (h : LibA.IsBuffer T R 5 B b q bs w) (hBw : B ≤ w.heap.size) (h1 : ∀ v ∈ bs, v.oneCell' = true) (hlim : bs.length + 1 ≤ 140737488355328) :
    Calls Tryz.prog 41 #[.pointer (some ⟨b, q, none⟩), .int .u8 c] w fun e w' => e = .returned .nilIface ∧ LibA.IsBuffer T R 5 B b q (bs ++ [.int .u8 c]) w' ∧ Below B w w' ∧ Lib.OthersKept 5 (some b) w w' := Any.Buffer_WriteByte_at Tryz.laysM179 T R B b q bs c w h hBw h1 hlim
def Tryz.laysM178_ren : Go.Shelf.Ren := ⟨fun | 178 => 43 | 251 => 73 | 252 => 74 | 181 => 96 | 184 => 97 | 290 => 98 | 324 => 112 | n => n, fun | 130 => 83 | 9 => 9 | 3 => 3 | 75 => 74 | 0 => 0 | 93 => 44 | 91 => 42 | 131 => 113 | 4 => 4 | 37 => 22 | 20 => 20 | 80 => 54 | 5 => 5 | n => n, fun | 14 => 0 | n => n⟩
theorem Tryz.laysM178 : Go.Proofs.LaysM.n178 Tryz.prog Tryz.laysM178_ren := {
  mixed := by kernel_rfl
  f178 := Tryz.func43.trans (congrArg some (by kernel_rfl))
  f181 := Tryz.func96.trans (congrArg some (by kernel_rfl))
  f184 := Tryz.func97.trans (congrArg some (by kernel_rfl))
  f251 := Tryz.func73.trans (congrArg some (by kernel_rfl))
  f252 := Tryz.func74.trans (congrArg some (by kernel_rfl))
  f290 := Tryz.func98.trans (congrArg some (by kernel_rfl))
  f324 := Tryz.func112.trans (congrArg some (by kernel_rfl))
  t0 := Tryz.underlying0
  a0 := Tryz.isAgg0
  z0 := Tryz.sizeOf0
  v0 := Tryz.zeroValue0
  t3 := Tryz.underlying3
  a3 := Tryz.isAgg3
  z3 := Tryz.sizeOf3
  v3 := Tryz.zeroValue3
  t4 := Tryz.underlying4
  a4 := Tryz.isAgg4
  z4 := Tryz.sizeOf4
  v4 := Tryz.zeroValue4
  t9 := Tryz.underlying9
  a9 := Tryz.isAgg9
  z9 := Tryz.sizeOf9
  v9 := Tryz.zeroValue9
  t20 := Tryz.underlying20
  a20 := Tryz.isAgg20
  z20 := Tryz.sizeOf20
  v20 := Tryz.zeroValue20
  t37 := Tryz.underlying22
  a37 := Tryz.isAgg22
  z37 := Tryz.sizeOf22
  v37 := Tryz.zeroValue22
  t75 := Tryz.underlying74
  a75 := Tryz.isAgg74
  z75 := Tryz.sizeOf74
  v75 := Tryz.zeroValue74
  t91 := Tryz.underlying42
  a91 := Tryz.isAgg42
  z91 := Tryz.sizeOf42
  v91 := Tryz.zeroValue42
  t93 := Tryz.underlying44
  a93 := Tryz.isAgg44
  z93 := Tryz.sizeOf44
  v93 := Tryz.zeroValue44
  t130 := Tryz.underlying83
  a130 := Tryz.isAgg83
  z130 := Tryz.sizeOf83
  v130 := Tryz.zeroValue83
  t131 := Tryz.underlying113
  a131 := Tryz.isAgg113
  z131 := Tryz.sizeOf113
  v131 := Tryz.zeroValue113
  g14 := by kernel_rfl
  t5 := Tryz.underlying5
  a5 := Tryz.isAgg5
  z5 := Tryz.sizeOf5
  v5 := Tryz.zeroValue5
  t80 := Tryz.underlying54
  a80 := Tryz.isAgg54
  z80 := Tryz.sizeOf54
  v80 := Tryz.zeroValue54
  i0 := by kernel_rfl
  i3 := by kernel_rfl
  i4 := by kernel_rfl
  i5 := by kernel_rfl
  i9 := by kernel_rfl
  i20 := by kernel_rfl
  i37 := by kernel_rfl
  i75 := by kernel_rfl
  i80 := by kernel_rfl
  i91 := by kernel_rfl
  i93 := by kernel_rfl
  i130 := by kernel_rfl
  i131 := by kernel_rfl
  m14 := by kernel_rfl }
open Go.RowKit in
theorem Tryz.Buffer_WriteString_at (T : TypeId) (R : Nat → Option Value) (B b q : Nat) (bs : List Value) (s : ByteArray) (w : World) (h : LibA.IsBuffer T R 5 B b q bs w) (hBw : B ≤ w.heap.size) (h1 : ∀ v ∈ bs, v.oneCell' = true) (hlim : bs.length + s.size ≤ 140737488355328) :
    Calls Tryz.prog 43 #[.pointer (some ⟨b, q, none⟩), .string s] w fun e w' => e = .returned (.tuple #[.int .i64 s.size, .nilIface]) ∧ LibA.IsBuffer T R 5 B b q (bs ++ Lib.byteCells s.data.toList) w' ∧ Below B w w' ∧ Lib.OthersKept 5 (some b) w w' := Any.Buffer_WriteString_at Tryz.laysM178 T R B b q bs s w h hBw h1 hlim
def Tryz.laysM182_ren : Go.Shelf.Ren := ⟨fun | 182 => 20 | n => n, fun | 130 => 83 | 9 => 9 | 4 => 4 | 0 => 0 | 93 => 44 | 37 => 22 | 3 => 3 | 91 => 42 | 5 => 5 | n => n, fun | n => n⟩
theorem Tryz.laysM182 : Go.Proofs.LaysM.n182 Tryz.prog Tryz.laysM182_ren := {
  mixed := by kernel_rfl
  f182 := Tryz.func20.trans (congrArg some (by kernel_rfl))
  t0 := Tryz.underlying0
  a0 := Tryz.isAgg0
  z0 := Tryz.sizeOf0
  v0 := Tryz.zeroValue0
  t3 := Tryz.underlying3
  a3 := Tryz.isAgg3
  z3 := Tryz.sizeOf3
  v3 := Tryz.zeroValue3
  t4 := Tryz.underlying4
  a4 := Tryz.isAgg4
  z4 := Tryz.sizeOf4
  v4 := Tryz.zeroValue4
  t9 := Tryz.underlying9
  a9 := Tryz.isAgg9
  z9 := Tryz.sizeOf9
  v9 := Tryz.zeroValue9
  t37 := Tryz.underlying22
  a37 := Tryz.isAgg22
  z37 := Tryz.sizeOf22
  v37 := Tryz.zeroValue22
  t93 := Tryz.underlying44
  a93 := Tryz.isAgg44
  z93 := Tryz.sizeOf44
  v93 := Tryz.zeroValue44
  t130 := Tryz.underlying83
  a130 := Tryz.isAgg83
  z130 := Tryz.sizeOf83
  v130 := Tryz.zeroValue83
  t5 := Tryz.underlying5
  a5 := Tryz.isAgg5
  z5 := Tryz.sizeOf5
  v5 := Tryz.zeroValue5
  t91 := Tryz.underlying42
  a91 := Tryz.isAgg42
  z91 := Tryz.sizeOf42
  v91 := Tryz.zeroValue42
  i0 := by kernel_rfl
  i3 := by kernel_rfl
  i4 := by kernel_rfl
  i5 := by kernel_rfl
  i9 := by kernel_rfl
  i37 := by kernel_rfl
  i91 := by kernel_rfl
  i93 := by kernel_rfl
  i130 := by kernel_rfl }
open Go.RowKit in
theorem Tryz.Buffer_String_at (T : TypeId) (R : Nat → Option Value) (B b q : Nat) (l : List UInt8) (w : World) (h : LibA.IsBuffer T R 5 B b q (Lib.byteCells l) w) :
    Calls Tryz.prog 20 #[.pointer (some ⟨b, q, none⟩)] w fun e w' => e = .returned (.string ⟨l.toArray⟩) ∧ ∃ n, w' = w.drewN n := Any.Buffer_String_at Tryz.laysM182 T R B b q l w h
end Go.Proofs
namespace Go.Proofs.YtchmmekhfcojgaaGreatDoor
open Go.RowKit

set_option maxHeartbeats 400000 in
theorem var_any (n : Int) (w : World) (h0 : 0 ≤ n) (h1 : n ≤ 1000000000) :
    Calls Tryz.prog 59 #[.int .i64 n] w fun e w' => e = .returned (.string (bs (varL n.toNat))) ∧ Below w.heap.size w w' := by
  go_enter Tryz.func59, Tryz.ntmps59
  go_wp2
  go_loopw [3, 0] (fun v i wr => ∃ (m : Nat) (pre : List UInt8), pre.length + m ≤ 1000000000 ∧ i = .int .i64 m ∧ Hid (varL n.toNat = pre ++ varL m) ∧ wr.ownsRow w.heap.size 5 1 v pre.length (cellsOf pre) ∧ Below w.heap.size w wr)
    (fun _ i _ => (intOf i).toNat)
  case atStart =>
    refine ⟨n.toNat, [], by simp; omega, by simp; omega, rfl, ?_, (Below.refl _ _).alloc (Nat.le_refl _) _⟩
    exact World.ownsRow_lit _ _ 0 (by simp) (by decide) rfl
  case round =>
    obtain ⟨m, pre, hm, rfl, hv, hown, hnx⟩ := hrel
    have hsz := hnx.size
    by_cases hlt : 127 < m
    · go_wp2_with (first
        | (at_builtin; refine wpList_append_bytes _ rfl _ _ 22 rfl w.heap.size 5 Tryz.underlying22 Tryz.info5 _ pre [hiB m] rfl (hown.alloc _) ⟨wr.heap.size, 0, none⟩ 1 rfl (news_one _ _ _ (byte_hi m)) (by simp; omega) (by simp; omega) ?_))
      intro v' w1 l' hl' hown' hgrow
      have hb := below_append _ hnx hown (Nat.le_refl _) hsz hgrow
      clear hgrow hnx hown
      go_wp2
      go_roundw
      case rel => exact ⟨m / 128, l', by rw [hl'.out]; simp; omega, by go_num, by rw [hv.out, varL_big hlt, hl'.out]; simp [Hid], hown', hb⟩
      case measure => simp [intOf]; omega
    · go_wp2_with (first
        | (at_builtin; refine wpList_append_bytes _ rfl _ _ 22 rfl w.heap.size 5 Tryz.underlying22 Tryz.info5 _ pre [loB m] rfl (hown.alloc _) ⟨wr.heap.size, 0, none⟩ 1 rfl (news_one _ _ _ (byte_lo m (by omega))) (by simp; omega) (by simp; omega) ?_))
      intro v' w1 l' hl' hown' hgrow
      have hb := below_append _ hnx hown (Nat.le_refl _) hsz hgrow
      clear hgrow hnx hown
      have hstr := run_str_own (P := Tryz.prog) 22 9 5 Tryz.underlying22 Tryz.underlying5 Tryz.underlying9 hown'
      go_wp2
      go_ret
      exact ⟨by rw [hv.out, varL_small (by omega), ← hl'.out]; rfl, hb⟩
end Go.Proofs.YtchmmekhfcojgaaGreatDoor
namespace Go.Proofs.YtchmmekhfcojgaaGreatDoor
open Go.RowKit

def byB (n : Int) : UInt8 := UInt8.ofNat n.toNat

def nearL (n : Nr) : List UInt8 := byB n.to :: varL n.c.toNat

def nearsL (ns : List Nr) : List UInt8 := ns.flatMap nearL

def headL (x : RecD) : List UInt8 := [byB x.area, byB x.kind, byB x.owner, byB x.key] ++ varL x.seq.toNat ++ varL x.near.length

def farL (f : Bool) : List UInt8 := if f then [1] else [0]

def recL (x : RecD) : List UInt8 := headL x ++ nearsL x.near ++ varL x.cost.toNat ++ farL x.far

def textV (x : RecD) : Value := if recOkB x = true then .tuple #[.string (bs (recL x)), .bool true] else .tuple #[.string (bs []), .bool false]

theorem textV_two (x : RecD) : ∃ (s : ByteArray) (b : Bool), textV x = .tuple #[.string s, .bool b] := by
  unfold textV; split <;> exact ⟨_, _, rfl⟩

theorem byB_val (n : Int) (h0 : 0 ≤ n) (h1 : n ≤ 255) : n = ((byB n).toNat : Int) := by simp [byB]; omega

theorem bs_add (a b : List UInt8) : bs a ++ bs b = bs (a ++ b) := by
  apply ByteArray.ext
  simp [bs]

theorem bs_size (l : List UInt8) : (bs l).size = l.length := by simp [bs, ByteArray.size]

theorem varL_len (n : Nat) : (varL n).length ≤ n + 1 := by
  induction n using Nat.strongRecOn with
  | _ n ih =>
    by_cases h : 127 < n
    · rw [varL_big h]
      have := ih (n / 128) (by omega)
      simp only [List.length_cons]
      omega
    · rw [varL_small (by omega)]; simp

theorem inB_iff {x a b : Int} : inB x a b = true ↔ a ≤ x ∧ x ≤ b := by simp [inB]

structure RecBounds (x : RecD) : Prop where
  area : 0 ≤ x.area ∧ x.area ≤ 9
  kind : 1 ≤ x.kind ∧ x.kind ≤ 3
  owner : 1 ≤ x.owner ∧ x.owner ≤ 6
  key : 0 ≤ x.key ∧ x.key ≤ 9
  seq : 1 ≤ x.seq ∧ x.seq ≤ 100000
  cost : 0 ≤ x.cost ∧ x.cost ≤ 60000
  near : ∀ n ∈ x.near, (1 ≤ n.to ∧ n.to ≤ 6) ∧ (1 ≤ n.c ∧ n.c ≤ 1000)

theorem near_bounds {o : Int} {ns : List Nr} (h : nearsB o ns = true) : ∀ n ∈ ns, (1 ≤ n.to ∧ n.to ≤ 6) ∧ (1 ≤ n.c ∧ n.c ≤ 1000) := by
  intro n hn
  unfold nearsB at h
  rw [Bool.and_eq_true] at h
  obtain ⟨k, hk, e⟩ := List.getElem_of_mem hn
  have h1 := List.all_eq_true.1 h.1 k (List.mem_range.2 hk)
  rw [okAt_eq (List.getElem?_eq_getElem hk), e] at h1
  unfold nearOkB at h1
  simp only [Bool.and_eq_true] at h1
  exact ⟨inB_iff.1 h1.1.1, inB_iff.1 h1.2⟩

theorem recOk_bounds {x : RecD} (h : recOkB x = true) : RecBounds x := by
  unfold recOkB at h
  simp only [Bool.and_eq_true] at h
  obtain ⟨⟨h1, h2⟩, h3⟩ := h
  have ho := inB_iff.1 h1
  have hs := inB_iff.1 h2
  split at h3
  · rename_i hk
    simp only [Bool.and_eq_true, beq_iff_eq] at h3
    obtain ⟨⟨⟨⟨ha, hy⟩, hn⟩, hc⟩, _⟩ := h3
    have ha := inB_iff.1 ha
    exact ⟨by omega, by omega, ho, by omega, hs, by omega, near_bounds hn⟩
  · split at h3
    · rename_i hk
      simp only [Bool.and_eq_true, beq_iff_eq] at h3
      obtain ⟨⟨⟨⟨ha, hy⟩, hn⟩, hc⟩, _⟩ := h3
      have ha := inB_iff.1 ha
      have hy := inB_iff.1 hy
      have hc := inB_iff.1 hc
      have : x.near = [] := List.length_eq_zero_iff.1 hn
      exact ⟨by omega, by omega, ho, by omega, hs, by omega, by rw [this]; simp⟩
    · split at h3
      · rename_i hk
        simp only [Bool.and_eq_true, Bool.or_eq_true, beq_iff_eq] at h3
        obtain ⟨⟨⟨ha, hy⟩, hn⟩, hc⟩ := h3
        have hy := inB_iff.1 hy
        have : x.near = [] := List.length_eq_zero_iff.1 hn
        have hc2 : 0 ≤ x.cost ∧ x.cost ≤ 60000 := by
          rcases hc with hc | hc
          · have := inB_iff.1 hc; omega
          · omega
        exact ⟨by omega, by omega, ho, by omega, hs, hc2, by rw [this]; simp⟩
      · cases h3

theorem nearsL_succ {ns : List Nr} {k : Nat} {l : Nr} (h : ns[k]? = some l) : nearsL (ns.take (k + 1)) = nearsL (ns.take k) ++ nearL l := by
  obtain ⟨hk, e⟩ := List.getElem?_eq_some_iff.1 h
  unfold nearsL
  rw [List.take_succ_eq_append_getElem hk, List.flatMap_append, e]
  simp

theorem nearL_len {n : Nr} (h : 1 ≤ n.c ∧ n.c ≤ 1000) : (nearL n).length ≤ 1002 := by
  have := varL_len n.c.toNat
  simp only [nearL, List.length_cons]
  omega

theorem nearsL_len {ns : List Nr} (h : ∀ n ∈ ns, (1 ≤ n.to ∧ n.to ≤ 6) ∧ (1 ≤ n.c ∧ n.c ≤ 1000)) : ∀ k, (nearsL (ns.take k)).length ≤ 1002 * k := by
  intro k
  induction k with
  | zero => simp [nearsL]
  | succ k ih =>
    by_cases hk : k < ns.length
    · rw [nearsL_succ (List.getElem?_eq_getElem hk), List.length_append]
      have := nearL_len (h _ (List.getElem_mem hk)).2
      omega
    · have e : ns.take (k + 1) = ns.take k := by rw [List.take_of_length_le (by omega), List.take_of_length_le (by omega)]
      rw [e]; omega

set_option maxRecDepth 100000 in
set_option maxHeartbeats 400000 in
theorem sbyte_any (n : Int) (w : World) (h0 : 0 ≤ n) (h1 : n ≤ 255) : Calls Tryz.prog 58 #[.int .i64 n] w fun e w' => e = .returned (.string (bs [byB n])) ∧ Below w.heap.size w w' := by
  have hw : IntKind.u8.wrap n = n := by rw [IntKind.wrap_u8]; omega
  have hown : (w.alloc (.cells #[.int .u8 n] 5)).ownsRow w.heap.size 5 1 (.slice (some ⟨w.heap.size, 0, none⟩) 1 1) [byB n].length (cellsOf [byB n]) := by
    have h := World.ownsRow_lit (base := w.heap.size) (e := 5) (size := 1) w #[.int .u8 n] 1 (by simp) (by decide) rfl
    rw [← one_byte n (byB n) (byB_val n h0 h1)]
    exact h
  have hstr := run_str_own (P := Tryz.prog) 22 9 5 Tryz.underlying22 Tryz.underlying5 Tryz.underlying9 hown
  clear hown
  go_enter Tryz.func58, Tryz.ntmps58
  go_wp2
  go_ret
  exact ⟨rfl, (Below.refl _ _).alloc (Nat.le_refl _) _⟩
end Go.Proofs.YtchmmekhfcojgaaGreatDoor
