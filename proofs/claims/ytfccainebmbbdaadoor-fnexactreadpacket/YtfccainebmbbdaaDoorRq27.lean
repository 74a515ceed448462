/-
  Contracts of the library, laid at this program: stringslite_Clone.
  strings.Clone: its contract.
  impl.ReadShort: its contract.
-/
import Derived.Shelf.LaysM
import Derived.Shelf.Strconv.Clone
import Derived.Test.YtfccainebmbbdaaDoorProg
import Derived.Test.YtfccainebmbbdaaDoorRq1
import Derived.Test.YtfccainebmbbdaaDoorRq3
namespace Go.Proofs
open Go.Shelf
def Tryd.laysM316_ren : Go.Shelf.Ren := ⟨fun | 316 => 54 | n => n, fun | 9 => 9 | 3 => 3 | 4 => 4 | 37 => 57 | 0 => 0 | 127 => 87 | 5 => 5 | n => n, fun | n => n⟩
theorem Tryd.laysM316 : Go.Proofs.LaysM.n316 Tryd.prog Tryd.laysM316_ren := {
  mixed := by kernel_rfl
  f316 := Tryd.func54.trans (congrArg some (by kernel_rfl))
  t0 := Tryd.underlying0
  a0 := Tryd.isAgg0
  z0 := Tryd.sizeOf0
  v0 := Tryd.zeroValue0
  t3 := Tryd.underlying3
  a3 := Tryd.isAgg3
  z3 := Tryd.sizeOf3
  v3 := Tryd.zeroValue3
  t4 := Tryd.underlying4
  a4 := Tryd.isAgg4
  z4 := Tryd.sizeOf4
  v4 := Tryd.zeroValue4
  t9 := Tryd.underlying9
  a9 := Tryd.isAgg9
  z9 := Tryd.sizeOf9
  v9 := Tryd.zeroValue9
  t37 := Tryd.underlying57
  a37 := Tryd.isAgg57
  z37 := Tryd.sizeOf57
  v37 := Tryd.zeroValue57
  t127 := Tryd.underlying87
  a127 := Tryd.isAgg87
  z127 := Tryd.sizeOf87
  v127 := Tryd.zeroValue87
  t5 := Tryd.underlying5
  a5 := Tryd.isAgg5
  z5 := Tryd.sizeOf5
  v5 := Tryd.zeroValue5
  i0 := by kernel_rfl
  i3 := by kernel_rfl
  i4 := by kernel_rfl
  i5 := by kernel_rfl
  i9 := by kernel_rfl
  i37 := by kernel_rfl
  i127 := by kernel_rfl }
open Go.RowKit in
theorem Tryd.stringslite_Clone (s : ByteArray) (w : World) (hlim : s.size ≤ 281474976710656) :
    Calls Tryd.prog 54 #[.string s] w fun e w' => e = .returned (.string s) ∧ Below w.heap.size w w' := Any.stringslite_Clone Tryd.laysM316 s w hlim
end Go.Proofs
namespace Go.Proofs.YtfccainebmbbdaaDoor
open Go.RowKit

set_option maxHeartbeats 400000 in
theorem clone_any (s : ByteArray) (w : World) (hs : s.size ≤ 1048576) : Calls Tryd.prog 35 #[.string s] w fun e w' => e = .returned (.string s) ∧ Below w.heap.size w w' := by
  go_enter Tryd.func35, Tryd.ntmps35
  go_wp2_with (first | (go_at_call 54; refine (Tryd.stringslite_Clone _ _ (by omega)).mono ?_; rintro e w' ⟨rfl, hb⟩))
  go_ret
  exact ⟨rfl, hb⟩
end Go.Proofs.YtfccainebmbbdaaDoor
namespace Go.Proofs.YtfccainebmbbdaaDoor
open Go.RowKit


def rdR (s : ByteArray) (x : Int) : Option (Nat × Nat) := if 0 ≤ x ∧ x ≤ (s.size : Int) then (rdO s x.toNat).map (fun y => (y.1, x.toNat + y.2)) else none

def shO (s : ByteArray) (x : Int) : Option (ByteArray × Nat) := (rdR s x).bind fun y => if y.1 ≤ 20000 ∧ y.2 + y.1 ≤ s.size then some (s.extract y.2 (y.2 + y.1), y.2 + y.1) else none

def shT : Option (ByteArray × Nat) → Value
  | some y => .tuple #[.string y.1, .int .i64 (y.2 : Int), .bool true]
  | none => .tuple #[.string (bs []), .int .i64 0, .bool false]

def shV (s : ByteArray) (x : Int) : Value := shT (shO s x)

theorem rdA_bound : ∀ (f : Nat) (pre l : List UInt8) (v k : Nat), rdA f pre l = some (v, k) → k ≤ pre.length + l.length
  | 0, _, _, _, _, h => by simp [rdA] at h
  | f + 1, pre, [], _, _, h => by simp [rdA] at h
  | f + 1, pre, c :: r, v, k, h => by
    simp only [rdA] at h
    split at h
    · have := rdA_bound f (pre ++ [c]) r v k h
      simp at this ⊢
      omega
    · split at h
      · cases h
      · simp at h
        simp
        omega

/-- the two shapes of what ReadVar answers -/
theorem rdV_shape (s : ByteArray) (x : Int) : (rdV s x = .tuple #[.int .i64 0, .int .i64 0, .bool false] ∧ rdR s x = none) ∨ ∃ n f : Nat, rdV s x = .tuple #[.int .i64 n, .int .i64 f, .bool true] ∧ f ≤ s.size ∧ rdR s x = some (n, f) := by
  unfold rdV rdR
  split
  · rename_i hx
    cases h : rdO s x.toNat with
    | none => exact .inl ⟨rfl, rfl⟩
    | some y =>
      refine .inr ⟨y.1, x.toNat + y.2, rfl, ?_, rfl⟩
      have := rdA_bound 5 [] _ y.1 y.2 h
      simp at this
      omega
  · exact .inl ⟨rfl, rfl⟩

theorem shV_none {s : ByteArray} {x : Int} (h : rdR s x = none) : shV s x = .tuple #[.string (bs []), .int .i64 0, .bool false] := by
  unfold shV shO; rw [h]; rfl

theorem shV_no {s : ByteArray} {x : Int} {n f : Nat} (h : rdR s x = some (n, f)) (h2 : ¬ (n ≤ 20000 ∧ f + n ≤ s.size)) : shV s x = .tuple #[.string (bs []), .int .i64 0, .bool false] := by
  unfold shV shO; rw [h]; simp only [Option.bind_some, if_neg h2]; rfl

theorem shV_yes {s : ByteArray} {x : Int} {n f : Nat} (h : rdR s x = some (n, f)) (h2 : n ≤ 20000 ∧ f + n ≤ s.size) : shV s x = .tuple #[.string (s.extract f (f + n)), .int .i64 ((f : Int) + (n : Int)), .bool true] := by
  unfold shV shO; rw [h]; simp only [Option.bind_some, if_pos h2]; rfl

theorem extract_size (s : ByteArray) (a b : Nat) : (s.extract a b).size ≤ s.size := by simp; omega

set_option maxRecDepth 100000 in
set_option maxHeartbeats 400000 in
theorem ish_any (s : ByteArray) (x : Int) (w : World) (hs : s.size ≤ 1048576) :
    Calls Tryd.prog 67 #[.string s, .int .i64 x] w fun e w' => e = .returned (shV s x) ∧ Below w.heap.size w w' := by
  rcases rdV_shape s x with ⟨h, hr⟩ | ⟨n, f, h, hf, hr⟩
  · rw [shV_none hr]
    go_enter Tryd.func67, Tryd.ntmps67
    go_wp2_with (first | (go_at_call 76; refine (irv_any _ _ _ hs).mono ?_; rw [h]; rintro e w1 ⟨rfl, hb1⟩))
    go_ret3
    exact ⟨rfl, hb1⟩
  by_cases h1 : (20000 : Int) < (n : Int)
  · rw [shV_no hr (by omega)]
    go_enter Tryd.func67, Tryd.ntmps67
    go_wp2_with (first | (go_at_call 76; refine (irv_any _ _ _ hs).mono ?_; rw [h]; rintro e w1 ⟨rfl, hb1⟩))
    go_ret3
    exact ⟨rfl, hb1⟩
  by_cases h2 : (s.size : Int) - (f : Int) < (n : Int)
  · rw [shV_no hr (by omega)]
    go_enter Tryd.func67, Tryd.ntmps67
    go_wp2_with (first | (go_at_call 76; refine (irv_any _ _ _ hs).mono ?_; rw [h]; rintro e w1 ⟨rfl, hb1⟩))
    go_ret3
    exact ⟨rfl, hb1⟩
  rw [shV_yes hr (by omega)]
  obtain ⟨t, ht⟩ : ∃ t : ByteArray, t = s.extract f (f + n) := ⟨_, rfl⟩
  have hsl := sl_str Tryd.underlying9 s t (f : Int) ((f : Int) + (n : Int)) (by omega) (by omega) (by omega) (by rw [ht]; rfl)
  have htz : t.size ≤ 1048576 := by rw [ht]; exact Nat.le_trans (extract_size _ _ _) hs
  rw [← ht]
  clear ht
  go_enter Tryd.func67, Tryd.ntmps67
  go_wp2_with (first | (go_at_call 76; refine (irv_any _ _ _ hs).mono ?_; rw [h]; rintro e w1 ⟨rfl, hb1⟩) | (go_at_call 35; refine (clone_any _ _ htz).mono ?_; rintro e w2 ⟨rfl, hb2⟩))
  go_ret3
  exact ⟨rfl, hb1.trans (hb2.mono hb1.size)⟩

theorem shV_three (s : ByteArray) (x : Int) : ∃ (t : ByteArray) (b : Int) (c : Bool), shV s x = .tuple #[.string t, .int .i64 b, .bool c] := by
  unfold shV
  cases shO s x <;> exact ⟨_, _, _, rfl⟩
end Go.Proofs.YtfccainebmbbdaaDoor
