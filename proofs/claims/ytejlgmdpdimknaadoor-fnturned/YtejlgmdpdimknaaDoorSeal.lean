/-
  spec.l02Four, the method text; spec.Sealed, impl.Sealed: their contracts.
-/
import Derived.Test.YtejlgmdpdimknaaDoorSumI
namespace Go.Proofs.YtejlgmdpdimknaaDoor
open Go.RowKit

def fourL (x : Nat) : List UInt8 := [UInt8.ofNat (x / 16777216), UInt8.ofNat (x / 65536), UInt8.ofNat (x / 256), UInt8.ofNat x]

theorem fourL_len (x : Nat) : (fourL x).length = 4 := rfl

theorem fourL_inj {x y : Nat} (hx : x < 4294967296) (hy : y < 4294967296) (h : fourL x = fourL y) : x = y := by
  unfold fourL at h
  simp only [List.cons.injEq, and_true] at h
  obtain ⟨a, b, c, d⟩ := h
  have a' := congrArg UInt8.toNat a
  have b' := congrArg UInt8.toNat b
  have c' := congrArg UInt8.toNat c
  have d' := congrArg UInt8.toNat d
  simp at a' b' c' d'
  omega

/-- 'string' of the four bytes just made -/
theorem run_four (x : Nat) (hx : x < 4294967296) (w : World) (a b c d : Int) (ha : a = (x : Int) / 16777216) (hb : b = (x : Int) / 65536 % 256) (hc : c = (x : Int) / 256 % 256) (hd : d = (x : Int) % 256) :
    (convert 29 9 (.slice (some ⟨w.heap.size, 0, none⟩) 4 4)).run Tryd.prog (w.alloc (.cells #[.int .u8 a, .int .u8 b, .int .u8 c, .int .u8 d] 5)) =
      .ok (.string (bs (fourL x))) (w.alloc (.cells #[.int .u8 a, .int .u8 b, .int .u8 c, .int .u8 d] 5)) := by
  refine run_convert_bytes_back _ 29 9 5 ⟨w.heap.size, 0, none⟩ 4 (fourL x) Tryd.underlying29 Tryd.underlying5 Tryd.underlying9 (fun j hj => ?_)
  have hj4 : j < 4 := hj
  have e1 : (⟨w.heap.size, 0, none⟩ : Addr).add j = ⟨w.heap.size, j, none⟩ := by
    simp only [Addr.add, Nat.zero_add]
    split <;> simp_all
  rw [e1, World.cell?_alloc_at _ _ _ _ rfl]
  have : j = 0 ∨ j = 1 ∨ j = 2 ∨ j = 3 := by omega
  rcases this with rfl | rfl | rfl | rfl
  · simp [fourL]; omega
  · simp [fourL]; omega
  · simp [fourL]; omega
  · simp [fourL]; omega

set_option maxRecDepth 100000 in
set_option maxHeartbeats 1000000 in
theorem sfour_any (x : Nat) (w : World) (hx : x < 4294967296) :
    Calls Tryd.prog 20 #[.int .u32 (x : Int)] w fun e w' => e = .returned (.string (bs (fourL x))) ∧ Below w.heap.size w w' := by
  have h4 := run_four x hx w _ _ _ _ rfl rfl rfl rfl
  generalize bs (fourL x) = t at h4 ⊢
  go_enter Tryd.func20, Tryd.ntmps20
  go_wp2
  go_ret
  exact ⟨rfl, (Below.refl _ _).alloc (Nat.le_refl _) _⟩

set_option maxRecDepth 100000 in
set_option maxHeartbeats 1000000 in
theorem ifour_any (x : Nat) (w : World) (hx : x < 4294967296) :
    Calls Tryd.prog 21 #[.int .u32 (x : Int)] w fun e w' => e = .returned (.string (bs (fourL x))) ∧ Below w.heap.size w w' := by
  have h4 := run_four x hx w _ _ _ _ rfl rfl rfl rfl
  generalize bs (fourL x) = t at h4 ⊢
  go_enter Tryd.func21, Tryd.ntmps21
  go_wp2
  go_ret
  exact ⟨rfl, (Below.refl _ _).alloc (Nat.le_refl _) _⟩

def sumS (s : ByteArray) : Nat := upL 4294967295 s.data.toList

theorem sumS_lt (s : ByteArray) : sumS s < 4294967296 := upL_lt _ _ (by omega)

def seV (s : ByteArray) : Value := if s.size ≤ 20000 then .tuple #[.string (s ++ bs (fourL (sumS s))), .bool true] else .tuple #[.string (bs []), .bool false]

theorem seV_two (s : ByteArray) : ∃ (t : ByteArray) (c : Bool), seV s = .tuple #[.string t, .bool c] := by
  unfold seV
  split <;> exact ⟨_, _, rfl⟩

set_option maxRecDepth 100000 in
set_option maxHeartbeats 1000000 in
theorem sse_any (s : ByteArray) (w : World) (hs : s.size ≤ 1048576) :
    Calls Tryd.prog 12 #[.string s] w fun e w' => e = .returned (seV s) ∧ Below w.heap.size w w' := by
  by_cases h : (20000 : Int) < (s.size : Int)
  · have e : seV s = .tuple #[.string (bs []), .bool false] := by unfold seV; rw [if_neg (by omega)]
    rw [e]
    clear e
    go_enter Tryd.func12, Tryd.ntmps12
    go_wp2
    go_ret2
    exact ⟨rfl, Below.refl _ _⟩
  · have hl := sumS_lt s
    have h1 := sso_any s w (by omega)
    rw [show upL 4294967295 s.data.toList = sumS s from rfl] at h1
    have e : seV s = .tuple #[.string (s ++ bs (fourL (sumS s))), .bool true] := by unfold seV; rw [if_pos (by omega)]
    rw [e]
    clear e
    generalize sumS s = x at h1 hl ⊢
    obtain ⟨t, ht⟩ : ∃ t, t = bs (fourL x) := ⟨_, rfl⟩
    have htz : t.size = 4 := by rw [ht]; rfl
    go_enter Tryd.func12, Tryd.ntmps12
    go_wp2_with fail
    refine h1.mono ?_
    rintro e w1 ⟨rfl, rfl⟩
    clear h1
    go_wp2_with fail
    refine (sfour_any x _ hl).mono ?_
    rw [← ht]
    rintro e w1 ⟨rfl, b1⟩
    have HT := hide ht
    clear ht
    go_wp2
    go_ret2
    exact ⟨by rw [← HT.out]; rfl, b1⟩

set_option maxRecDepth 100000 in
set_option maxHeartbeats 1000000 in
theorem ise_any (s : ByteArray) (w : World) (hs : s.size ≤ 1048576) (hT : Steps w) :
    Calls Tryd.prog 13 #[.string s] w fun e w' => e = .returned (seV s) ∧ Below w.heap.size w w' := by
  by_cases h : (20000 : Int) < (s.size : Int)
  · have e : seV s = .tuple #[.string (bs []), .bool false] := by unfold seV; rw [if_neg (by omega)]
    rw [e]
    clear e hT
    go_enter Tryd.func13, Tryd.ntmps13
    go_wp2
    go_ret2
    exact ⟨rfl, Below.refl _ _⟩
  · have hl := sumS_lt s
    have h1 := iso_any s w (by omega) hT
    rw [show upL 4294967295 s.data.toList = sumS s from rfl] at h1
    have e : seV s = .tuple #[.string (s ++ bs (fourL (sumS s))), .bool true] := by unfold seV; rw [if_pos (by omega)]
    rw [e]
    clear e hT
    generalize sumS s = x at h1 hl ⊢
    obtain ⟨t, ht⟩ : ∃ t, t = bs (fourL x) := ⟨_, rfl⟩
    have htz : t.size = 4 := by rw [ht]; rfl
    go_enter Tryd.func13, Tryd.ntmps13
    go_wp2_with fail
    refine h1.mono ?_
    rintro e w1 ⟨rfl, rfl⟩
    clear h1
    go_wp2_with fail
    refine (ifour_any x _ hl).mono ?_
    rw [← ht]
    rintro e w1 ⟨rfl, b1⟩
    have HT := hide ht
    clear ht
    go_wp2
    go_ret2
    exact ⟨by rw [← HT.out]; rfl, b1⟩
end Go.Proofs.YtejlgmdpdimknaaDoor
