/-
  The plain mathematics of sums: eight halvings for a byte, the short table, one byte turned makes another sum.
  spec.SumMore, spec.SumOf: their contracts.
  impl.SumMore, impl.SumOf, and what they call: their contracts.
  spec.l02Four, the method text; spec.Sealed, impl.Sealed: their contracts.
  The bytes of a packet.
-/
import Derived.Test.YtchmmekhfcojgaaGreatDoorPq1
import Derived.Lib.LaidTab
import Derived.Test.YtchmmekhfcojgaaGreatDoorPq11
import Derived.Test.YtchmmekhfcojgaaGreatDoorPq22
import Derived.Test.YtchmmekhfcojgaaGreatDoorPq18
namespace Go.Proofs.YtchmmekhfcojgaaGreatDoor
open Go.RowKit

def st (x : Nat) : Nat := if x % 2 = 1 then x / 2 ^^^ 3558460437 else x / 2

theorem st_xor (a b : Nat) : st (a ^^^ b) = st a ^^^ st b := by
  have h1 : (a ^^^ b) / 2 = a / 2 ^^^ b / 2 := Nat.xor_div_two
  have h2 : ((a ^^^ b) % 2 = 1) ↔ ¬ ((a % 2 = 1) ↔ (b % 2 = 1)) := Nat.xor_mod_two_eq_one
  unfold st
  rw [h1]
  have ha : a % 2 = 0 ∨ a % 2 = 1 := by omega
  have hb : b % 2 = 0 ∨ b % 2 = 1 := by omega
  rcases ha with ha | ha <;> rcases hb with hb | hb
  · rw [if_neg (by omega), if_neg (by omega), if_neg (by omega)]
  · rw [if_pos (by omega), if_neg (by omega), if_pos (by omega)]; ac_rfl
  · rw [if_pos (by omega), if_pos (by omega), if_neg (by omega)]; ac_rfl
  · rw [if_neg (by omega), if_pos (by omega), if_pos (by omega)]
    rw [show a / 2 ^^^ 3558460437 ^^^ (b / 2 ^^^ 3558460437) = (a / 2 ^^^ b / 2) ^^^ (3558460437 ^^^ 3558460437) by ac_rfl, Nat.xor_self, Nat.xor_zero]

theorem st_lt (x : Nat) (h : x < 4294967296) : st x < 4294967296 := by
  unfold st
  split
  · exact Nat.xor_lt_two_pow (n := 32) (by omega) (by omega)
  · omega

def tab16 : List Nat := [0x00000000, 0x4589ac8d, 0x8b13591a, 0xce9af597, 0xbe152a1f, 0xfb9c8692, 0x35067305, 0x708fdf88, 0xd419cc15, 0x91906098, 0x5f0a950f, 0x1a833982, 0x6a0ce60a, 0x2f854a87, 0xe11fbf10, 0xa496139d]

theorem st_even (y : Nat) : st (2 * y) = y := by unfold st; rw [if_neg (by omega)]; omega
theorem four_st (x : Nat) : st (st (st (st x))) = x / 16 ^^^ tab16.getD (x % 16) 0 := by
  have hx : x = 16 * (x / 16) ^^^ (x % 16) := by
    have := Nat.two_pow_add_eq_or_of_lt (i := 4) (b := x % 16) (by omega) (x / 16)
    have h2 : (2 ^ 4 * (x / 16)) ||| (x % 16) = 16 * (x / 16) ^^^ (x % 16) := by
      rw [show (16 : Nat) * (x / 16) = 2 ^ 4 * (x / 16) from rfl]
      apply Nat.eq_of_testBit_eq
      intro i
      rw [Nat.testBit_or, Nat.testBit_xor, Nat.testBit_two_pow_mul]
      by_cases hi : 4 ≤ i
      · have : (x % 16).testBit i = false := Nat.testBit_lt_two_pow (Nat.lt_of_lt_of_le (by omega) (Nat.pow_le_pow_right (by omega : 0 < 2) hi))
        simp [this]
      · simp [hi]
    omega
  generalize x / 16 = y at *
  have hr : x % 16 < 16 := by omega
  generalize x % 16 = r at *
  subst hx
  simp only [st_xor]
  have e : st (st (st (st (16 * y)))) = y := by
    rw [show 16 * y = 2 * (2 * (2 * (2 * y))) by omega, st_even, st_even, st_even, st_even]
  rw [e]
  congr 1
  have key : ∀ r : Fin 16, st (st (st (st r.val))) = tab16.getD r.val 0 := by decide
  exact key ⟨r, hr⟩

def upB (x : Nat) (b : UInt8) : Nat := st (st (st (st (st (st (st (st (x ^^^ b.toNat))))))))

def upL (x : Nat) (l : List UInt8) : Nat := l.foldl upB x

theorem st_zero {x : Nat} (h : x < 4294967296) (h0 : st x = 0) : x = 0 := by
  unfold st at h0
  split at h0
  · exfalso
    have : x / 2 = 3558460437 := by
      have e : x / 2 ^^^ 3558460437 ^^^ 3558460437 = 0 ^^^ 3558460437 := by rw [h0]
      rw [Nat.xor_assoc, Nat.xor_self, Nat.xor_zero, Nat.zero_xor] at e
      exact e
    omega
  · omega

theorem xor_zero_eq {a b : Nat} (h : a ^^^ b = 0) : a = b := by
  have e : a ^^^ b ^^^ b = 0 ^^^ b := by rw [h]
  rw [Nat.xor_assoc, Nat.xor_self, Nat.xor_zero, Nat.zero_xor] at e
  exact e

theorem st_inj {a b : Nat} (ha : a < 4294967296) (hb : b < 4294967296) (h : st a = st b) : a = b := by
  apply xor_zero_eq
  apply st_zero (Nat.xor_lt_two_pow (n := 32) ha hb)
  rw [st_xor, h, Nat.xor_self]

theorem upB_lt (x : Nat) (b : UInt8) (h : x < 4294967296) : upB x b < 4294967296 := by
  have hb : b.toNat < 4294967296 := by have := b.toNat_lt; omega
  have := Nat.xor_lt_two_pow (n := 32) h hb
  unfold upB
  exact st_lt _ (st_lt _ (st_lt _ (st_lt _ (st_lt _ (st_lt _ (st_lt _ (st_lt _ this)))))))

theorem upB_inj {x y : Nat} {b c : UInt8} (hx : x < 4294967296) (hy : y < 4294967296) (h : upB x b = upB y c) : x ^^^ b.toNat = y ^^^ c.toNat := by
  have hb : b.toNat < 4294967296 := by have := b.toNat_lt; omega
  have hc : c.toNat < 4294967296 := by have := c.toNat_lt; omega
  have h1 := Nat.xor_lt_two_pow (n := 32) hx hb
  have h2 := Nat.xor_lt_two_pow (n := 32) hy hc
  unfold upB at h
  have k := @st_lt
  exact st_inj h1 h2 (st_inj (k _ h1) (k _ h2) (st_inj (k _ (k _ h1)) (k _ (k _ h2)) (st_inj (k _ (k _ (k _ h1))) (k _ (k _ (k _ h2))) (st_inj (k _ (k _ (k _ (k _ h1)))) (k _ (k _ (k _ (k _ h2)))) (st_inj (k _ (k _ (k _ (k _ (k _ h1))))) (k _ (k _ (k _ (k _ (k _ h2))))) (st_inj (k _ (k _ (k _ (k _ (k _ (k _ h1)))))) (k _ (k _ (k _ (k _ (k _ (k _ h2)))))) (st_inj (k _ (k _ (k _ (k _ (k _ (k _ (k _ h1))))))) (k _ (k _ (k _ (k _ (k _ (k _ (k _ h2))))))) h)))))))

theorem upL_lt (l : List UInt8) : ∀ (x : Nat), x < 4294967296 → upL x l < 4294967296 := by
  induction l with
  | nil => intro x h; exact h
  | cons b l ih => intro x h; exact ih _ (upB_lt x b h)

theorem upL_inj (l : List UInt8) : ∀ {x y : Nat}, x < 4294967296 → y < 4294967296 → upL x l = upL y l → x = y := by
  induction l with
  | nil => intro x y _ _ h; exact h
  | cons b l ih =>
    intro x y hx hy h
    have := ih (upB_lt x b hx) (upB_lt y b hy) h
    have e := upB_inj hx hy this
    have e2 : x ^^^ b.toNat ^^^ b.toNat = y ^^^ b.toNat ^^^ b.toNat := by rw [e]
    rw [Nat.xor_assoc, Nat.xor_self, Nat.xor_zero, Nat.xor_assoc, Nat.xor_self, Nat.xor_zero] at e2
    exact e2

/-- one byte turned: another sum -/
theorem upL_turn (p q : List UInt8) (b c : UInt8) (x : Nat) (hx : x < 4294967296) (h : upL x (p ++ b :: q) = upL x (p ++ c :: q)) : b = c := by
  simp only [upL, List.foldl_append, List.foldl_cons] at h
  have h1 := upL_lt p x hx
  have e := upL_inj q (upB_lt _ b h1) (upB_lt _ c h1) h
  have e2 := upB_inj h1 h1 e
  have e3 : upL x p ^^^ (upL x p ^^^ b.toNat) = upL x p ^^^ (upL x p ^^^ c.toNat) := by rw [e2]
  rw [← Nat.xor_assoc, Nat.xor_self, Nat.zero_xor, ← Nat.xor_assoc, Nat.xor_self, Nat.zero_xor] at e3
  exact UInt8.toNat_inj.1 e3

theorem xor_u32 (x y : Nat) (hx : x < 4294967296) (hy : y < 4294967296) : bits .xor .u32 (x : Int) (y : Int) = ((x ^^^ y : Nat) : Int) := by
  have e : bits .xor .u32 (x : Int) (y : Int) = IntKind.u32.wrap ((BitVec.ofInt 32 (x : Int) ^^^ BitVec.ofInt 32 (y : Int)).toNat : Nat) := rfl
  have h : x ^^^ y < 4294967296 := Nat.xor_lt_two_pow (n := 32) hx hy
  rw [e, BitVec.toNat_xor]
  simp only [BitVec.ofInt_natCast, BitVec.toNat_ofNat]
  rw [Nat.mod_eq_of_lt hx, Nat.mod_eq_of_lt hy]
  simp only [IntKind.wrap, IntKind.signed, IntKind.bits]
  simp
  omega
end Go.Proofs.YtchmmekhfcojgaaGreatDoor
namespace Go.Proofs.YtchmmekhfcojgaaGreatDoor
open Go.RowKit

def stN : Nat → Nat → Nat
  | 0, x => x
  | k + 1, x => st (stN k x)

theorem stN_lt : ∀ (k x : Nat), x < 4294967296 → stN k x < 4294967296
  | 0, _, h => h
  | k + 1, x, h => st_lt _ (stN_lt k x h)

theorem upL_snoc (x : Nat) (l : List UInt8) (b : UInt8) : upL x (l ++ [b]) = upB (upL x l) b := by simp [upL]

theorem take_snoc (l : List UInt8) (k : Nat) (h : k < l.length) : l.take (k + 1) = l.take k ++ [l[k]] := by simp

set_option maxRecDepth 100000 in
set_option maxHeartbeats 1000000 in
theorem ssm_any (x : Nat) (s : ByteArray) (w : World) (hx : x < 4294967296) (hs : s.size ≤ 100000000) :
    Calls Tryz.prog 93 #[.int .u32 (x : Int), .string s] w fun e w' => e = .returned (.int .u32 ((upL x s.data.toList : Nat) : Int)) ∧ w = w' := by
  go_enter Tryz.func93, Tryz.ntmps93
  go_wp2
  go_loop [0, 5] (fun v i => ∃ k y : Nat, k ≤ s.size ∧ i = .int .i64 k ∧ v = .int .u32 (y : Int) ∧ Hid (y = upL x (s.data.toList.take k))) (fun _ i => s.size - (intOf i).toNat)
  case atStart => exact ⟨0, x, by omega, rfl, rfl, rfl⟩
  case round =>
    obtain ⟨k, y, hk, rfl, rfl, hy⟩ := hrel
    have hy2 : y < 4294967296 := by rw [hy.out]; exact upL_lt _ _ hx
    by_cases hlt : k < s.size
    · have hb := (s[k]).toNat_lt
      have hxor := xor_u32 y (s[k]).toNat hy2 (by omega)
      obtain ⟨z, hz⟩ : ∃ z : Nat, z = y ^^^ (s[k]).toNat := ⟨_, rfl⟩
      have hz2 : z < 4294967296 := by rw [hz]; exact Nat.xor_lt_two_pow (n := 32) hy2 (by omega)
      have hup : stN 8 z = upL x (s.data.toList.take (k + 1)) := by
        have hk' : k < s.data.toList.length := by simpa using hlt
        rw [take_snoc _ _ hk', upL_snoc, ← hy.out, hz]
        rfl
      rw [← hz] at hxor
      have HUP := hide hup
      clear hup hz
      go_wp2
      go_loop [0, 6] (fun v i => ∃ j c : Nat, j ≤ 8 ∧ i = .int .i64 j ∧ v = .int .u32 (c : Int) ∧ Hid (c = stN j z)) (fun _ i => 8 - (intOf i).toNat)
      case atStart => exact ⟨0, z, by omega, rfl, rfl, rfl⟩
      case round =>
        obtain ⟨j, c, hj, rfl, rfl, hc⟩ := hrel
        by_cases hj8 : j < 8
        · have hc2 : c < 4294967296 := by rw [hc.out]; exact stN_lt _ _ hz2
          have hst : st c = stN (j + 1) z := by rw [hc.out]; rfl
          have HST := hide hst
          clear hst hxor
          by_cases hodd : c % 2 = 1
          · have h1 : (c : Int) % 2 = 1 := by omega
            have h2 := xor_u32 (c / 2) 3558460437 (by omega) (by omega)
            have h3 : st c = c / 2 ^^^ 3558460437 := by unfold st; rw [if_pos hodd]
            simp at h2
            go_wp2
            go_round
            case rel => exact ⟨j + 1, c / 2 ^^^ 3558460437, by omega, by go_num, by simp, (by rw [← h3]; exact HST.out)⟩
            case measure => simp [intOf]; omega
          · have h1 : (c : Int) % 2 = 0 := by omega
            have h3 : st c = c / 2 := by unfold st; rw [if_neg hodd]
            go_wp2
            go_round
            case rel => exact ⟨j + 1, c / 2, by omega, by go_num, by simp, (by rw [← h3]; exact HST.out)⟩
            case measure => simp [intOf]; omega
        · obtain rfl : j = 8 := by omega
          clear hxor
          go_wp2
          go_round
          case rel => exact ⟨k + 1, c, by omega, by go_num, rfl, by rw [← HUP.out]; exact hc.out⟩
          case measure => simp [intOf]; omega
    · have hfin : y = upL x s.data.toList := by rw [hy.out, List.take_of_length_le (by simp; omega)]
      have HF := hide hfin
      clear hfin
      go_wp2
      go_ret
      exact ⟨by rw [HF.out]; rfl, rfl⟩

set_option maxHeartbeats 400000 in
theorem sso_any (s : ByteArray) (w : World) (hs : s.size ≤ 100000000) :
    Calls Tryz.prog 67 #[.string s] w fun e w' => e = .returned (.int .u32 ((upL 4294967295 s.data.toList : Nat) : Int)) ∧ w = w' := by
  obtain ⟨t, ht⟩ : ∃ t : Nat, t = upL 4294967295 s.data.toList := ⟨_, rfl⟩
  have hc := ssm_any 4294967295 s w (by omega) hs
  rw [← ht] at hc ⊢
  go_enter Tryz.func67, Tryz.ntmps67
  go_wp2_with fail
  refine hc.mono ?_
  rintro e w' ⟨rfl, rfl⟩
  have HT := hide ht
  clear ht hc
  go_wp2
  go_ret
  exact ⟨rfl, rfl⟩
end Go.Proofs.YtchmmekhfcojgaaGreatDoor
namespace Go.Proofs.YtchmmekhfcojgaaGreatDoor
open Go.RowKit

def stepTab : List Int := [0, 1166650509, 2333301018, 3466261911, 3189058079, 4221339282, 889615109, 1888477064, 3558460437, 2442158232, 1594529039, 444807554, 1779230218, 797264519, 3776954128, 2761298845]

def Steps (w : World) : Prop := Lib.TabIs Tryz.prog w "loop.example/g00177/impl.sumSteps" .u32 stepTab

theorem gSteps : Tryz.prog.globalNamed "loop.example/g00177/impl.sumSteps" = some 1 := by kernel_rfl

theorem step_cell {w : World} (h : Steps w) (i : Nat) (hi : i < 16) : w.cell? ⟨1, i, none⟩ = some (.int .u32 ((tab16.getD i 0 : Nat) : Int)) := by
  have key : ∀ r : Fin 16, stepTab.getD r.val 0 = ((tab16.getD r.val 0 : Nat) : Int) := by decide
  rw [← key ⟨i, hi⟩]
  exact Lib.TabIs.cell h gSteps i hi

theorem steps_lt {W : World} (h : Steps W) : 1 < W.heap.size := by
  unfold Steps Lib.TabIs World.var? at h
  simp only [gSteps, Option.bind_some] at h
  rcases Nat.lt_or_ge 1 W.heap.size with hlt | hge
  · exact hlt
  · rw [Array.getElem?_eq_none hge] at h
    simp at h

theorem steps_later {B : Nat} {w w' : World} (h : Steps w) (hb : Below B w w') (hB : w.heap.size ≤ B) : Steps w' := by
  have hl := steps_lt h
  unfold Steps Lib.TabIs World.var? at h ⊢
  simp only [gSteps, Option.bind_some] at h ⊢
  have e : w'.heap[1]? = w.heap[1]? := hb.block _ (by omega)
  rw [e]
  exact h

set_option maxRecDepth 100000 in
set_option maxHeartbeats 1000000 in
theorem four_any (x : Nat) (w : World) (hx : x < 4294967296) (hT : Steps w) :
    Calls Tryz.prog 114 #[.int .u32 (x : Int)] w fun e w' => e = .returned (.int .u32 ((st (st (st (st x))) : Nat) : Int)) ∧ w = w' := by
  rw [four_st]
  have hc := step_cell hT (x % 16) (by omega)
  obtain ⟨q, hq⟩ : ∃ q : Nat, q = x % 16 := ⟨_, rfl⟩
  have hq2 : (x : Int) % 16 = (q : Int) := by omega
  have hq3 : q < 16 := by omega
  rw [← hq] at hc ⊢
  have ht : tab16.getD q 0 < 4294967296 := by
    have key : ∀ r : Fin 16, tab16.getD r.val 0 < 4294967296 := by decide
    exact key ⟨q, hq3⟩
  generalize tab16.getD q 0 = t at hc ht ⊢
  have hxor := xor_u32 (x / 16) t (by omega) ht
  clear hT hq
  go_enter Tryz.func114, Tryz.ntmps114
  go_wp2
  go_ret
  have e : (x : Int) / 16 = ((x / 16 : Nat) : Int) := by omega
  refine ⟨?_, rfl⟩
  rw [e, hxor]
  rfl

set_option maxRecDepth 100000 in
set_option maxHeartbeats 1000000 in
theorem more_any (x : Nat) (s : ByteArray) (w : World) (hx : x < 4294967296) (hs : s.size ≤ 100000000) (hT : Steps w) :
    Calls Tryz.prog 101 #[.int .u32 (x : Int), .string s] w fun e w' => e = .returned (.int .u32 ((upL x s.data.toList : Nat) : Int)) ∧ w = w' := by
  have HT := hide hT
  clear hT
  go_enter Tryz.func101, Tryz.ntmps101
  go_wp2
  go_loop [0, 8] (fun v i => ∃ k y : Nat, k ≤ s.size ∧ i = .int .i64 k ∧ v = .int .u32 (y : Int) ∧ Hid (y = upL x (s.data.toList.take k))) (fun _ i => s.size - (intOf i).toNat)
  case atStart => exact ⟨0, x, by omega, rfl, rfl, rfl⟩
  case round =>
    obtain ⟨k, y, hk, rfl, rfl, hy⟩ := hrel
    have hy2 : y < 4294967296 := by rw [hy.out]; exact upL_lt _ _ hx
    by_cases hlt : k < s.size
    · have hb := (s[k]).toNat_lt
      have hxor := xor_u32 y (s[k]).toNat hy2 (by omega)
      obtain ⟨z, hz⟩ : ∃ z : Nat, z = y ^^^ (s[k]).toNat := ⟨_, rfl⟩
      have hz2 : z < 4294967296 := by rw [hz]; exact Nat.xor_lt_two_pow (n := 32) hy2 (by omega)
      have hup : st (st (st (st (st (st (st (st z))))))) = upL x (s.data.toList.take (k + 1)) := by
        have hk' : k < s.data.toList.length := by simpa using hlt
        rw [take_snoc _ _ hk', upL_snoc, ← hy.out, hz]
        rfl
      rw [← hz] at hxor
      have HUP := hide hup
      clear hup hz
      go_wp2_with fail
      refine (four_any z _ hz2 HT.out).mono ?_
      rintro e w1 ⟨rfl, rfl⟩
      clear hxor
      obtain ⟨c, hc⟩ : ∃ c : Nat, c = st (st (st (st z))) := ⟨_, rfl⟩
      have hc2 : c < 4294967296 := by rw [hc]; exact st_lt _ (st_lt _ (st_lt _ (st_lt _ hz2)))
      rw [← hc]
      have HC := hide hc
      clear hc
      go_wp2_with fail
      refine (four_any c _ hc2 HT.out).mono ?_
      rintro e w1 ⟨rfl, rfl⟩
      go_wp2
      go_round
      case rel => exact ⟨k + 1, _, by omega, by go_num, rfl, by rw [← HUP.out, HC.out]; exact rfl⟩
      case measure => simp [intOf]; omega
    · have hfin : y = upL x s.data.toList := by rw [hy.out, List.take_of_length_le (by simp; omega)]
      have HF := hide hfin
      clear hfin
      go_wp2
      go_ret
      exact ⟨by rw [HF.out]; rfl, rfl⟩

set_option maxHeartbeats 400000 in
theorem ism_any (x : Nat) (s : ByteArray) (w : World) (hx : x < 4294967296) (hs : s.size ≤ 100000000) (hT : Steps w) :
    Calls Tryz.prog 78 #[.int .u32 (x : Int), .string s] w fun e w' => e = .returned (.int .u32 ((upL x s.data.toList : Nat) : Int)) ∧ w = w' := by
  have hc := more_any x s w hx hs hT
  generalize upL x s.data.toList = t at hc ⊢
  clear hT
  go_enter Tryz.func78, Tryz.ntmps78
  go_wp2_with fail
  refine hc.mono ?_
  rintro e w' ⟨rfl, rfl⟩
  clear hc
  go_wp2
  go_ret
  exact ⟨rfl, rfl⟩

set_option maxHeartbeats 400000 in
theorem iso_any (s : ByteArray) (w : World) (hs : s.size ≤ 100000000) (hT : Steps w) :
    Calls Tryz.prog 46 #[.string s] w fun e w' => e = .returned (.int .u32 ((upL 4294967295 s.data.toList : Nat) : Int)) ∧ w = w' := by
  have hc := ism_any 4294967295 s w (by omega) hs hT
  generalize upL 4294967295 s.data.toList = t at hc ⊢
  clear hT
  go_enter Tryz.func46, Tryz.ntmps46
  go_wp2_with fail
  refine hc.mono ?_
  rintro e w' ⟨rfl, rfl⟩
  clear hc
  go_wp2
  go_ret
  exact ⟨rfl, rfl⟩
end Go.Proofs.YtchmmekhfcojgaaGreatDoor
namespace Go.Proofs.YtchmmekhfcojgaaGreatDoor
open Go.RowKit

def fourL (x : Nat) : List UInt8 := [UInt8.ofNat (x / 16777216), UInt8.ofNat (x / 65536), UInt8.ofNat (x / 256), UInt8.ofNat x]

theorem fourL_len (x : Nat) : (fourL x).length = 4 := rfl

theorem fourL_inj {x y : Nat} (hx : x < 4294967296) (hy : y < 4294967296) (h : fourL x = fourL y) : x = y := by
  unfold fourL at h
  simp only [List.cons.injEq, and_true] at h
  obtain ⟨a, b, c, d⟩ := h
  have a' := congrArg UInt8.toNat a
  have b' := congrArg UInt8.toNat b
  have c' := congrArg UInt8.toNat c
  have d' := congrArg UInt8.toNat d
  simp at a' b' c' d'
  omega

/-- 'string' of the four bytes just made -/
theorem run_four (x : Nat) (hx : x < 4294967296) (w : World) (a b c d : Int) (ha : a = (x : Int) / 16777216) (hb : b = (x : Int) / 65536 % 256) (hc : c = (x : Int) / 256 % 256) (hd : d = (x : Int) % 256) :
    (convert 22 9 (.slice (some ⟨w.heap.size, 0, none⟩) 4 4)).run Tryz.prog (w.alloc (.cells #[.int .u8 a, .int .u8 b, .int .u8 c, .int .u8 d] 5)) =
      .ok (.string (bs (fourL x))) (w.alloc (.cells #[.int .u8 a, .int .u8 b, .int .u8 c, .int .u8 d] 5)) := by
  refine run_convert_bytes_back _ 22 9 5 ⟨w.heap.size, 0, none⟩ 4 (fourL x) Tryz.underlying22 Tryz.underlying5 Tryz.underlying9 (fun j hj => ?_)
  have hj4 : j < 4 := hj
  have e1 : (⟨w.heap.size, 0, none⟩ : Addr).add j = ⟨w.heap.size, j, none⟩ := by
    simp only [Addr.add, Nat.zero_add]
    split <;> simp_all
  rw [e1, World.cell?_alloc_at _ _ _ _ rfl]
  have : j = 0 ∨ j = 1 ∨ j = 2 ∨ j = 3 := by omega
  rcases this with rfl | rfl | rfl | rfl
  · simp [fourL]; omega
  · simp [fourL]; omega
  · simp [fourL]; omega
  · simp [fourL]; omega

set_option maxRecDepth 100000 in
set_option maxHeartbeats 1000000 in
theorem sfour_any (x : Nat) (w : World) (hx : x < 4294967296) :
    Calls Tryz.prog 66 #[.int .u32 (x : Int)] w fun e w' => e = .returned (.string (bs (fourL x))) ∧ Below w.heap.size w w' := by
  have h4 := run_four x hx w _ _ _ _ rfl rfl rfl rfl
  generalize bs (fourL x) = t at h4 ⊢
  go_enter Tryz.func66, Tryz.ntmps66
  go_wp2
  go_ret
  exact ⟨rfl, (Below.refl _ _).alloc (Nat.le_refl _) _⟩

set_option maxRecDepth 100000 in
set_option maxHeartbeats 1000000 in
theorem ifour_any (x : Nat) (w : World) (hx : x < 4294967296) :
    Calls Tryz.prog 47 #[.int .u32 (x : Int)] w fun e w' => e = .returned (.string (bs (fourL x))) ∧ Below w.heap.size w w' := by
  have h4 := run_four x hx w _ _ _ _ rfl rfl rfl rfl
  generalize bs (fourL x) = t at h4 ⊢
  go_enter Tryz.func47, Tryz.ntmps47
  go_wp2
  go_ret
  exact ⟨rfl, (Below.refl _ _).alloc (Nat.le_refl _) _⟩

def sumS (s : ByteArray) : Nat := upL 4294967295 s.data.toList

theorem sumS_lt (s : ByteArray) : sumS s < 4294967296 := upL_lt _ _ (by omega)

def seV (s : ByteArray) : Value := if s.size ≤ 20000 then .tuple #[.string (s ++ bs (fourL (sumS s))), .bool true] else .tuple #[.string (bs []), .bool false]

set_option maxRecDepth 100000 in
set_option maxHeartbeats 1000000 in
theorem sse_any (s : ByteArray) (w : World) (hs : s.size ≤ 1048576) :
    Calls Tryz.prog 32 #[.string s] w fun e w' => e = .returned (seV s) ∧ Below w.heap.size w w' := by
  by_cases h : (20000 : Int) < (s.size : Int)
  · have e : seV s = .tuple #[.string (bs []), .bool false] := by unfold seV; rw [if_neg (by omega)]
    rw [e]
    clear e
    go_enter Tryz.func32, Tryz.ntmps32
    go_wp2
    go_ret2
    exact ⟨rfl, Below.refl _ _⟩
  · have hl := sumS_lt s
    have h1 := sso_any s w (by omega)
    rw [show upL 4294967295 s.data.toList = sumS s from rfl] at h1
    have e : seV s = .tuple #[.string (s ++ bs (fourL (sumS s))), .bool true] := by unfold seV; rw [if_pos (by omega)]
    rw [e]
    clear e
    generalize sumS s = x at h1 hl ⊢
    obtain ⟨t, ht⟩ : ∃ t, t = bs (fourL x) := ⟨_, rfl⟩
    have htz : t.size = 4 := by rw [ht]; rfl
    go_enter Tryz.func32, Tryz.ntmps32
    go_wp2_with fail
    refine h1.mono ?_
    rintro e w1 ⟨rfl, rfl⟩
    clear h1
    go_wp2_with fail
    refine (sfour_any x _ hl).mono ?_
    rw [← ht]
    rintro e w1 ⟨rfl, b1⟩
    have HT := hide ht
    clear ht
    go_wp2
    go_ret2
    exact ⟨by rw [← HT.out]; rfl, b1⟩

set_option maxRecDepth 100000 in
set_option maxHeartbeats 1000000 in
theorem ise_any (s : ByteArray) (w : World) (hs : s.size ≤ 1048576) (hT : Steps w) :
    Calls Tryz.prog 19 #[.string s] w fun e w' => e = .returned (seV s) ∧ Below w.heap.size w w' := by
  by_cases h : (20000 : Int) < (s.size : Int)
  · have e : seV s = .tuple #[.string (bs []), .bool false] := by unfold seV; rw [if_neg (by omega)]
    rw [e]
    clear e hT
    go_enter Tryz.func19, Tryz.ntmps19
    go_wp2
    go_ret2
    exact ⟨rfl, Below.refl _ _⟩
  · have hl := sumS_lt s
    have h1 := iso_any s w (by omega) hT
    rw [show upL 4294967295 s.data.toList = sumS s from rfl] at h1
    have e : seV s = .tuple #[.string (s ++ bs (fourL (sumS s))), .bool true] := by unfold seV; rw [if_pos (by omega)]
    rw [e]
    clear e hT
    generalize sumS s = x at h1 hl ⊢
    obtain ⟨t, ht⟩ : ∃ t, t = bs (fourL x) := ⟨_, rfl⟩
    have htz : t.size = 4 := by rw [ht]; rfl
    go_enter Tryz.func19, Tryz.ntmps19
    go_wp2_with fail
    refine h1.mono ?_
    rintro e w1 ⟨rfl, rfl⟩
    clear h1
    go_wp2_with fail
    refine (ifour_any x _ hl).mono ?_
    rw [← ht]
    rintro e w1 ⟨rfl, b1⟩
    have HT := hide ht
    clear ht
    go_wp2
    go_ret2
    exact ⟨by rw [← HT.out]; rfl, b1⟩
end Go.Proofs.YtchmmekhfcojgaaGreatDoor
namespace Go.Proofs.YtchmmekhfcojgaaGreatDoor
open Go.RowKit

set_option linter.unusedSimpArgs false

theorem varL_pow : ∀ (k n : Nat), n < 128 ^ (k + 1) → (varL n).length ≤ k + 1
  | 0, n, h => by rw [varL_small (by omega)]; simp
  | k + 1, n, h => by
    by_cases hn : 127 < n
    · rw [varL_big hn]
      have h1 : n / 128 < 128 ^ (k + 1) := Nat.div_lt_of_lt_mul (by rw [Nat.pow_succ] at h; omega)
      have := varL_pow k (n / 128) h1
      simp only [List.length_cons]
      omega
    · rw [varL_small (by omega)]; simp

theorem varL_five {n : Nat} (h : n ≤ 1000000000) : (varL n).length ≤ 5 := varL_pow 4 n (by omega)

theorem nearsL_six {ns : List Nr} (h : ∀ n ∈ ns, (1 ≤ n.to ∧ n.to ≤ 6) ∧ (1 ≤ n.c ∧ n.c ≤ 1000)) : (nearsL ns).length ≤ 6 * ns.length := by
  induction ns with
  | nil => simp [nearsL]
  | cons n ns ih =>
    have h1 := ih (fun m hm => h m (List.mem_cons_of_mem _ hm))
    have h2 := h n (List.mem_cons_self ..)
    have h3 := varL_five (n := n.c.toNat) (by omega)
    simp only [nearsL, List.flatMap_cons, List.length_append, nearL, List.length_cons] at h1 ⊢
    omega

theorem recL_len {x : RecD} (h : recOkB x = true) : (recL x).length ≤ 60 := by
  have hb := recOk_bounds h
  have hn := recOk_near h
  have h1 := nearsL_six hb.near
  have h2 := varL_five (n := x.seq.toNat) (by have := hb.seq; omega)
  have h3 := varL_five (n := x.near.length) (by omega)
  have h4 := varL_five (n := x.cost.toNat) (by have := hb.cost; omega)
  have h5 : (farL x.far).length = 1 := by unfold farL; split <;> rfl
  simp only [recL, headL, List.length_append, List.length_cons, List.length_nil]
  omega

/-- a record's text with its length ahead -/
def shortL (r : RecD) : List UInt8 := varL (recL r).length ++ recL r

theorem shortL_len {x : RecD} (h : recOkB x = true) : (shortL x).length ≤ 65 := by
  have h1 := recL_len h
  have h2 := varL_five (n := (recL x).length) (by omega)
  simp only [shortL, List.length_append]
  omega

def shortsL (xs : List RecD) : List UInt8 := xs.flatMap shortL

theorem shortsL_len {xs : List RecD} (h : ∀ x ∈ xs, recOkB x = true) : (shortsL xs).length ≤ 65 * xs.length := by
  induction xs with
  | nil => simp [shortsL]
  | cons x xs ih =>
    have h1 := ih (fun m hm => h m (List.mem_cons_of_mem _ hm))
    have h2 := shortL_len (h x (List.mem_cons_self ..))
    simp only [shortsL, List.flatMap_cons, List.length_append, List.length_cons] at h1 ⊢
    omega

theorem shortsL_succ {xs : List RecD} {k : Nat} {r : RecD} (h : xs[k]? = some r) : shortsL (xs.take (k + 1)) = shortsL (xs.take k) ++ shortL r := by
  obtain ⟨hk, e⟩ := List.getElem?_eq_some_iff.1 h
  rw [List.take_succ_eq_append_getElem hk, e]
  simp [shortsL]

def oneL (x : PkD) : List UInt8 := [byB x.kind, byB x.src, byB x.dst, byB x.area]

def pkL (x : PkD) (xs : List RecD) : List UInt8 := oneL x ++ varL x.heard.length ++ x.heard.map byB ++ varL xs.length ++ shortsL xs

def ptV (x : PkD) (xs : List RecD) : Value := if pkB x xs = true then .tuple #[.string (bs (pkL x xs) ++ bs (fourL (sumS (bs (pkL x xs))))), .bool true] else .tuple #[.string (bs []), .bool false]

structure PkBounds (x : PkD) (xs : List RecD) : Prop where
  kind : 1 ≤ x.kind ∧ x.kind ≤ 3
  src : 1 ≤ x.src ∧ x.src ≤ 6
  dst : 1 ≤ x.dst ∧ x.dst ≤ 6
  area : 0 ≤ x.area ∧ x.area ≤ 2
  few : x.heard.length ≤ 6
  heard : ∀ z ∈ x.heard, 1 ≤ z ∧ z ≤ 6
  list : xs.length ≤ 150
  recs : ∀ r ∈ xs, recOkB r = true

theorem nodes_in {h : List Int} (hn : nodesB h = true) : ∀ z ∈ h, 1 ≤ z ∧ z ≤ 6 := by
  unfold nodesB at hn
  simp only [Bool.and_eq_true] at hn
  intro z hz
  obtain ⟨i, hi, e⟩ := List.getElem_of_mem hz
  have h1 := allOk_at hn.1 i hi
  rw [e] at h1
  simpa [inB] using h1

theorem nodes_few {h : List Int} (hn : nodesB h = true) : h.length ≤ 6 := by
  have hin := nodes_in hn
  unfold nodesB at hn
  simp only [Bool.and_eq_true] at hn
  have hb : ∀ i (hi : i < h.length), (i : Int) + 1 ≤ h[i] := by
    intro i
    induction i with
    | zero =>
      intro hi
      have := hin h[0] (List.getElem_mem hi)
      omega
    | succ i ih =>
      intro hi
      have h1 := ih (by omega)
      have h2 := List.all_eq_true.1 hn.2 (i + 1) (List.mem_range.2 hi)
      rw [ascAt_eq (List.getElem?_eq_getElem (by omega)) (List.getElem?_eq_getElem hi)] at h2
      simp only [decide_eq_true_eq] at h2
      have h3 := cmpN_neg.1 h2
      omega
  cases Nat.lt_or_ge 6 h.length with
  | inr h0 => exact h0
  | inl h0 =>
    have h1 := hb 6 h0
    have h2 := hin h[6] (List.getElem_mem h0)
    omega

theorem store_all {xs : List RecD} (h : storeB xs = true) : xs.length ≤ 150 ∧ ∀ r ∈ xs, recOkB r = true := by
  unfold storeB at h
  simp only [Bool.and_eq_true, decide_eq_true_eq] at h
  refine ⟨h.1.1, fun x hx => ?_⟩
  obtain ⟨i, hi, e⟩ := List.getElem_of_mem hx
  rw [← e]
  exact allOk_at h.1.2 i hi

theorem pk_bounds {x : PkD} {xs : List RecD} (h : pkB x xs = true) : PkBounds x xs := by
  unfold pkB at h
  simp only [Bool.and_eq_true] at h
  obtain ⟨h1, h2, _, h3, h4⟩ := h
  rw [inB_iff] at h1 h2 h3
  by_cases k1 : x.kind = 1
  · rw [said_one k1] at h4
    simp only [Bool.and_eq_true, beq_iff_eq] at h4
    have e0 : xs = [] := List.eq_nil_of_length_eq_zero h4.2
    exact ⟨by omega, h1, h2, h3, nodes_few h4.1, nodes_in h4.1, by rw [e0]; simp, by rw [e0]; simp⟩
  · by_cases k2 : x.kind = 2
    · rw [said_two k2] at h4
      simp only [Bool.and_eq_true, beq_iff_eq] at h4
      have e0 : x.heard = [] := List.eq_nil_of_length_eq_zero h4.1
      have h5 := h4.2.1
      unfold toldB at h5
      simp only [Bool.and_eq_true] at h5
      exact ⟨by omega, h1, h2, h3, by rw [e0]; simp, by rw [e0]; simp, (store_all h5.2).1, (store_all h5.2).2⟩
    · by_cases k3 : x.kind = 3
      · rw [said_three k3] at h4
        simp only [Bool.and_eq_true, beq_iff_eq] at h4
        have e0 : x.heard = [] := List.eq_nil_of_length_eq_zero h4.1
        have h5 := h4.2
        unfold toldB at h5
        simp only [Bool.and_eq_true] at h5
        exact ⟨by omega, h1, h2, h3, by rw [e0]; simp, by rw [e0]; simp, (store_all h5.2).1, (store_all h5.2).2⟩
      · rw [said_none k1 k2 k3] at h4
        cases h4

theorem pkL_len {x : PkD} {xs : List RecD} (h : PkBounds x xs) : (pkL x xs).length ≤ 10000 := by
  have h1 := shortsL_len h.recs
  have h2 := varL_five (n := x.heard.length) (by have := h.few; omega)
  have h3 := varL_five (n := xs.length) (by have := h.list; omega)
  have h4 := h.few
  have h5 := h.list
  simp only [pkL, oneL, List.length_append, List.length_cons, List.length_nil, List.length_map]
  omega
end Go.Proofs.YtchmmekhfcojgaaGreatDoor
