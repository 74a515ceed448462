/-
  The plain mathematics of sums: eight halvings for a byte, the short table, one byte turned makes another sum.
  spec.SumMore, spec.SumOf: their contracts.
  impl.SumMore, impl.SumOf, and what they call: their contracts.
  spec.l02Four, the method text; spec.Sealed, impl.Sealed: their contracts.
  How many neighbours a right record can have.
-/
import Derived.Test.YtfccainebmbbdaaDoorRq1
import Derived.Lib.LaidTab
import Derived.Test.YtfccainebmbbdaaDoorRq3
namespace Go.Proofs.YtfccainebmbbdaaDoor
open Go.RowKit

def st (x : Nat) : Nat := if x % 2 = 1 then x / 2 ^^^ 3558460437 else x / 2


theorem st_xor (a b : Nat) : st (a ^^^ b) = st a ^^^ st b := by
  have h1 : (a ^^^ b) / 2 = a / 2 ^^^ b / 2 := Nat.xor_div_two
  have h2 : ((a ^^^ b) % 2 = 1) ↔ ¬ ((a % 2 = 1) ↔ (b % 2 = 1)) := Nat.xor_mod_two_eq_one
  unfold st
  rw [h1]
  have ha : a % 2 = 0 ∨ a % 2 = 1 := by omega
  have hb : b % 2 = 0 ∨ b % 2 = 1 := by omega
  rcases ha with ha | ha <;> rcases hb with hb | hb
  · rw [if_neg (by omega), if_neg (by omega), if_neg (by omega)]
  · rw [if_pos (by omega), if_neg (by omega), if_pos (by omega)]; ac_rfl
  · rw [if_pos (by omega), if_pos (by omega), if_neg (by omega)]; ac_rfl
  · rw [if_neg (by omega), if_pos (by omega), if_pos (by omega)]
    rw [show a / 2 ^^^ 3558460437 ^^^ (b / 2 ^^^ 3558460437) = (a / 2 ^^^ b / 2) ^^^ (3558460437 ^^^ 3558460437) by ac_rfl, Nat.xor_self, Nat.xor_zero]

theorem st_lt (x : Nat) (h : x < 4294967296) : st x < 4294967296 := by
  unfold st
  split
  · exact Nat.xor_lt_two_pow (n := 32) (by omega) (by omega)
  · omega

def tab16 : List Nat := [0x00000000, 0x4589ac8d, 0x8b13591a, 0xce9af597, 0xbe152a1f, 0xfb9c8692, 0x35067305, 0x708fdf88, 0xd419cc15, 0x91906098, 0x5f0a950f, 0x1a833982, 0x6a0ce60a, 0x2f854a87, 0xe11fbf10, 0xa496139d]

theorem st_even (y : Nat) : st (2 * y) = y := by unfold st; rw [if_neg (by omega)]; omega
theorem st_odd (y : Nat) : st (2 * y + 1) = y ^^^ 3558460437 := by unfold st; rw [if_pos (by omega)]; congr 1; omega

theorem four_st (x : Nat) : st (st (st (st x))) = x / 16 ^^^ tab16.getD (x % 16) 0 := by
  have hx : x = 16 * (x / 16) ^^^ (x % 16) := by
    have := Nat.two_pow_add_eq_or_of_lt (i := 4) (b := x % 16) (by omega) (x / 16)
    have h2 : (2 ^ 4 * (x / 16)) ||| (x % 16) = 16 * (x / 16) ^^^ (x % 16) := by
      rw [show (16 : Nat) * (x / 16) = 2 ^ 4 * (x / 16) from rfl]
      apply Nat.eq_of_testBit_eq
      intro i
      rw [Nat.testBit_or, Nat.testBit_xor, Nat.testBit_two_pow_mul]
      by_cases hi : 4 ≤ i
      · have : (x % 16).testBit i = false := Nat.testBit_lt_two_pow (Nat.lt_of_lt_of_le (by omega) (Nat.pow_le_pow_right (by omega : 0 < 2) hi))
        simp [this]
      · simp [hi]
    omega
  generalize x / 16 = y at *
  have hr : x % 16 < 16 := by omega
  generalize x % 16 = r at *
  subst hx
  simp only [st_xor]
  have e : st (st (st (st (16 * y)))) = y := by
    rw [show 16 * y = 2 * (2 * (2 * (2 * y))) by omega, st_even, st_even, st_even, st_even]
  rw [e]
  congr 1
  have key : ∀ r : Fin 16, st (st (st (st r.val))) = tab16.getD r.val 0 := by decide
  exact key ⟨r, hr⟩

def upB (x : Nat) (b : UInt8) : Nat := st (st (st (st (st (st (st (st (x ^^^ b.toNat))))))))

def upL (x : Nat) (l : List UInt8) : Nat := l.foldl upB x

theorem st_zero {x : Nat} (h : x < 4294967296) (h0 : st x = 0) : x = 0 := by
  unfold st at h0
  split at h0
  · exfalso
    have : x / 2 = 3558460437 := by
      have e : x / 2 ^^^ 3558460437 ^^^ 3558460437 = 0 ^^^ 3558460437 := by rw [h0]
      rw [Nat.xor_assoc, Nat.xor_self, Nat.xor_zero, Nat.zero_xor] at e
      exact e
    omega
  · omega

theorem xor_zero_eq {a b : Nat} (h : a ^^^ b = 0) : a = b := by
  have e : a ^^^ b ^^^ b = 0 ^^^ b := by rw [h]
  rw [Nat.xor_assoc, Nat.xor_self, Nat.xor_zero, Nat.zero_xor] at e
  exact e

theorem st_inj {a b : Nat} (ha : a < 4294967296) (hb : b < 4294967296) (h : st a = st b) : a = b := by
  apply xor_zero_eq
  apply st_zero (Nat.xor_lt_two_pow (n := 32) ha hb)
  rw [st_xor, h, Nat.xor_self]

theorem upB_lt (x : Nat) (b : UInt8) (h : x < 4294967296) : upB x b < 4294967296 := by
  have hb : b.toNat < 4294967296 := by have := b.toNat_lt; omega
  have := Nat.xor_lt_two_pow (n := 32) h hb
  unfold upB
  exact st_lt _ (st_lt _ (st_lt _ (st_lt _ (st_lt _ (st_lt _ (st_lt _ (st_lt _ this)))))))

theorem upB_inj {x y : Nat} {b c : UInt8} (hx : x < 4294967296) (hy : y < 4294967296) (h : upB x b = upB y c) : x ^^^ b.toNat = y ^^^ c.toNat := by
  have hb : b.toNat < 4294967296 := by have := b.toNat_lt; omega
  have hc : c.toNat < 4294967296 := by have := c.toNat_lt; omega
  have h1 := Nat.xor_lt_two_pow (n := 32) hx hb
  have h2 := Nat.xor_lt_two_pow (n := 32) hy hc
  unfold upB at h
  have k := @st_lt
  exact st_inj h1 h2 (st_inj (k _ h1) (k _ h2) (st_inj (k _ (k _ h1)) (k _ (k _ h2)) (st_inj (k _ (k _ (k _ h1))) (k _ (k _ (k _ h2))) (st_inj (k _ (k _ (k _ (k _ h1)))) (k _ (k _ (k _ (k _ h2)))) (st_inj (k _ (k _ (k _ (k _ (k _ h1))))) (k _ (k _ (k _ (k _ (k _ h2))))) (st_inj (k _ (k _ (k _ (k _ (k _ (k _ h1)))))) (k _ (k _ (k _ (k _ (k _ (k _ h2)))))) (st_inj (k _ (k _ (k _ (k _ (k _ (k _ (k _ h1))))))) (k _ (k _ (k _ (k _ (k _ (k _ (k _ h2))))))) h)))))))

theorem upL_lt (l : List UInt8) : ∀ (x : Nat), x < 4294967296 → upL x l < 4294967296 := by
  induction l with
  | nil => intro x h; exact h
  | cons b l ih => intro x h; exact ih _ (upB_lt x b h)

theorem upL_inj (l : List UInt8) : ∀ {x y : Nat}, x < 4294967296 → y < 4294967296 → upL x l = upL y l → x = y := by
  induction l with
  | nil => intro x y _ _ h; exact h
  | cons b l ih =>
    intro x y hx hy h
    have := ih (upB_lt x b hx) (upB_lt y b hy) h
    have e := upB_inj hx hy this
    have e2 : x ^^^ b.toNat ^^^ b.toNat = y ^^^ b.toNat ^^^ b.toNat := by rw [e]
    rw [Nat.xor_assoc, Nat.xor_self, Nat.xor_zero, Nat.xor_assoc, Nat.xor_self, Nat.xor_zero] at e2
    exact e2

/-- one byte turned: another sum -/
theorem upL_turn (p q : List UInt8) (b c : UInt8) (x : Nat) (hx : x < 4294967296) (h : upL x (p ++ b :: q) = upL x (p ++ c :: q)) : b = c := by
  simp only [upL, List.foldl_append, List.foldl_cons] at h
  have h1 := upL_lt p x hx
  have e := upL_inj q (upB_lt _ b h1) (upB_lt _ c h1) h
  have e2 := upB_inj h1 h1 e
  have e3 : upL x p ^^^ (upL x p ^^^ b.toNat) = upL x p ^^^ (upL x p ^^^ c.toNat) := by rw [e2]
  rw [← Nat.xor_assoc, Nat.xor_self, Nat.zero_xor, ← Nat.xor_assoc, Nat.xor_self, Nat.zero_xor] at e3
  exact UInt8.toNat_inj.1 e3

theorem xor_u32 (x y : Nat) (hx : x < 4294967296) (hy : y < 4294967296) : bits .xor .u32 (x : Int) (y : Int) = ((x ^^^ y : Nat) : Int) := by
  have e : bits .xor .u32 (x : Int) (y : Int) = IntKind.u32.wrap ((BitVec.ofInt 32 (x : Int) ^^^ BitVec.ofInt 32 (y : Int)).toNat : Nat) := rfl
  have h : x ^^^ y < 4294967296 := Nat.xor_lt_two_pow (n := 32) hx hy
  rw [e, BitVec.toNat_xor]
  simp only [BitVec.ofInt_natCast, BitVec.toNat_ofNat]
  rw [Nat.mod_eq_of_lt hx, Nat.mod_eq_of_lt hy]
  simp only [IntKind.wrap, IntKind.signed, IntKind.bits]
  simp
  omega
end Go.Proofs.YtfccainebmbbdaaDoor
namespace Go.Proofs.YtfccainebmbbdaaDoor
open Go.RowKit

def stN : Nat → Nat → Nat
  | 0, x => x
  | k + 1, x => st (stN k x)

theorem stN_lt : ∀ (k x : Nat), x < 4294967296 → stN k x < 4294967296
  | 0, _, h => h
  | k + 1, x, h => st_lt _ (stN_lt k x h)

theorem upL_snoc (x : Nat) (l : List UInt8) (b : UInt8) : upL x (l ++ [b]) = upB (upL x l) b := by simp [upL]

theorem take_snoc (l : List UInt8) (k : Nat) (h : k < l.length) : l.take (k + 1) = l.take k ++ [l[k]] := by simp

set_option maxRecDepth 100000 in
set_option maxHeartbeats 1000000 in
theorem ssm_any (x : Nat) (s : ByteArray) (w : World) (hx : x < 4294967296) (hs : s.size ≤ 100000000) :
    Calls Tryd.prog 46 #[.int .u32 (x : Int), .string s] w fun e w' => e = .returned (.int .u32 ((upL x s.data.toList : Nat) : Int)) ∧ w = w' := by
  go_enter Tryd.func46, Tryd.ntmps46
  go_wp2
  go_loop [0, 5] (fun v i => ∃ k y : Nat, k ≤ s.size ∧ i = .int .i64 k ∧ v = .int .u32 (y : Int) ∧ Hid (y = upL x (s.data.toList.take k))) (fun _ i => s.size - (intOf i).toNat)
  case atStart => exact ⟨0, x, by omega, rfl, rfl, rfl⟩
  case round =>
    obtain ⟨k, y, hk, rfl, rfl, hy⟩ := hrel
    have hy2 : y < 4294967296 := by rw [hy.out]; exact upL_lt _ _ hx
    by_cases hlt : k < s.size
    · have hb := (s[k]).toNat_lt
      have hxor := xor_u32 y (s[k]).toNat hy2 (by omega)
      obtain ⟨z, hz⟩ : ∃ z : Nat, z = y ^^^ (s[k]).toNat := ⟨_, rfl⟩
      have hz2 : z < 4294967296 := by rw [hz]; exact Nat.xor_lt_two_pow (n := 32) hy2 (by omega)
      have hup : stN 8 z = upL x (s.data.toList.take (k + 1)) := by
        have hk' : k < s.data.toList.length := by simpa using hlt
        rw [take_snoc _ _ hk', upL_snoc, ← hy.out, hz]
        rfl
      rw [← hz] at hxor
      have HUP := hide hup
      clear hup hz
      go_wp2
      go_loop [0, 6] (fun v i => ∃ j c : Nat, j ≤ 8 ∧ i = .int .i64 j ∧ v = .int .u32 (c : Int) ∧ Hid (c = stN j z)) (fun _ i => 8 - (intOf i).toNat)
      case atStart => exact ⟨0, z, by omega, rfl, rfl, rfl⟩
      case round =>
        obtain ⟨j, c, hj, rfl, rfl, hc⟩ := hrel
        by_cases hj8 : j < 8
        · have hc2 : c < 4294967296 := by rw [hc.out]; exact stN_lt _ _ hz2
          have hst : st c = stN (j + 1) z := by rw [hc.out]; rfl
          have HST := hide hst
          clear hst hxor
          by_cases hodd : c % 2 = 1
          · have h1 : (c : Int) % 2 = 1 := by omega
            have h2 := xor_u32 (c / 2) 3558460437 (by omega) (by omega)
            have h3 : st c = c / 2 ^^^ 3558460437 := by unfold st; rw [if_pos hodd]
            simp at h2
            go_wp2
            go_round
            case rel => exact ⟨j + 1, c / 2 ^^^ 3558460437, by omega, by go_num, by simp, (by rw [← h3]; exact HST.out)⟩
            case measure => simp [intOf]; omega
          · have h1 : (c : Int) % 2 = 0 := by omega
            have h3 : st c = c / 2 := by unfold st; rw [if_neg hodd]
            go_wp2
            go_round
            case rel => exact ⟨j + 1, c / 2, by omega, by go_num, by simp, (by rw [← h3]; exact HST.out)⟩
            case measure => simp [intOf]; omega
        · obtain rfl : j = 8 := by omega
          clear hxor
          go_wp2
          go_round
          case rel => exact ⟨k + 1, c, by omega, by go_num, rfl, by rw [← HUP.out]; exact hc.out⟩
          case measure => simp [intOf]; omega
    · have hfin : y = upL x s.data.toList := by rw [hy.out, List.take_of_length_le (by simp; omega)]
      have HF := hide hfin
      clear hfin
      go_wp2
      go_ret
      exact ⟨by rw [HF.out]; rfl, rfl⟩

set_option maxHeartbeats 400000 in
theorem sso_any (s : ByteArray) (w : World) (hs : s.size ≤ 100000000) :
    Calls Tryd.prog 25 #[.string s] w fun e w' => e = .returned (.int .u32 ((upL 4294967295 s.data.toList : Nat) : Int)) ∧ w = w' := by
  obtain ⟨t, ht⟩ : ∃ t : Nat, t = upL 4294967295 s.data.toList := ⟨_, rfl⟩
  have hc := ssm_any 4294967295 s w (by omega) hs
  rw [← ht] at hc ⊢
  go_enter Tryd.func25, Tryd.ntmps25
  go_wp2_with fail
  refine hc.mono ?_
  rintro e w' ⟨rfl, rfl⟩
  have HT := hide ht
  clear ht hc
  go_wp2
  go_ret
  exact ⟨rfl, rfl⟩
end Go.Proofs.YtfccainebmbbdaaDoor
namespace Go.Proofs.YtfccainebmbbdaaDoor
open Go.RowKit

def stepTab : List Int := [0, 1166650509, 2333301018, 3466261911, 3189058079, 4221339282, 889615109, 1888477064, 3558460437, 2442158232, 1594529039, 444807554, 1779230218, 797264519, 3776954128, 2761298845]

def Steps (w : World) : Prop := Lib.TabIs Tryd.prog w "loop.example/g00177/impl.sumSteps" .u32 stepTab

theorem gSteps : Tryd.prog.globalNamed "loop.example/g00177/impl.sumSteps" = some 0 := by kernel_rfl

theorem step_cell {w : World} (h : Steps w) (i : Nat) (hi : i < 16) : w.cell? ⟨0, i, none⟩ = some (.int .u32 ((tab16.getD i 0 : Nat) : Int)) := by
  have key : ∀ r : Fin 16, stepTab.getD r.val 0 = ((tab16.getD r.val 0 : Nat) : Int) := by decide
  rw [← key ⟨i, hi⟩]
  exact Lib.TabIs.cell h gSteps i hi

theorem steps_lt {W : World} (h : Steps W) : 0 < W.heap.size := by
  unfold Steps Lib.TabIs World.var? at h
  simp only [gSteps, Option.bind_some] at h
  rcases Nat.lt_or_ge 0 W.heap.size with hlt | hge
  · exact hlt
  · rw [Array.getElem?_eq_none hge] at h
    simp at h

theorem steps_later {B : Nat} {w w' : World} (h : Steps w) (hb : Below B w w') (hB : w.heap.size ≤ B) : Steps w' := by
  have hl := steps_lt h
  unfold Steps Lib.TabIs World.var? at h ⊢
  simp only [gSteps, Option.bind_some] at h ⊢
  have e : w'.heap[0]? = w.heap[0]? := hb.block _ (by omega)
  rw [e]
  exact h

set_option maxRecDepth 100000 in
set_option maxHeartbeats 1000000 in
theorem four_any (x : Nat) (w : World) (hx : x < 4294967296) (hT : Steps w) :
    Calls Tryd.prog 75 #[.int .u32 (x : Int)] w fun e w' => e = .returned (.int .u32 ((st (st (st (st x))) : Nat) : Int)) ∧ w = w' := by
  rw [four_st]
  have hc := step_cell hT (x % 16) (by omega)
  obtain ⟨q, hq⟩ : ∃ q : Nat, q = x % 16 := ⟨_, rfl⟩
  have hq2 : (x : Int) % 16 = (q : Int) := by omega
  have hq3 : q < 16 := by omega
  rw [← hq] at hc ⊢
  have ht : tab16.getD q 0 < 4294967296 := by
    have key : ∀ r : Fin 16, tab16.getD r.val 0 < 4294967296 := by decide
    exact key ⟨q, hq3⟩
  generalize tab16.getD q 0 = t at hc ht ⊢
  have hxor := xor_u32 (x / 16) t (by omega) ht
  clear hT hq
  go_enter Tryd.func75, Tryd.ntmps75
  go_wp2
  go_ret
  have e : (x : Int) / 16 = ((x / 16 : Nat) : Int) := by omega
  refine ⟨?_, rfl⟩
  rw [e, hxor]
  rfl

set_option maxRecDepth 100000 in
set_option maxHeartbeats 1000000 in
theorem more_any (x : Nat) (s : ByteArray) (w : World) (hx : x < 4294967296) (hs : s.size ≤ 100000000) (hT : Steps w) :
    Calls Tryd.prog 65 #[.int .u32 (x : Int), .string s] w fun e w' => e = .returned (.int .u32 ((upL x s.data.toList : Nat) : Int)) ∧ w = w' := by
  have HT := hide hT
  clear hT
  go_enter Tryd.func65, Tryd.ntmps65
  go_wp2
  go_loop [0, 8] (fun v i => ∃ k y : Nat, k ≤ s.size ∧ i = .int .i64 k ∧ v = .int .u32 (y : Int) ∧ Hid (y = upL x (s.data.toList.take k))) (fun _ i => s.size - (intOf i).toNat)
  case atStart => exact ⟨0, x, by omega, rfl, rfl, rfl⟩
  case round =>
    obtain ⟨k, y, hk, rfl, rfl, hy⟩ := hrel
    have hy2 : y < 4294967296 := by rw [hy.out]; exact upL_lt _ _ hx
    by_cases hlt : k < s.size
    · have hb := (s[k]).toNat_lt
      have hxor := xor_u32 y (s[k]).toNat hy2 (by omega)
      obtain ⟨z, hz⟩ : ∃ z : Nat, z = y ^^^ (s[k]).toNat := ⟨_, rfl⟩
      have hz2 : z < 4294967296 := by rw [hz]; exact Nat.xor_lt_two_pow (n := 32) hy2 (by omega)
      have hup : st (st (st (st (st (st (st (st z))))))) = upL x (s.data.toList.take (k + 1)) := by
        have hk' : k < s.data.toList.length := by simpa using hlt
        rw [take_snoc _ _ hk', upL_snoc, ← hy.out, hz]
        rfl
      rw [← hz] at hxor
      have HUP := hide hup
      clear hup hz
      go_wp2_with fail
      refine (four_any z _ hz2 HT.out).mono ?_
      rintro e w1 ⟨rfl, rfl⟩
      clear hxor
      obtain ⟨c, hc⟩ : ∃ c : Nat, c = st (st (st (st z))) := ⟨_, rfl⟩
      have hc2 : c < 4294967296 := by rw [hc]; exact st_lt _ (st_lt _ (st_lt _ (st_lt _ hz2)))
      rw [← hc]
      have HC := hide hc
      clear hc
      go_wp2_with fail
      refine (four_any c _ hc2 HT.out).mono ?_
      rintro e w1 ⟨rfl, rfl⟩
      go_wp2
      go_round
      case rel => exact ⟨k + 1, _, by omega, by go_num, rfl, by rw [← HUP.out, HC.out]; exact rfl⟩
      case measure => simp [intOf]; omega
    · have hfin : y = upL x s.data.toList := by rw [hy.out, List.take_of_length_le (by simp; omega)]
      have HF := hide hfin
      clear hfin
      go_wp2
      go_ret
      exact ⟨by rw [HF.out]; rfl, rfl⟩

set_option maxHeartbeats 400000 in
theorem ism_any (x : Nat) (s : ByteArray) (w : World) (hx : x < 4294967296) (hs : s.size ≤ 100000000) (hT : Steps w) :
    Calls Tryd.prog 53 #[.int .u32 (x : Int), .string s] w fun e w' => e = .returned (.int .u32 ((upL x s.data.toList : Nat) : Int)) ∧ w = w' := by
  have hc := more_any x s w hx hs hT
  generalize upL x s.data.toList = t at hc ⊢
  clear hT
  go_enter Tryd.func53, Tryd.ntmps53
  go_wp2_with fail
  refine hc.mono ?_
  rintro e w' ⟨rfl, rfl⟩
  clear hc
  go_wp2
  go_ret
  exact ⟨rfl, rfl⟩

set_option maxHeartbeats 400000 in
theorem iso_any (s : ByteArray) (w : World) (hs : s.size ≤ 100000000) (hT : Steps w) :
    Calls Tryd.prog 33 #[.string s] w fun e w' => e = .returned (.int .u32 ((upL 4294967295 s.data.toList : Nat) : Int)) ∧ w = w' := by
  have hc := ism_any 4294967295 s w (by omega) hs hT
  generalize upL 4294967295 s.data.toList = t at hc ⊢
  clear hT
  go_enter Tryd.func33, Tryd.ntmps33
  go_wp2_with fail
  refine hc.mono ?_
  rintro e w' ⟨rfl, rfl⟩
  clear hc
  go_wp2
  go_ret
  exact ⟨rfl, rfl⟩
end Go.Proofs.YtfccainebmbbdaaDoor
namespace Go.Proofs.YtfccainebmbbdaaDoor
open Go.RowKit

def fourL (x : Nat) : List UInt8 := [UInt8.ofNat (x / 16777216), UInt8.ofNat (x / 65536), UInt8.ofNat (x / 256), UInt8.ofNat x]

theorem fourL_len (x : Nat) : (fourL x).length = 4 := rfl

theorem fourL_inj {x y : Nat} (hx : x < 4294967296) (hy : y < 4294967296) (h : fourL x = fourL y) : x = y := by
  unfold fourL at h
  simp only [List.cons.injEq, and_true] at h
  obtain ⟨a, b, c, d⟩ := h
  have a' := congrArg UInt8.toNat a
  have b' := congrArg UInt8.toNat b
  have c' := congrArg UInt8.toNat c
  have d' := congrArg UInt8.toNat d
  simp at a' b' c' d'
  omega

/-- 'string' of the four bytes just made -/
theorem run_four (x : Nat) (hx : x < 4294967296) (w : World) (a b c d : Int) (ha : a = (x : Int) / 16777216) (hb : b = (x : Int) / 65536 % 256) (hc : c = (x : Int) / 256 % 256) (hd : d = (x : Int) % 256) :
    (convert 57 9 (.slice (some ⟨w.heap.size, 0, none⟩) 4 4)).run Tryd.prog (w.alloc (.cells #[.int .u8 a, .int .u8 b, .int .u8 c, .int .u8 d] 5)) =
      .ok (.string (bs (fourL x))) (w.alloc (.cells #[.int .u8 a, .int .u8 b, .int .u8 c, .int .u8 d] 5)) := by
  refine run_convert_bytes_back _ 57 9 5 ⟨w.heap.size, 0, none⟩ 4 (fourL x) Tryd.underlying57 Tryd.underlying5 Tryd.underlying9 (fun j hj => ?_)
  have hj4 : j < 4 := hj
  have e1 : (⟨w.heap.size, 0, none⟩ : Addr).add j = ⟨w.heap.size, j, none⟩ := by
    simp only [Addr.add, Nat.zero_add]
    split <;> simp_all
  rw [e1, World.cell?_alloc_at _ _ _ _ rfl]
  have : j = 0 ∨ j = 1 ∨ j = 2 ∨ j = 3 := by omega
  rcases this with rfl | rfl | rfl | rfl
  · simp [fourL]; omega
  · simp [fourL]; omega
  · simp [fourL]; omega
  · simp [fourL]; omega

set_option maxRecDepth 100000 in
set_option maxHeartbeats 1000000 in
theorem sfour_any (x : Nat) (w : World) (hx : x < 4294967296) :
    Calls Tryd.prog 24 #[.int .u32 (x : Int)] w fun e w' => e = .returned (.string (bs (fourL x))) ∧ Below w.heap.size w w' := by
  have h4 := run_four x hx w _ _ _ _ rfl rfl rfl rfl
  generalize bs (fourL x) = t at h4 ⊢
  go_enter Tryd.func24, Tryd.ntmps24
  go_wp2
  go_ret
  exact ⟨rfl, (Below.refl _ _).alloc (Nat.le_refl _) _⟩

set_option maxRecDepth 100000 in
set_option maxHeartbeats 1000000 in
theorem ifour_any (x : Nat) (w : World) (hx : x < 4294967296) :
    Calls Tryd.prog 34 #[.int .u32 (x : Int)] w fun e w' => e = .returned (.string (bs (fourL x))) ∧ Below w.heap.size w w' := by
  have h4 := run_four x hx w _ _ _ _ rfl rfl rfl rfl
  generalize bs (fourL x) = t at h4 ⊢
  go_enter Tryd.func34, Tryd.ntmps34
  go_wp2
  go_ret
  exact ⟨rfl, (Below.refl _ _).alloc (Nat.le_refl _) _⟩

def sumS (s : ByteArray) : Nat := upL 4294967295 s.data.toList

theorem sumS_lt (s : ByteArray) : sumS s < 4294967296 := upL_lt _ _ (by omega)

def seV (s : ByteArray) : Value := if s.size ≤ 20000 then .tuple #[.string (s ++ bs (fourL (sumS s))), .bool true] else .tuple #[.string (bs []), .bool false]

theorem seV_two (s : ByteArray) : ∃ (t : ByteArray) (c : Bool), seV s = .tuple #[.string t, .bool c] := by
  unfold seV
  split <;> exact ⟨_, _, rfl⟩

set_option maxRecDepth 100000 in
set_option maxHeartbeats 1000000 in
theorem sse_any (s : ByteArray) (w : World) (hs : s.size ≤ 1048576) :
    Calls Tryd.prog 32 #[.string s] w fun e w' => e = .returned (seV s) ∧ Below w.heap.size w w' := by
  by_cases h : (20000 : Int) < (s.size : Int)
  · have e : seV s = .tuple #[.string (bs []), .bool false] := by unfold seV; rw [if_neg (by omega)]
    rw [e]
    clear e
    go_enter Tryd.func32, Tryd.ntmps32
    go_wp2
    go_ret2
    exact ⟨rfl, Below.refl _ _⟩
  · have hl := sumS_lt s
    have h1 := sso_any s w (by omega)
    rw [show upL 4294967295 s.data.toList = sumS s from rfl] at h1
    have e : seV s = .tuple #[.string (s ++ bs (fourL (sumS s))), .bool true] := by unfold seV; rw [if_pos (by omega)]
    rw [e]
    clear e
    generalize sumS s = x at h1 hl ⊢
    obtain ⟨t, ht⟩ : ∃ t, t = bs (fourL x) := ⟨_, rfl⟩
    have htz : t.size = 4 := by rw [ht]; rfl
    go_enter Tryd.func32, Tryd.ntmps32
    go_wp2_with fail
    refine h1.mono ?_
    rintro e w1 ⟨rfl, rfl⟩
    clear h1
    go_wp2_with fail
    refine (sfour_any x _ hl).mono ?_
    rw [← ht]
    rintro e w1 ⟨rfl, b1⟩
    have HT := hide ht
    clear ht
    go_wp2
    go_ret2
    exact ⟨by rw [← HT.out]; rfl, b1⟩

end Go.Proofs.YtfccainebmbbdaaDoor
namespace Go.Proofs.YtfccainebmbbdaaDoor
open Go.RowKit

set_option linter.unusedSimpArgs false

theorem allOk_at {α : Type} {f : α → Bool} {xs : List α} (h : allOk f xs = true) (i : Nat) (hi : i < xs.length) : f xs[i] = true := by
  have h1 := List.all_eq_true.1 h i (List.mem_range.2 hi)
  unfold okAt at h1
  rw [List.getElem?_eq_getElem hi] at h1
  exact h1

theorem nears_le {o : Int} {ns : List Nr} (h : nearsB o ns = true) : ns.length ≤ 6 := by
  unfold nearsB at h
  simp only [Bool.and_eq_true] at h
  have hb : ∀ i (hi : i < ns.length), (i : Int) + 1 ≤ ns[i].to := by
    intro i
    induction i with
    | zero =>
      intro hi
      have h1 := allOk_at h.1 0 hi
      unfold nearOkB inB at h1
      simp only [Bool.and_eq_true, decide_eq_true_eq] at h1
      omega
    | succ i ih =>
      intro hi
      have h1 := ih (by omega)
      have h2 := List.all_eq_true.1 h.2 (i + 1) (List.mem_range.2 hi)
      rw [ascAt_eq (List.getElem?_eq_getElem (by omega)) (List.getElem?_eq_getElem hi)] at h2
      unfold ordN at h2
      simp only [decide_eq_true_eq] at h2
      omega
  cases Nat.lt_or_ge 6 ns.length with
  | inr h0 => exact h0
  | inl h0 =>
    have h1 := hb 6 h0
    have h2 := allOk_at h.1 6 h0
    unfold nearOkB inB at h2
    simp only [Bool.and_eq_true, decide_eq_true_eq] at h2
    omega

theorem recOk_near {x : RecD} (h : recOkB x = true) : x.near.length ≤ 6 := by
  unfold recOkB at h
  simp only [Bool.and_eq_true] at h
  have h2 := h.2
  split at h2
  · simp only [Bool.and_eq_true] at h2
    exact nears_le h2.1.1.2
  · split at h2
    · simp only [Bool.and_eq_true, beq_iff_eq] at h2
      omega
    · split at h2
      · simp only [Bool.and_eq_true, beq_iff_eq] at h2
        omega
      · cases h2

end Go.Proofs.YtfccainebmbbdaaDoor
