/-
  The plain mathematics of sums: eight halvings for a byte, the short table, one byte turned makes another sum.
-/
import Derived.Test.YtejlgmdpdimknaaDoorMath
namespace Go.Proofs.YtejlgmdpdimknaaDoor
open Go.RowKit

def st (x : Nat) : Nat := if x % 2 = 1 then x / 2 ^^^ 3558460437 else x / 2


theorem st_xor (a b : Nat) : st (a ^^^ b) = st a ^^^ st b := by
  have h1 : (a ^^^ b) / 2 = a / 2 ^^^ b / 2 := Nat.xor_div_two
  have h2 : ((a ^^^ b) % 2 = 1) ↔ ¬ ((a % 2 = 1) ↔ (b % 2 = 1)) := Nat.xor_mod_two_eq_one
  unfold st
  rw [h1]
  have ha : a % 2 = 0 ∨ a % 2 = 1 := by omega
  have hb : b % 2 = 0 ∨ b % 2 = 1 := by omega
  rcases ha with ha | ha <;> rcases hb with hb | hb
  · rw [if_neg (by omega), if_neg (by omega), if_neg (by omega)]
  · rw [if_pos (by omega), if_neg (by omega), if_pos (by omega)]; ac_rfl
  · rw [if_pos (by omega), if_pos (by omega), if_neg (by omega)]; ac_rfl
  · rw [if_neg (by omega), if_pos (by omega), if_pos (by omega)]
    rw [show a / 2 ^^^ 3558460437 ^^^ (b / 2 ^^^ 3558460437) = (a / 2 ^^^ b / 2) ^^^ (3558460437 ^^^ 3558460437) by ac_rfl, Nat.xor_self, Nat.xor_zero]

theorem st_lt (x : Nat) (h : x < 4294967296) : st x < 4294967296 := by
  unfold st
  split
  · exact Nat.xor_lt_two_pow (n := 32) (by omega) (by omega)
  · omega

def tab16 : List Nat := [0x00000000, 0x4589ac8d, 0x8b13591a, 0xce9af597, 0xbe152a1f, 0xfb9c8692, 0x35067305, 0x708fdf88, 0xd419cc15, 0x91906098, 0x5f0a950f, 0x1a833982, 0x6a0ce60a, 0x2f854a87, 0xe11fbf10, 0xa496139d]

theorem st_even (y : Nat) : st (2 * y) = y := by unfold st; rw [if_neg (by omega)]; omega
theorem st_odd (y : Nat) : st (2 * y + 1) = y ^^^ 3558460437 := by unfold st; rw [if_pos (by omega)]; congr 1; omega

theorem four_st (x : Nat) : st (st (st (st x))) = x / 16 ^^^ tab16.getD (x % 16) 0 := by
  have hx : x = 16 * (x / 16) ^^^ (x % 16) := by
    have := Nat.two_pow_add_eq_or_of_lt (i := 4) (b := x % 16) (by omega) (x / 16)
    have h2 : (2 ^ 4 * (x / 16)) ||| (x % 16) = 16 * (x / 16) ^^^ (x % 16) := by
      rw [show (16 : Nat) * (x / 16) = 2 ^ 4 * (x / 16) from rfl]
      apply Nat.eq_of_testBit_eq
      intro i
      rw [Nat.testBit_or, Nat.testBit_xor, Nat.testBit_two_pow_mul]
      by_cases hi : 4 ≤ i
      · have : (x % 16).testBit i = false := Nat.testBit_lt_two_pow (Nat.lt_of_lt_of_le (by omega) (Nat.pow_le_pow_right (by omega : 0 < 2) hi))
        simp [this]
      · simp [hi]
    omega
  generalize x / 16 = y at *
  have hr : x % 16 < 16 := by omega
  generalize x % 16 = r at *
  subst hx
  simp only [st_xor]
  have e : st (st (st (st (16 * y)))) = y := by
    rw [show 16 * y = 2 * (2 * (2 * (2 * y))) by omega, st_even, st_even, st_even, st_even]
  rw [e]
  congr 1
  have key : ∀ r : Fin 16, st (st (st (st r.val))) = tab16.getD r.val 0 := by decide
  exact key ⟨r, hr⟩

def upB (x : Nat) (b : UInt8) : Nat := st (st (st (st (st (st (st (st (x ^^^ b.toNat))))))))

def upL (x : Nat) (l : List UInt8) : Nat := l.foldl upB x

theorem st_zero {x : Nat} (h : x < 4294967296) (h0 : st x = 0) : x = 0 := by
  unfold st at h0
  split at h0
  · exfalso
    have : x / 2 = 3558460437 := by
      have e : x / 2 ^^^ 3558460437 ^^^ 3558460437 = 0 ^^^ 3558460437 := by rw [h0]
      rw [Nat.xor_assoc, Nat.xor_self, Nat.xor_zero, Nat.zero_xor] at e
      exact e
    omega
  · omega

theorem xor_zero_eq {a b : Nat} (h : a ^^^ b = 0) : a = b := by
  have e : a ^^^ b ^^^ b = 0 ^^^ b := by rw [h]
  rw [Nat.xor_assoc, Nat.xor_self, Nat.xor_zero, Nat.zero_xor] at e
  exact e

theorem st_inj {a b : Nat} (ha : a < 4294967296) (hb : b < 4294967296) (h : st a = st b) : a = b := by
  apply xor_zero_eq
  apply st_zero (Nat.xor_lt_two_pow (n := 32) ha hb)
  rw [st_xor, h, Nat.xor_self]

theorem upB_lt (x : Nat) (b : UInt8) (h : x < 4294967296) : upB x b < 4294967296 := by
  have hb : b.toNat < 4294967296 := by have := b.toNat_lt; omega
  have := Nat.xor_lt_two_pow (n := 32) h hb
  unfold upB
  exact st_lt _ (st_lt _ (st_lt _ (st_lt _ (st_lt _ (st_lt _ (st_lt _ (st_lt _ this)))))))

theorem upB_inj {x y : Nat} {b c : UInt8} (hx : x < 4294967296) (hy : y < 4294967296) (h : upB x b = upB y c) : x ^^^ b.toNat = y ^^^ c.toNat := by
  have hb : b.toNat < 4294967296 := by have := b.toNat_lt; omega
  have hc : c.toNat < 4294967296 := by have := c.toNat_lt; omega
  have h1 := Nat.xor_lt_two_pow (n := 32) hx hb
  have h2 := Nat.xor_lt_two_pow (n := 32) hy hc
  unfold upB at h
  have k := @st_lt
  exact st_inj h1 h2 (st_inj (k _ h1) (k _ h2) (st_inj (k _ (k _ h1)) (k _ (k _ h2)) (st_inj (k _ (k _ (k _ h1))) (k _ (k _ (k _ h2))) (st_inj (k _ (k _ (k _ (k _ h1)))) (k _ (k _ (k _ (k _ h2)))) (st_inj (k _ (k _ (k _ (k _ (k _ h1))))) (k _ (k _ (k _ (k _ (k _ h2))))) (st_inj (k _ (k _ (k _ (k _ (k _ (k _ h1)))))) (k _ (k _ (k _ (k _ (k _ (k _ h2)))))) (st_inj (k _ (k _ (k _ (k _ (k _ (k _ (k _ h1))))))) (k _ (k _ (k _ (k _ (k _ (k _ (k _ h2))))))) h)))))))

theorem upL_lt (l : List UInt8) : ∀ (x : Nat), x < 4294967296 → upL x l < 4294967296 := by
  induction l with
  | nil => intro x h; exact h
  | cons b l ih => intro x h; exact ih _ (upB_lt x b h)

theorem upL_inj (l : List UInt8) : ∀ {x y : Nat}, x < 4294967296 → y < 4294967296 → upL x l = upL y l → x = y := by
  induction l with
  | nil => intro x y _ _ h; exact h
  | cons b l ih =>
    intro x y hx hy h
    have := ih (upB_lt x b hx) (upB_lt y b hy) h
    have e := upB_inj hx hy this
    have e2 : x ^^^ b.toNat ^^^ b.toNat = y ^^^ b.toNat ^^^ b.toNat := by rw [e]
    rw [Nat.xor_assoc, Nat.xor_self, Nat.xor_zero, Nat.xor_assoc, Nat.xor_self, Nat.xor_zero] at e2
    exact e2

/-- one byte turned: another sum -/
theorem upL_turn (p q : List UInt8) (b c : UInt8) (x : Nat) (hx : x < 4294967296) (h : upL x (p ++ b :: q) = upL x (p ++ c :: q)) : b = c := by
  simp only [upL, List.foldl_append, List.foldl_cons] at h
  have h1 := upL_lt p x hx
  have e := upL_inj q (upB_lt _ b h1) (upB_lt _ c h1) h
  have e2 := upB_inj h1 h1 e
  have e3 : upL x p ^^^ (upL x p ^^^ b.toNat) = upL x p ^^^ (upL x p ^^^ c.toNat) := by rw [e2]
  rw [← Nat.xor_assoc, Nat.xor_self, Nat.zero_xor, ← Nat.xor_assoc, Nat.xor_self, Nat.zero_xor] at e3
  exact UInt8.toNat_inj.1 e3

theorem xor_u32 (x y : Nat) (hx : x < 4294967296) (hy : y < 4294967296) : bits .xor .u32 (x : Int) (y : Int) = ((x ^^^ y : Nat) : Int) := by
  have e : bits .xor .u32 (x : Int) (y : Int) = IntKind.u32.wrap ((BitVec.ofInt 32 (x : Int) ^^^ BitVec.ofInt 32 (y : Int)).toNat : Nat) := rfl
  have h : x ^^^ y < 4294967296 := Nat.xor_lt_two_pow (n := 32) hx hy
  rw [e, BitVec.toNat_xor]
  simp only [BitVec.ofInt_natCast, BitVec.toNat_ofNat]
  rw [Nat.mod_eq_of_lt hx, Nat.mod_eq_of_lt hy]
  simp only [IntKind.wrap, IntKind.signed, IntKind.bits]
  simp
  omega
end Go.Proofs.YtejlgmdpdimknaaDoor
