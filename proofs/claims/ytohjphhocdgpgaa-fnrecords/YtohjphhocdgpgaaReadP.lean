/-
  Reading a record out of bytes: the plain mathematics.
-/
import Derived.Test.YtohjphhocdgpgaaTextMath
import Derived.Test.YtohjphhocdgpgaaReadMath
namespace Go.Proofs.Ytohjphhocdgpgaa
open Go.RowKit

structure Rd3 where
  v : Int
  p : Nat
  b : Bool

structure RdL where
  l : List Nr
  p : Nat
  b : Bool

def oneR (s : ByteArray) (p : Nat) (b : Bool) : Rd3 := if b then ⟨0, p, true⟩ else if h : p < s.size then ⟨(s[p].toNat : Int), p + 1, false⟩ else ⟨0, p, true⟩

def varR (s : ByteArray) (p : Nat) (b : Bool) : Rd3 := if b then ⟨0, p, true⟩ else match rdO s p with
  | some (v, k) => ⟨(v : Int), p + k, false⟩
  | none => ⟨0, p, true⟩

def nearStep (s : ByteArray) (x : RdL) : RdL := if x.b then x else ⟨x.l ++ [⟨(oneR s x.p false).v, (varR s (oneR s x.p false).p (oneR s x.p false).b).v⟩], (varR s (oneR s x.p false).p (oneR s x.p false).b).p, (varR s (oneR s x.p false).p (oneR s x.p false).b).b⟩

def nearA (s : ByteArray) (p : Nat) (b : Bool) : Nat → RdL
  | 0 => ⟨[], p, b⟩
  | k + 1 => nearStep s (nearA s p b k)

/-- p bytes have been read: they are l -/
def Got (s : ByteArray) (p : Nat) (l : List UInt8) : Prop := p ≤ s.size ∧ s.data.toList.take p = l

theorem rdA_bytes : ∀ (f : Nat) (pre rest : List UInt8) (v k : Nat), (∀ b ∈ pre, 127 < b.toNat) → rdA f pre rest = some (v, k) → v ≤ 1000000000 ∧ pre.length < k ∧ k ≤ pre.length + rest.length ∧ varL v = (pre ++ rest).take k
  | 0, _, _, _, _, _, h => by simp [rdA] at h
  | f + 1, pre, [], v, k, _, h => by simp [rdA] at h
  | f + 1, pre, c :: r, v, k, hp, h => by
    by_cases hc : 127 < c.toNat
    · rw [rdA_more _ _ _ _ hc] at h
      have ih := rdA_bytes f (pre ++ [c]) r v k (fun b hb => by
        rcases List.mem_append.1 hb with hb | hb
        · exact hp b hb
        · simp at hb; rw [hb]; exact hc) h
      simp only [List.length_append, List.length_cons, List.length_nil, List.append_assoc, List.cons_append, List.nil_append] at ih ⊢
      exact ⟨ih.1, by omega, by omega, ih.2.2.2⟩
    · by_cases h2 : (c.toNat = 0 ∧ pre ≠ []) ∨ 1000000000 < valL (pre ++ [c])
      · rw [rdA_no _ _ _ _ (by omega) h2] at h; cases h
      · have h3 : ¬ (c.toNat = 0 ∧ pre ≠ []) := fun e => h2 (.inl e)
        have h4 : valL (pre ++ [c]) ≤ 1000000000 := by
          rcases Nat.lt_or_ge 1000000000 (valL (pre ++ [c])) with e | e
          · exact absurd (.inr e) h2
          · exact e
        rw [rdA_yes _ _ _ _ (by omega) h3 h4] at h
        simp only [Option.some.injEq, Prod.mk.injEq] at h
        obtain ⟨rfl, rfl⟩ := h
        refine ⟨h4, by omega, by simp, ?_⟩
        rw [(var_val pre c hp (by omega)).2 h3]
        rw [List.take_append, List.take_of_length_le (by omega)]
        simp

theorem rdO_bytes {s : ByteArray} {p v k : Nat} (hp : p ≤ s.size) (h : rdO s p = some (v, k)) : v ≤ 1000000000 ∧ 0 < k ∧ p + k ≤ s.size ∧ varL v = (s.data.toList.drop p).take k := by
  have h1 := rdA_bytes 5 [] (s.data.toList.drop p) v k (by simp) h
  simp only [List.length_nil, List.nil_append, List.length_drop, Nat.zero_add] at h1
  have hsz : s.data.toList.length = s.size := by simp
  exact ⟨h1.1, h1.2.1, by omega, h1.2.2.2⟩

theorem oneR_le {s : ByteArray} {p : Nat} {b : Bool} (hp : p ≤ s.size) : (oneR s p b).p ≤ s.size := by
  unfold oneR
  split
  · exact hp
  · split
    · show p + 1 ≤ s.size; omega
    · exact hp

theorem oneR_range (s : ByteArray) (p : Nat) (b : Bool) : 0 ≤ (oneR s p b).v ∧ (oneR s p b).v ≤ 255 := by
  unfold oneR
  split
  · simp
  · split
    · rename_i h
      have := s[p].toNat_lt
      simp only []
      omega
    · simp

theorem varR_le {s : ByteArray} {p : Nat} {b : Bool} (hp : p ≤ s.size) : (varR s p b).p ≤ s.size := by
  unfold varR
  split
  · exact hp
  · cases h : rdO s p with
    | none => exact hp
    | some x => exact (rdO_bytes hp h).2.2.1

theorem varR_range {s : ByteArray} {p : Nat} {b : Bool} (hp : p ≤ s.size) : 0 ≤ (varR s p b).v ∧ (varR s p b).v ≤ 1000000000 := by
  unfold varR
  split
  · simp
  · cases h : rdO s p with
    | none => simp
    | some x =>
      have := (rdO_bytes hp h).1
      simp only []
      omega

theorem oneR_bad (s : ByteArray) (p : Nat) : (oneR s p true) = ⟨0, p, true⟩ := by simp [oneR]

theorem varR_bad (s : ByteArray) (p : Nat) : (varR s p true) = ⟨0, p, true⟩ := by simp [varR]

theorem oneR_got {s : ByteArray} {p : Nat} {b : Bool} {l : List UInt8} (h : (oneR s p b).b = false) (g : b = false → Got s p l) : b = false ∧ Got s (oneR s p b).p (l ++ [byB (oneR s p b).v]) := by
  cases b with
  | true => rw [oneR_bad] at h; cases h
  | false =>
    refine ⟨rfl, ?_⟩
    obtain ⟨g1, g2⟩ := g rfl
    unfold oneR at h ⊢
    simp only [Bool.false_eq_true, if_false] at h ⊢
    split at h
    · rename_i hp
      simp only [dif_pos hp]
      refine ⟨by omega, ?_⟩
      have := take_byte s 0 p (by omega) hp
      simp only [List.drop_zero, Nat.sub_zero] at this
      rw [this, g2]
      congr 2
      simp [byB]
    · cases h

theorem varR_got {s : ByteArray} {p : Nat} {b : Bool} {l : List UInt8} (h : (varR s p b).b = false) (g : b = false → Got s p l) : b = false ∧ Got s (varR s p b).p (l ++ varL (varR s p b).v.toNat) := by
  cases b with
  | true => rw [varR_bad] at h; cases h
  | false =>
    refine ⟨rfl, ?_⟩
    obtain ⟨g1, g2⟩ := g rfl
    unfold varR at h ⊢
    simp only [Bool.false_eq_true, if_false] at h ⊢
    cases hr : rdO s p with
    | none => rw [hr] at h; cases h
    | some x =>
      obtain ⟨v, k⟩ := x
      obtain ⟨h1, h2, h3, h4⟩ := rdO_bytes g1 hr
      refine ⟨h3, ?_⟩
      simp only [Int.toNat_natCast]
      rw [List.take_add, g2, h4]

theorem nearA_le {s : ByteArray} {p : Nat} {b : Bool} (hp : p ≤ s.size) : ∀ k, (nearA s p b k).p ≤ s.size
  | 0 => hp
  | k + 1 => by
    have ih := nearA_le (b := b) hp k
    simp only [nearA, nearStep]
    split
    · exact ih
    · exact varR_le (oneR_le ih)

theorem nearA_bad {s : ByteArray} {p : Nat} {b : Bool} {k : Nat} (h : (nearA s p b k).b = true) : ∀ m, nearA s p b (k + m) = nearA s p b k
  | 0 => rfl
  | m + 1 => by
    have ih := nearA_bad h m
    show nearStep s (nearA s p b (k + m)) = _
    rw [ih]
    unfold nearStep
    rw [if_pos h]

theorem nearA_good {s : ByteArray} {p : Nat} {b : Bool} {k : Nat} (h : (nearA s p b k).b = false) : nearA s p b (k + 1) = ⟨(nearA s p b k).l ++ [⟨(oneR s (nearA s p b k).p false).v, (varR s (oneR s (nearA s p b k).p false).p (oneR s (nearA s p b k).p false).b).v⟩], (varR s (oneR s (nearA s p b k).p false).p (oneR s (nearA s p b k).p false).b).p, (varR s (oneR s (nearA s p b k).p false).p (oneR s (nearA s p b k).p false).b).b⟩ := by
  show nearStep s (nearA s p b k) = _
  unfold nearStep
  rw [if_neg (by rw [h]; simp)]

theorem nearA_len (s : ByteArray) (p : Nat) (b : Bool) : ∀ k, (nearA s p b k).l.length ≤ k
  | 0 => by simp [nearA]
  | k + 1 => by
    have ih := nearA_len s p b k
    simp only [nearA, nearStep]
    split
    · omega
    · simp; omega

/-- each of them took two bytes at least, the last one perhaps none -/
theorem nearA_size {s : ByteArray} {p : Nat} {b : Bool} (hp : p ≤ s.size) : ∀ k, (nearA s p b k).l.length ≤ s.size + 1 ∧ ((nearA s p b k).b = false → (nearA s p b k).l.length ≤ (nearA s p b k).p)
  | 0 => by simp [nearA]
  | k + 1 => by
    have ih := nearA_size (b := b) hp k
    have hle := nearA_le (b := b) hp k
    cases hb : (nearA s p b k).b with
    | true =>
      rw [nearA_bad hb 1]
      exact ⟨ih.1, fun h => by rw [hb] at h; cases h⟩
    | false =>
      rw [nearA_good hb]
      have ih2 := ih.2 hb
      simp only [List.length_append, List.length_cons, List.length_nil]
      refine ⟨by omega, fun h => ?_⟩
      have h1 := varR_got (l := s.data.toList.take (oneR s (nearA s p b k).p false).p) h (fun _ => ⟨oneR_le hle, rfl⟩)
      have h2 := oneR_got (l := s.data.toList.take (nearA s p b k).p) h1.1 (fun _ => ⟨hle, rfl⟩)
      have e1 := congrArg List.length h2.2.2
      have e2 := congrArg List.length h1.2.2
      have hsz : s.data.toList.length = s.size := by simp
      have h3 := h2.2.1
      have h4 := h1.2.1
      simp only [List.length_append, List.length_take, List.length_cons, List.length_nil, hsz] at e1 e2
      omega

theorem nearA_got {s : ByteArray} {p : Nat} {b : Bool} {l : List UInt8} (g : b = false → Got s p l) (hp : p ≤ s.size) : ∀ k, (nearA s p b k).b = false → b = false ∧ (nearA s p b k).l.length = k ∧ Got s (nearA s p b k).p (l ++ nearsL (nearA s p b k).l)
  | 0, h => by
    have hb : b = false := h
    exact ⟨hb, rfl, by simpa [nearA, nearsL] using g hb⟩
  | k + 1, h => by
    have hle := nearA_le (b := b) hp k
    cases hb : (nearA s p b k).b with
    | true => rw [nearA_bad hb 1, hb] at h; cases h
    | false =>
      obtain ⟨i1, i2, i3⟩ := nearA_got g hp k hb
      rw [nearA_good hb] at h ⊢
      simp only [] at h ⊢
      have hc : (varR s (oneR s (nearA s p b k).p false).p (oneR s (nearA s p b k).p false).b).b = false := h
      have hb1 : (oneR s (nearA s p b k).p false).b = false := (varR_got (l := s.data.toList.take (oneR s (nearA s p b k).p false).p) hc (fun _ => ⟨oneR_le hle, rfl⟩)).1
      have h2 := (oneR_got hb1 (fun _ => i3)).2
      have h1 := (varR_got hc (fun _ => h2)).2
      refine ⟨i1, by simp [i2], ?_⟩
      have e : l ++ nearsL ((nearA s p b k).l ++ [⟨(oneR s (nearA s p b k).p false).v, (varR s (oneR s (nearA s p b k).p false).p (oneR s (nearA s p b k).p false).b).v⟩]) = l ++ nearsL (nearA s p b k).l ++ [byB (oneR s (nearA s p b k).p false).v] ++ varL (varR s (oneR s (nearA s p b k).p false).p (oneR s (nearA s p b k).p false).b).v.toNat := by
        simp [nearsL, nearL]
      rw [e]
      exact h1
end Go.Proofs.Ytohjphhocdgpgaa
