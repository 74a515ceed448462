/-
  Reading a record out of bytes: the plain mathematics.
  Reading a record: both ways of asking whether the bytes are a right record's come to the same.
  impl.ReadVar: its contract.
  impl.ReadVar at every text up to 1048576 bytes and every place.
-/
import Derived.Test.YtchmmekhfcojgaaGreatDoorPq20
import Derived.Test.YtchmmekhfcojgaaGreatDoorPq28
import Derived.Test.YtchmmekhfcojgaaGreatDoorPq1
namespace Go.Proofs.YtchmmekhfcojgaaGreatDoor
open Go.RowKit

structure Rd3 where
  v : Int
  p : Nat
  b : Bool

structure RdL where
  l : List Nr
  p : Nat
  b : Bool

def oneR (s : ByteArray) (p : Nat) (b : Bool) : Rd3 := if b then ⟨0, p, true⟩ else if h : p < s.size then ⟨(s[p].toNat : Int), p + 1, false⟩ else ⟨0, p, true⟩

def varR (s : ByteArray) (p : Nat) (b : Bool) : Rd3 := if b then ⟨0, p, true⟩ else match rdO s p with
  | some (v, k) => ⟨(v : Int), p + k, false⟩
  | none => ⟨0, p, true⟩

def nearStep (s : ByteArray) (x : RdL) : RdL := if x.b then x else ⟨x.l ++ [⟨(oneR s x.p false).v, (varR s (oneR s x.p false).p (oneR s x.p false).b).v⟩], (varR s (oneR s x.p false).p (oneR s x.p false).b).p, (varR s (oneR s x.p false).p (oneR s x.p false).b).b⟩

def nearA (s : ByteArray) (p : Nat) (b : Bool) : Nat → RdL
  | 0 => ⟨[], p, b⟩
  | k + 1 => nearStep s (nearA s p b k)

/-- p bytes have been read: they are l -/
def Got (s : ByteArray) (p : Nat) (l : List UInt8) : Prop := p ≤ s.size ∧ s.data.toList.take p = l

theorem rdA_bytes : ∀ (f : Nat) (pre rest : List UInt8) (v k : Nat), (∀ b ∈ pre, 127 < b.toNat) → rdA f pre rest = some (v, k) → v ≤ 1000000000 ∧ pre.length < k ∧ k ≤ pre.length + rest.length ∧ varL v = (pre ++ rest).take k
  | 0, _, _, _, _, _, h => by simp [rdA] at h
  | f + 1, pre, [], v, k, _, h => by simp [rdA] at h
  | f + 1, pre, c :: r, v, k, hp, h => by
    by_cases hc : 127 < c.toNat
    · rw [rdA_more _ _ _ _ hc] at h
      have ih := rdA_bytes f (pre ++ [c]) r v k (fun b hb => by
        rcases List.mem_append.1 hb with hb | hb
        · exact hp b hb
        · simp at hb; rw [hb]; exact hc) h
      simp only [List.length_append, List.length_cons, List.length_nil, List.append_assoc, List.cons_append, List.nil_append] at ih ⊢
      exact ⟨ih.1, by omega, by omega, ih.2.2.2⟩
    · by_cases h2 : (c.toNat = 0 ∧ pre ≠ []) ∨ 1000000000 < valL (pre ++ [c])
      · rw [rdA_no _ _ _ _ (by omega) h2] at h; cases h
      · have h3 : ¬ (c.toNat = 0 ∧ pre ≠ []) := fun e => h2 (.inl e)
        have h4 : valL (pre ++ [c]) ≤ 1000000000 := by
          rcases Nat.lt_or_ge 1000000000 (valL (pre ++ [c])) with e | e
          · exact absurd (.inr e) h2
          · exact e
        rw [rdA_yes _ _ _ _ (by omega) h3 h4] at h
        simp only [Option.some.injEq, Prod.mk.injEq] at h
        obtain ⟨rfl, rfl⟩ := h
        refine ⟨h4, by omega, by simp, ?_⟩
        rw [(var_val pre c hp (by omega)).2 h3]
        rw [List.take_append, List.take_of_length_le (by omega)]
        simp

theorem rdO_bytes {s : ByteArray} {p v k : Nat} (hp : p ≤ s.size) (h : rdO s p = some (v, k)) : v ≤ 1000000000 ∧ 0 < k ∧ p + k ≤ s.size ∧ varL v = (s.data.toList.drop p).take k := by
  have h1 := rdA_bytes 5 [] (s.data.toList.drop p) v k (by simp) h
  simp only [List.length_nil, List.nil_append, List.length_drop, Nat.zero_add] at h1
  have hsz : s.data.toList.length = s.size := by simp
  exact ⟨h1.1, h1.2.1, by omega, h1.2.2.2⟩

theorem oneR_le {s : ByteArray} {p : Nat} {b : Bool} (hp : p ≤ s.size) : (oneR s p b).p ≤ s.size := by
  unfold oneR
  split
  · exact hp
  · split
    · show p + 1 ≤ s.size; omega
    · exact hp

theorem oneR_range (s : ByteArray) (p : Nat) (b : Bool) : 0 ≤ (oneR s p b).v ∧ (oneR s p b).v ≤ 255 := by
  unfold oneR
  split
  · simp
  · split
    · rename_i h
      have := s[p].toNat_lt
      simp only []
      omega
    · simp

theorem varR_le {s : ByteArray} {p : Nat} {b : Bool} (hp : p ≤ s.size) : (varR s p b).p ≤ s.size := by
  unfold varR
  split
  · exact hp
  · cases h : rdO s p with
    | none => exact hp
    | some x => exact (rdO_bytes hp h).2.2.1

theorem varR_range {s : ByteArray} {p : Nat} {b : Bool} (hp : p ≤ s.size) : 0 ≤ (varR s p b).v ∧ (varR s p b).v ≤ 1000000000 := by
  unfold varR
  split
  · simp
  · cases h : rdO s p with
    | none => simp
    | some x =>
      have := (rdO_bytes hp h).1
      simp only []
      omega

theorem oneR_bad (s : ByteArray) (p : Nat) : (oneR s p true) = ⟨0, p, true⟩ := by simp [oneR]

theorem varR_bad (s : ByteArray) (p : Nat) : (varR s p true) = ⟨0, p, true⟩ := by simp [varR]

theorem oneR_got {s : ByteArray} {p : Nat} {b : Bool} {l : List UInt8} (h : (oneR s p b).b = false) (g : b = false → Got s p l) : b = false ∧ Got s (oneR s p b).p (l ++ [byB (oneR s p b).v]) := by
  cases b with
  | true => rw [oneR_bad] at h; cases h
  | false =>
    refine ⟨rfl, ?_⟩
    obtain ⟨g1, g2⟩ := g rfl
    unfold oneR at h ⊢
    simp only [Bool.false_eq_true, if_false] at h ⊢
    split at h
    · rename_i hp
      simp only [dif_pos hp]
      refine ⟨by omega, ?_⟩
      have := take_byte s 0 p (by omega) hp
      simp only [List.drop_zero, Nat.sub_zero] at this
      rw [this, g2]
      congr 2
      simp [byB]
    · cases h

theorem varR_got {s : ByteArray} {p : Nat} {b : Bool} {l : List UInt8} (h : (varR s p b).b = false) (g : b = false → Got s p l) : b = false ∧ Got s (varR s p b).p (l ++ varL (varR s p b).v.toNat) := by
  cases b with
  | true => rw [varR_bad] at h; cases h
  | false =>
    refine ⟨rfl, ?_⟩
    obtain ⟨g1, g2⟩ := g rfl
    unfold varR at h ⊢
    simp only [Bool.false_eq_true, if_false] at h ⊢
    cases hr : rdO s p with
    | none => rw [hr] at h; cases h
    | some x =>
      obtain ⟨v, k⟩ := x
      obtain ⟨h1, h2, h3, h4⟩ := rdO_bytes g1 hr
      refine ⟨h3, ?_⟩
      simp only [Int.toNat_natCast]
      rw [List.take_add, g2, h4]

theorem nearA_le {s : ByteArray} {p : Nat} {b : Bool} (hp : p ≤ s.size) : ∀ k, (nearA s p b k).p ≤ s.size
  | 0 => hp
  | k + 1 => by
    have ih := nearA_le (b := b) hp k
    simp only [nearA, nearStep]
    split
    · exact ih
    · exact varR_le (oneR_le ih)

theorem nearA_bad {s : ByteArray} {p : Nat} {b : Bool} {k : Nat} (h : (nearA s p b k).b = true) : ∀ m, nearA s p b (k + m) = nearA s p b k
  | 0 => rfl
  | m + 1 => by
    have ih := nearA_bad h m
    show nearStep s (nearA s p b (k + m)) = _
    rw [ih]
    unfold nearStep
    rw [if_pos h]

theorem nearA_good {s : ByteArray} {p : Nat} {b : Bool} {k : Nat} (h : (nearA s p b k).b = false) : nearA s p b (k + 1) = ⟨(nearA s p b k).l ++ [⟨(oneR s (nearA s p b k).p false).v, (varR s (oneR s (nearA s p b k).p false).p (oneR s (nearA s p b k).p false).b).v⟩], (varR s (oneR s (nearA s p b k).p false).p (oneR s (nearA s p b k).p false).b).p, (varR s (oneR s (nearA s p b k).p false).p (oneR s (nearA s p b k).p false).b).b⟩ := by
  show nearStep s (nearA s p b k) = _
  unfold nearStep
  rw [if_neg (by rw [h]; simp)]

theorem nearA_len (s : ByteArray) (p : Nat) (b : Bool) : ∀ k, (nearA s p b k).l.length ≤ k
  | 0 => by simp [nearA]
  | k + 1 => by
    have ih := nearA_len s p b k
    simp only [nearA, nearStep]
    split
    · omega
    · simp; omega

/-- each of them took two bytes at least, the last one perhaps none -/
theorem nearA_size {s : ByteArray} {p : Nat} {b : Bool} (hp : p ≤ s.size) : ∀ k, (nearA s p b k).l.length ≤ s.size + 1 ∧ ((nearA s p b k).b = false → (nearA s p b k).l.length ≤ (nearA s p b k).p)
  | 0 => by simp [nearA]
  | k + 1 => by
    have ih := nearA_size (b := b) hp k
    have hle := nearA_le (b := b) hp k
    cases hb : (nearA s p b k).b with
    | true =>
      rw [nearA_bad hb 1]
      exact ⟨ih.1, fun h => by rw [hb] at h; cases h⟩
    | false =>
      rw [nearA_good hb]
      have ih2 := ih.2 hb
      simp only [List.length_append, List.length_cons, List.length_nil]
      refine ⟨by omega, fun h => ?_⟩
      have h1 := varR_got (l := s.data.toList.take (oneR s (nearA s p b k).p false).p) h (fun _ => ⟨oneR_le hle, rfl⟩)
      have h2 := oneR_got (l := s.data.toList.take (nearA s p b k).p) h1.1 (fun _ => ⟨hle, rfl⟩)
      have e1 := congrArg List.length h2.2.2
      have e2 := congrArg List.length h1.2.2
      have hsz : s.data.toList.length = s.size := by simp
      have h3 := h2.2.1
      have h4 := h1.2.1
      simp only [List.length_append, List.length_take, List.length_cons, List.length_nil, hsz] at e1 e2
      omega

theorem nearA_got {s : ByteArray} {p : Nat} {b : Bool} {l : List UInt8} (g : b = false → Got s p l) (hp : p ≤ s.size) : ∀ k, (nearA s p b k).b = false → b = false ∧ (nearA s p b k).l.length = k ∧ Got s (nearA s p b k).p (l ++ nearsL (nearA s p b k).l)
  | 0, h => by
    have hb : b = false := h
    exact ⟨hb, rfl, by simpa [nearA, nearsL] using g hb⟩
  | k + 1, h => by
    have hle := nearA_le (b := b) hp k
    cases hb : (nearA s p b k).b with
    | true => rw [nearA_bad hb 1, hb] at h; cases h
    | false =>
      obtain ⟨i1, i2, i3⟩ := nearA_got g hp k hb
      rw [nearA_good hb] at h ⊢
      simp only [] at h ⊢
      have hc : (varR s (oneR s (nearA s p b k).p false).p (oneR s (nearA s p b k).p false).b).b = false := h
      have hb1 : (oneR s (nearA s p b k).p false).b = false := (varR_got (l := s.data.toList.take (oneR s (nearA s p b k).p false).p) hc (fun _ => ⟨oneR_le hle, rfl⟩)).1
      have h2 := (oneR_got hb1 (fun _ => i3)).2
      have h1 := (varR_got hc (fun _ => h2)).2
      refine ⟨i1, by simp [i2], ?_⟩
      have e : l ++ nearsL ((nearA s p b k).l ++ [⟨(oneR s (nearA s p b k).p false).v, (varR s (oneR s (nearA s p b k).p false).p (oneR s (nearA s p b k).p false).b).v⟩]) = l ++ nearsL (nearA s p b k).l ++ [byB (oneR s (nearA s p b k).p false).v] ++ varL (varR s (oneR s (nearA s p b k).p false).p (oneR s (nearA s p b k).p false).b).v.toNat := by
        simp [nearsL, nearL]
      rw [e]
      exact h1
end Go.Proofs.YtchmmekhfcojgaaGreatDoor
namespace Go.Proofs.YtchmmekhfcojgaaGreatDoor
open Go.RowKit

/-- where the reading of the fields stands, field by field -/
def r0 (s : ByteArray) : Rd3 := oneR s 0 false
def r1 (s : ByteArray) : Rd3 := oneR s (r0 s).p (r0 s).b
def r2 (s : ByteArray) : Rd3 := oneR s (r1 s).p (r1 s).b
def r3 (s : ByteArray) : Rd3 := oneR s (r2 s).p (r2 s).b
def r4 (s : ByteArray) : Rd3 := varR s (r3 s).p (r3 s).b
def r5 (s : ByteArray) : Rd3 := varR s (r4 s).p (r4 s).b
def r6 (s : ByteArray) (n : Nat) : RdL := nearA s (r5 s).p (r5 s).b n
def r7 (s : ByteArray) (n : Nat) : Rd3 := varR s (r6 s n).p (r6 s n).b
def r8 (s : ByteArray) (n : Nat) : Rd3 := oneR s (r7 s n).p (r7 s n).b

def recP (s : ByteArray) (n : Nat) : RecD := ⟨(r0 s).v, (r1 s).v, (r2 s).v, (r3 s).v, (r4 s).v, (r6 s n).l, (r7 s n).v, (r8 s n).v == 1⟩

def cntI (s : ByteArray) : Nat := (r5 s).v.toNat

def cntS (s : ByteArray) : Nat := min (r5 s).v.toNat 50

def okI (s : ByteArray) : Bool := !((r8 s (cntI s)).b || decide (1 < (r8 s (cntI s)).v)) && !decide ((r8 s (cntI s)).p < s.size) && recOkB (recP s (cntI s))

def okS (s : ByteArray) : Bool := !(r8 s (cntS s)).b && recOkB (recP s (cntS s)) && decide (recL (recP s (cntS s)) = s.data.toList)

theorem r5_le (s : ByteArray) : (r0 s).p ≤ s.size ∧ (r1 s).p ≤ s.size ∧ (r2 s).p ≤ s.size ∧ (r3 s).p ≤ s.size ∧ (r4 s).p ≤ s.size ∧ (r5 s).p ≤ s.size := by
  have h0 : (r0 s).p ≤ s.size := oneR_le (Nat.zero_le _)
  have h1 : (r1 s).p ≤ s.size := oneR_le h0
  have h2 : (r2 s).p ≤ s.size := oneR_le h1
  have h3 : (r3 s).p ≤ s.size := oneR_le h2
  have h4 : (r4 s).p ≤ s.size := varR_le h3
  have h5 : (r5 s).p ≤ s.size := varR_le h4
  exact ⟨h0, h1, h2, h3, h4, h5⟩

theorem r6_le (s : ByteArray) (n : Nat) : (r6 s n).p ≤ s.size ∧ (r7 s n).p ≤ s.size ∧ (r8 s n).p ≤ s.size := by
  have h6 : (r6 s n).p ≤ s.size := nearA_le (r5_le s).2.2.2.2.2 n
  have h7 : (r7 s n).p ≤ s.size := varR_le h6
  exact ⟨h6, h7, oneR_le h7⟩

/-- what was read, in bytes -/
theorem read_got {s : ByteArray} {n : Nat} (h : (r8 s n).b = false) : (r6 s n).b = false ∧ (r6 s n).l.length = n ∧ (r7 s n).b = false ∧
    Got s (r8 s n).p ([byB (r0 s).v, byB (r1 s).v, byB (r2 s).v, byB (r3 s).v] ++ varL (r4 s).v.toNat ++ varL (r5 s).v.toNat ++ nearsL (r6 s n).l ++ varL (r7 s n).v.toNat ++ [byB (r8 s n).v]) := by
  obtain ⟨l0, l1, l2, l3, l4, l5⟩ := r5_le s
  obtain ⟨l6, l7, l8⟩ := r6_le s n
  have t : ∀ p, p ≤ s.size → Got s p (s.data.toList.take p) := fun p hp => ⟨hp, rfl⟩
  have b7 : (r7 s n).b = false := (oneR_got h (fun _ => t _ l7)).1
  have b6 : (r6 s n).b = false := (varR_got b7 (fun _ => t _ l6)).1
  have n6 := nearA_got (fun _ => t _ l5) l5 n b6
  have b5 : (r5 s).b = false := n6.1
  have b4 : (r4 s).b = false := (varR_got b5 (fun _ => t _ l4)).1
  have b3 : (r3 s).b = false := (varR_got b4 (fun _ => t _ l3)).1
  have b2 : (r2 s).b = false := (oneR_got b3 (fun _ => t _ l2)).1
  have b1 : (r1 s).b = false := (oneR_got b2 (fun _ => t _ l1)).1
  have b0 : (r0 s).b = false := (oneR_got b1 (fun _ => t _ l0)).1
  have g0 : Got s (r0 s).p ([] ++ [byB (r0 s).v]) := (oneR_got b0 (fun _ => ⟨Nat.zero_le _, by simp⟩)).2
  have g1 := (oneR_got (s := s) (p := (r0 s).p) (b := (r0 s).b) b1 (fun _ => g0)).2
  have g2 := (oneR_got (s := s) (p := (r1 s).p) (b := (r1 s).b) b2 (fun _ => g1)).2
  have g3 := (oneR_got (s := s) (p := (r2 s).p) (b := (r2 s).b) b3 (fun _ => g2)).2
  have g4 := (varR_got (s := s) (p := (r3 s).p) (b := (r3 s).b) b4 (fun _ => g3)).2
  have g5 := (varR_got (s := s) (p := (r4 s).p) (b := (r4 s).b) b5 (fun _ => g4)).2
  have g6 := (nearA_got (s := s) (p := (r5 s).p) (b := (r5 s).b) (fun _ => g5) l5 n b6).2.2
  have g7 := (varR_got (s := s) (p := (r6 s n).p) (b := (r6 s n).b) b7 (fun _ => g6)).2
  have g8 := (oneR_got (s := s) (p := (r7 s n).p) (b := (r7 s n).b) h (fun _ => g7)).2
  refine ⟨b6, n6.2.1, b7, ?_⟩
  have e : ∀ (a b c d f : UInt8) (x y z u : List UInt8), [] ++ [a] ++ [b] ++ [c] ++ [d] ++ x ++ y ++ z ++ u ++ [f] = [a, b, c, d] ++ x ++ y ++ z ++ u ++ [f] := by intros; simp
  rw [← e]
  exact g8

/-- a right record has at most six nears -/
theorem nears_six {o : Int} {ns : List Nr} (h : nearsB o ns = true) : ns.length ≤ 6 := by
  have hb := near_bounds h
  unfold nearsB at h
  rw [Bool.and_eq_true] at h
  have hasc := List.all_eq_true.1 h.2
  have key : ∀ j (hj : j < ns.length), (j : Int) + 1 ≤ ns[j].to := by
    intro j
    induction j with
    | zero =>
      intro hj
      have := (hb _ (List.getElem_mem hj)).1.1
      simpa using this
    | succ j ih =>
      intro hj
      have h1 := ih (by omega)
      have h2 := hasc (j + 1) (List.mem_range.2 hj)
      rw [ascAt_eq (List.getElem?_eq_getElem (by omega)) (List.getElem?_eq_getElem hj)] at h2
      have h3 := of_decide_eq_true h2
      unfold ordN at h3
      omega
  rcases Nat.lt_or_ge 6 ns.length with hl | hl
  · have h1 := key 6 hl
    have h2 := (hb _ (List.getElem_mem hl)).1.2
    omega
  · exact hl

theorem recOk_six {x : RecD} (h : recOkB x = true) : x.near.length ≤ 6 := by
  unfold recOkB at h
  simp only [Bool.and_eq_true] at h
  obtain ⟨_, h3⟩ := h
  split at h3
  · simp only [Bool.and_eq_true] at h3
    exact nears_six h3.1.1.2
  · split at h3
    · simp only [Bool.and_eq_true, beq_iff_eq] at h3
      have := h3.1.1.2
      omega
    · split at h3
      · simp only [Bool.and_eq_true, beq_iff_eq] at h3
        have := h3.1.2
        omega
      · cases h3

theorem byB_inj {a b : Int} (ha : 0 ≤ a ∧ a ≤ 255) (hb : 0 ≤ b ∧ b ≤ 255) (h : byB a = byB b) : a = b := by
  have h1 := byB_val a ha.1 ha.2
  have h2 := byB_val b hb.1 hb.2
  rw [h] at h1
  omega

theorem farL_byte (v : Int) : farL (v == 1) = [byB (if v = 1 then 1 else 0)] := by
  by_cases h : v = 1
  · subst h; rfl
  · have : (v == 1) = false := by simpa using h
    rw [this, if_neg h]; rfl

/-- with all nears read: the bytes are the record's just where nothing is left and the last one is 0 or 1 -/
theorem text_iff {s : ByteArray} {n : Nat} (h : (r8 s n).b = false) (hn : (r5 s).v.toNat = n) : recL (recP s n) = s.data.toList ↔ (¬ 1 < (r8 s n).v ∧ ¬ (r8 s n).p < s.size) := by
  obtain ⟨b6, hl, b7, hle, hg⟩ := read_got h
  have hv := oneR_range s (r7 s n).p (r7 s n).b
  have hv8 : 0 ≤ (r8 s n).v ∧ (r8 s n).v ≤ 255 := hv
  obtain ⟨H, hH⟩ : ∃ H, H = [byB (r0 s).v, byB (r1 s).v, byB (r2 s).v, byB (r3 s).v] ++ varL (r4 s).v.toNat ++ varL (r5 s).v.toNat ++ nearsL (r6 s n).l ++ varL (r7 s n).v.toNat := ⟨_, rfl⟩
  rw [← hH] at hg
  have hR : recL (recP s n) = H ++ [byB (if (r8 s n).v = 1 then 1 else 0)] := by
    rw [hH, ← farL_byte]
    simp [recL, headL, recP, hl, hn]
  rw [hR]
  have hsz : s.data.toList.length = s.size := by simp
  have hlen : H.length + 1 = (r8 s n).p := by
    have := congrArg List.length hg
    simp only [List.length_take, List.length_append, List.length_cons, List.length_nil, hsz] at this
    omega
  constructor
  · intro e
    have e1 := congrArg List.length e
    simp only [List.length_append, List.length_cons, List.length_nil, hsz] at e1
    rw [List.take_of_length_le (by omega), ← e] at hg
    have e2 := List.append_cancel_left hg
    simp only [List.cons.injEq, and_true] at e2
    have e3 := byB_inj (by split <;> omega) hv8 e2
    refine ⟨?_, by omega⟩
    split at e3 <;> omega
  · rintro ⟨h1, h2⟩
    rw [List.take_of_length_le (by omega)] at hg
    rw [hg]
    have : (if (r8 s n).v = 1 then (1 : Int) else 0) = (r8 s n).v := by split <;> omega
    rw [this]

theorem okI_okS (s : ByteArray) : okI s = okS s ∧ (okI s = true → recP s (cntI s) = recP s (cntS s)) := by
  by_cases hn : (r5 s).v.toNat ≤ 50
  · have e : cntS s = cntI s := by unfold cntS cntI; omega
    refine ⟨?_, fun _ => by rw [e]⟩
    unfold okI okS
    rw [e]
    cases hb : (r8 s (cntI s)).b with
    | true => simp
    | false =>
      have ht := text_iff hb (rfl : (r5 s).v.toNat = cntI s)
      cases recOkB (recP s (cntI s)) with
      | false => simp
      | true =>
        by_cases h1 : 1 < (r8 s (cntI s)).v
        · have : ¬ recL (recP s (cntI s)) = s.data.toList := fun e => (ht.1 e).1 h1
          simp [this, h1]
        · by_cases h2 : (r8 s (cntI s)).p < s.size
          · have : ¬ recL (recP s (cntI s)) = s.data.toList := fun e => (ht.1 e).2 h2
            simp [this, h2]
          · have := ht.2 ⟨h1, h2⟩
            simp [this, h1, h2]
  · have hS : okS s = false := by
      unfold okS
      cases hb : (r8 s (cntS s)).b with
      | true => simp
      | false =>
        have hl := (read_got hb).2.1
        have : recOkB (recP s (cntS s)) = false := by
          cases h : recOkB (recP s (cntS s)) with
          | false => rfl
          | true =>
            have h6 : (r6 s (cntS s)).l.length ≤ 6 := recOk_six h
            have : cntS s = 50 := by unfold cntS; omega
            omega
        simp [this]
    have hI : okI s = false := by
      unfold okI
      cases hb : (r8 s (cntI s)).b with
      | true => simp
      | false =>
        have hl := (read_got hb).2.1
        have : recOkB (recP s (cntI s)) = false := by
          cases h : recOkB (recP s (cntI s)) with
          | false => rfl
          | true =>
            have h6 : (r6 s (cntI s)).l.length ≤ 6 := recOk_six h
            have : cntI s = (r5 s).v.toNat := rfl
            omega
        simp [this]
    exact ⟨by rw [hS, hI], fun h => by rw [hI] at h; cases h⟩

def zeroR : RecD := ⟨0, 0, 0, 0, 0, [], 0, false⟩

def readD (s : ByteArray) : RecD := if okI s then recP s (cntI s) else zeroR
end Go.Proofs.YtchmmekhfcojgaaGreatDoor
namespace Go.Proofs.YtchmmekhfcojgaaGreatDoor
open Go.RowKit

set_option maxHeartbeats 1000000 in
theorem irv_in (s : ByteArray) (p : Nat) (w : World) (hs : s.size ≤ 1048576) (hp : p ≤ s.size) :
    Calls Tryz.prog 115 #[.string s, .int .i64 (p : Int)] w fun e w' => e = .returned (rdT p (rdO s p)) ∧ w' = w := by
  go_enter Tryz.func115, Tryz.ntmps115
  go_wp2
  go_loop [7, 8, 9] (fun n i sc => ∃ (q m z : Nat) (pre : List UInt8), i = .int .i64 q ∧ n = .int .i64 m ∧ sc = .int .i64 z ∧ Rd s p q pre m z) (fun _ i _ => p + 5 - (intOf i).toNat)
  case atStart => exact ⟨p, 0, 1, [], rfl, rfl, rfl, Rd.first s p hp⟩
  case round =>
    obtain ⟨q, m, z, pre, rfl, rfl, rfl, R⟩ := hrel
    have h1 := R.le
    have h2 := R.five
    have h3 := R.size
    have h4 := R.lt
    have hcs := R.cases
    by_cases hq : q < s.size
    · obtain ⟨c, hc⟩ : ∃ c : Nat, c = s[q].toNat := ⟨_, rfl⟩
      have hcb : c < 256 := by have := s[q].toNat_lt; omega
      have hix : ∀ w, (Instr.index 9 (.string s) (.int .i64 (q : Int))).run Tryz.prog w = .ok (.int .u8 (c : Int)) w := fun w => by
        rw [hc]; simp [go_sem, hq]
      have C : Hid (c = s[q].toNat) := hc
      clear hc
      rcases hcs with ⟨e, rfl⟩ | ⟨e, rfl⟩ | ⟨e, rfl⟩ | ⟨e, rfl⟩ | ⟨e, rfl⟩ | ⟨e, rfl⟩
      iterate 5
        · have h5 : q < p + 5 := by omega
          have E := hide e
          clear e
          go_wp2
          all_goals first
            | (go_ret3; have e := unhide E; first | exact ⟨ret_no (R.no' hq C.out h5 (by omega) (by omega)), rfl⟩ | exact ⟨ret_yes (R.yes' hq C.out h5 (by omega) (by omega) (by omega)) (by omega) (by omega), rfl⟩)
            | (go_round; (case rel => exact ⟨q + 1, _, _, _, by go_num, by go_num, by go_num, R.next' hq C.out h5 (by omega)⟩); (case measure => simp [intOf]; omega))
      · have E := hide e
        clear e
        go_wp2
        go_ret3
        exact ⟨ret_no (R.no_byte (by have e := unhide E; omega)), rfl⟩
    · clear hcs
      go_wp2
      go_ret3
      exact ⟨ret_no (R.no_byte (by omega)), rfl⟩
end Go.Proofs.YtchmmekhfcojgaaGreatDoor
namespace Go.Proofs.YtchmmekhfcojgaaGreatDoor
open Go.RowKit

set_option maxRecDepth 100000 in
set_option maxHeartbeats 400000 in
theorem irv_any (s : ByteArray) (x : Int) (w : World) (hs : s.size ≤ 1048576) :
    Calls Tryz.prog 115 #[.string s, .int .i64 x] w fun e w' => e = .returned (rdV s x) ∧ Below w.heap.size w w' := by
  by_cases h1 : x < 0
  · rw [rdV_out s x (.inl h1)]
    go_enter Tryz.func115, Tryz.ntmps115
    go_wp2
    go_ret3
    exact ⟨rfl, Below.refl _ _⟩
  by_cases h2 : (s.size : Int) < x
  · rw [rdV_out s x (.inr h2)]
    go_enter Tryz.func115, Tryz.ntmps115
    go_wp2
    go_ret3
    exact ⟨rfl, Below.refl _ _⟩
  obtain ⟨p, rfl⟩ : ∃ p : Nat, x = (p : Int) := ⟨x.toNat, by omega⟩
  rw [rdV_in s p (by omega)]
  refine (irv_in s p w hs (by omega)).mono ?_
  rintro e w' ⟨h, rfl⟩
  exact ⟨h, Below.refl _ _⟩

theorem rdV_three (s : ByteArray) (x : Int) : ∃ (a b : Int) (c : Bool), rdV s x = .tuple #[.int .i64 a, .int .i64 b, .bool c] := by
  unfold rdV
  split
  · cases rdO s x.toNat with
    | none => exact ⟨_, _, _, rfl⟩
    | some y => exact ⟨_, _, _, rfl⟩
  · exact ⟨_, _, _, rfl⟩
end Go.Proofs.YtchmmekhfcojgaaGreatDoor
