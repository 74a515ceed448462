/-
  Reading a record: both ways of asking whether the bytes are a right record's come to the same.
-/
import Derived.Test.YtohjphhocdgpgaaReadP
namespace Go.Proofs.Ytohjphhocdgpgaa
open Go.RowKit

/-- where the reading of the fields stands, field by field -/
def r0 (s : ByteArray) : Rd3 := oneR s 0 false
def r1 (s : ByteArray) : Rd3 := oneR s (r0 s).p (r0 s).b
def r2 (s : ByteArray) : Rd3 := oneR s (r1 s).p (r1 s).b
def r3 (s : ByteArray) : Rd3 := oneR s (r2 s).p (r2 s).b
def r4 (s : ByteArray) : Rd3 := varR s (r3 s).p (r3 s).b
def r5 (s : ByteArray) : Rd3 := varR s (r4 s).p (r4 s).b
def r6 (s : ByteArray) (n : Nat) : RdL := nearA s (r5 s).p (r5 s).b n
def r7 (s : ByteArray) (n : Nat) : Rd3 := varR s (r6 s n).p (r6 s n).b
def r8 (s : ByteArray) (n : Nat) : Rd3 := oneR s (r7 s n).p (r7 s n).b

def recP (s : ByteArray) (n : Nat) : RecD := ⟨(r0 s).v, (r1 s).v, (r2 s).v, (r3 s).v, (r4 s).v, (r6 s n).l, (r7 s n).v, (r8 s n).v == 1⟩

def cntI (s : ByteArray) : Nat := (r5 s).v.toNat

def cntS (s : ByteArray) : Nat := min (r5 s).v.toNat 50

def okI (s : ByteArray) : Bool := !((r8 s (cntI s)).b || decide (1 < (r8 s (cntI s)).v)) && !decide ((r8 s (cntI s)).p < s.size) && recOkB (recP s (cntI s))

def okS (s : ByteArray) : Bool := !(r8 s (cntS s)).b && recOkB (recP s (cntS s)) && decide (recL (recP s (cntS s)) = s.data.toList)

theorem r5_le (s : ByteArray) : (r0 s).p ≤ s.size ∧ (r1 s).p ≤ s.size ∧ (r2 s).p ≤ s.size ∧ (r3 s).p ≤ s.size ∧ (r4 s).p ≤ s.size ∧ (r5 s).p ≤ s.size := by
  have h0 : (r0 s).p ≤ s.size := oneR_le (Nat.zero_le _)
  have h1 : (r1 s).p ≤ s.size := oneR_le h0
  have h2 : (r2 s).p ≤ s.size := oneR_le h1
  have h3 : (r3 s).p ≤ s.size := oneR_le h2
  have h4 : (r4 s).p ≤ s.size := varR_le h3
  have h5 : (r5 s).p ≤ s.size := varR_le h4
  exact ⟨h0, h1, h2, h3, h4, h5⟩

theorem r6_le (s : ByteArray) (n : Nat) : (r6 s n).p ≤ s.size ∧ (r7 s n).p ≤ s.size ∧ (r8 s n).p ≤ s.size := by
  have h6 : (r6 s n).p ≤ s.size := nearA_le (r5_le s).2.2.2.2.2 n
  have h7 : (r7 s n).p ≤ s.size := varR_le h6
  exact ⟨h6, h7, oneR_le h7⟩

/-- what was read, in bytes -/
theorem read_got {s : ByteArray} {n : Nat} (h : (r8 s n).b = false) : (r6 s n).b = false ∧ (r6 s n).l.length = n ∧ (r7 s n).b = false ∧
    Got s (r8 s n).p ([byB (r0 s).v, byB (r1 s).v, byB (r2 s).v, byB (r3 s).v] ++ varL (r4 s).v.toNat ++ varL (r5 s).v.toNat ++ nearsL (r6 s n).l ++ varL (r7 s n).v.toNat ++ [byB (r8 s n).v]) := by
  obtain ⟨l0, l1, l2, l3, l4, l5⟩ := r5_le s
  obtain ⟨l6, l7, l8⟩ := r6_le s n
  have t : ∀ p, p ≤ s.size → Got s p (s.data.toList.take p) := fun p hp => ⟨hp, rfl⟩
  have b7 : (r7 s n).b = false := (oneR_got h (fun _ => t _ l7)).1
  have b6 : (r6 s n).b = false := (varR_got b7 (fun _ => t _ l6)).1
  have n6 := nearA_got (fun _ => t _ l5) l5 n b6
  have b5 : (r5 s).b = false := n6.1
  have b4 : (r4 s).b = false := (varR_got b5 (fun _ => t _ l4)).1
  have b3 : (r3 s).b = false := (varR_got b4 (fun _ => t _ l3)).1
  have b2 : (r2 s).b = false := (oneR_got b3 (fun _ => t _ l2)).1
  have b1 : (r1 s).b = false := (oneR_got b2 (fun _ => t _ l1)).1
  have b0 : (r0 s).b = false := (oneR_got b1 (fun _ => t _ l0)).1
  have g0 : Got s (r0 s).p ([] ++ [byB (r0 s).v]) := (oneR_got b0 (fun _ => ⟨Nat.zero_le _, by simp⟩)).2
  have g1 := (oneR_got (s := s) (p := (r0 s).p) (b := (r0 s).b) b1 (fun _ => g0)).2
  have g2 := (oneR_got (s := s) (p := (r1 s).p) (b := (r1 s).b) b2 (fun _ => g1)).2
  have g3 := (oneR_got (s := s) (p := (r2 s).p) (b := (r2 s).b) b3 (fun _ => g2)).2
  have g4 := (varR_got (s := s) (p := (r3 s).p) (b := (r3 s).b) b4 (fun _ => g3)).2
  have g5 := (varR_got (s := s) (p := (r4 s).p) (b := (r4 s).b) b5 (fun _ => g4)).2
  have g6 := (nearA_got (s := s) (p := (r5 s).p) (b := (r5 s).b) (fun _ => g5) l5 n b6).2.2
  have g7 := (varR_got (s := s) (p := (r6 s n).p) (b := (r6 s n).b) b7 (fun _ => g6)).2
  have g8 := (oneR_got (s := s) (p := (r7 s n).p) (b := (r7 s n).b) h (fun _ => g7)).2
  refine ⟨b6, n6.2.1, b7, ?_⟩
  have e : ∀ (a b c d f : UInt8) (x y z u : List UInt8), [] ++ [a] ++ [b] ++ [c] ++ [d] ++ x ++ y ++ z ++ u ++ [f] = [a, b, c, d] ++ x ++ y ++ z ++ u ++ [f] := by intros; simp
  rw [← e]
  exact g8

/-- a right record has at most six nears -/
theorem nears_six {o : Int} {ns : List Nr} (h : nearsB o ns = true) : ns.length ≤ 6 := by
  have hb := near_bounds h
  unfold nearsB at h
  rw [Bool.and_eq_true] at h
  have hasc := List.all_eq_true.1 h.2
  have key : ∀ j (hj : j < ns.length), (j : Int) + 1 ≤ ns[j].to := by
    intro j
    induction j with
    | zero =>
      intro hj
      have := (hb _ (List.getElem_mem hj)).1.1
      simpa using this
    | succ j ih =>
      intro hj
      have h1 := ih (by omega)
      have h2 := hasc (j + 1) (List.mem_range.2 hj)
      rw [ascAt_eq (List.getElem?_eq_getElem (by omega)) (List.getElem?_eq_getElem hj)] at h2
      have h3 := of_decide_eq_true h2
      unfold ordN at h3
      omega
  rcases Nat.lt_or_ge 6 ns.length with hl | hl
  · have h1 := key 6 hl
    have h2 := (hb _ (List.getElem_mem hl)).1.2
    omega
  · exact hl

theorem recOk_six {x : RecD} (h : recOkB x = true) : x.near.length ≤ 6 := by
  unfold recOkB at h
  simp only [Bool.and_eq_true] at h
  obtain ⟨_, h3⟩ := h
  split at h3
  · simp only [Bool.and_eq_true] at h3
    exact nears_six h3.1.1.2
  · split at h3
    · simp only [Bool.and_eq_true, beq_iff_eq] at h3
      have := h3.1.1.2
      omega
    · split at h3
      · simp only [Bool.and_eq_true, beq_iff_eq] at h3
        have := h3.1.2
        omega
      · cases h3

theorem byB_inj {a b : Int} (ha : 0 ≤ a ∧ a ≤ 255) (hb : 0 ≤ b ∧ b ≤ 255) (h : byB a = byB b) : a = b := by
  have h1 := byB_val a ha.1 ha.2
  have h2 := byB_val b hb.1 hb.2
  rw [h] at h1
  omega

theorem farL_byte (v : Int) : farL (v == 1) = [byB (if v = 1 then 1 else 0)] := by
  by_cases h : v = 1
  · subst h; rfl
  · have : (v == 1) = false := by simpa using h
    rw [this, if_neg h]; rfl

/-- with all nears read: the bytes are the record's just where nothing is left and the last one is 0 or 1 -/
theorem text_iff {s : ByteArray} {n : Nat} (h : (r8 s n).b = false) (hn : (r5 s).v.toNat = n) : recL (recP s n) = s.data.toList ↔ (¬ 1 < (r8 s n).v ∧ ¬ (r8 s n).p < s.size) := by
  obtain ⟨b6, hl, b7, hle, hg⟩ := read_got h
  have hv := oneR_range s (r7 s n).p (r7 s n).b
  have hv8 : 0 ≤ (r8 s n).v ∧ (r8 s n).v ≤ 255 := hv
  obtain ⟨H, hH⟩ : ∃ H, H = [byB (r0 s).v, byB (r1 s).v, byB (r2 s).v, byB (r3 s).v] ++ varL (r4 s).v.toNat ++ varL (r5 s).v.toNat ++ nearsL (r6 s n).l ++ varL (r7 s n).v.toNat := ⟨_, rfl⟩
  rw [← hH] at hg
  have hR : recL (recP s n) = H ++ [byB (if (r8 s n).v = 1 then 1 else 0)] := by
    rw [hH, ← farL_byte]
    simp [recL, headL, recP, hl, hn]
  rw [hR]
  have hsz : s.data.toList.length = s.size := by simp
  have hlen : H.length + 1 = (r8 s n).p := by
    have := congrArg List.length hg
    simp only [List.length_take, List.length_append, List.length_cons, List.length_nil, hsz] at this
    omega
  constructor
  · intro e
    have e1 := congrArg List.length e
    simp only [List.length_append, List.length_cons, List.length_nil, hsz] at e1
    rw [List.take_of_length_le (by omega), ← e] at hg
    have e2 := List.append_cancel_left hg
    simp only [List.cons.injEq, and_true] at e2
    have e3 := byB_inj (by split <;> omega) hv8 e2
    refine ⟨?_, by omega⟩
    split at e3 <;> omega
  · rintro ⟨h1, h2⟩
    rw [List.take_of_length_le (by omega)] at hg
    rw [hg]
    have : (if (r8 s n).v = 1 then (1 : Int) else 0) = (r8 s n).v := by split <;> omega
    rw [this]

theorem okI_okS (s : ByteArray) : okI s = okS s ∧ (okI s = true → recP s (cntI s) = recP s (cntS s)) := by
  by_cases hn : (r5 s).v.toNat ≤ 50
  · have e : cntS s = cntI s := by unfold cntS cntI; omega
    refine ⟨?_, fun _ => by rw [e]⟩
    unfold okI okS
    rw [e]
    cases hb : (r8 s (cntI s)).b with
    | true => simp
    | false =>
      have ht := text_iff hb (rfl : (r5 s).v.toNat = cntI s)
      cases recOkB (recP s (cntI s)) with
      | false => simp
      | true =>
        by_cases h1 : 1 < (r8 s (cntI s)).v
        · have : ¬ recL (recP s (cntI s)) = s.data.toList := fun e => (ht.1 e).1 h1
          simp [this, h1]
        · by_cases h2 : (r8 s (cntI s)).p < s.size
          · have : ¬ recL (recP s (cntI s)) = s.data.toList := fun e => (ht.1 e).2 h2
            simp [this, h2]
          · have := ht.2 ⟨h1, h2⟩
            simp [this, h1, h2]
  · have hS : okS s = false := by
      unfold okS
      cases hb : (r8 s (cntS s)).b with
      | true => simp
      | false =>
        have hl := (read_got hb).2.1
        have : recOkB (recP s (cntS s)) = false := by
          cases h : recOkB (recP s (cntS s)) with
          | false => rfl
          | true =>
            have h6 : (r6 s (cntS s)).l.length ≤ 6 := recOk_six h
            have : cntS s = 50 := by unfold cntS; omega
            omega
        simp [this]
    have hI : okI s = false := by
      unfold okI
      cases hb : (r8 s (cntI s)).b with
      | true => simp
      | false =>
        have hl := (read_got hb).2.1
        have : recOkB (recP s (cntI s)) = false := by
          cases h : recOkB (recP s (cntI s)) with
          | false => rfl
          | true =>
            have h6 : (r6 s (cntI s)).l.length ≤ 6 := recOk_six h
            have : cntI s = (r5 s).v.toNat := rfl
            omega
        simp [this]
    exact ⟨by rw [hS, hI], fun h => by rw [hI] at h; cases h⟩

def zeroR : RecD := ⟨0, 0, 0, 0, 0, [], 0, false⟩

def readD (s : ByteArray) : RecD := if okI s then recP s (cntI s) else zeroR
end Go.Proofs.Ytohjphhocdgpgaa
