/-
  What a packet's bytes tell is the packet, and the other way round: the mathematics.
-/
import Derived.Test.YtchmmekhfcojgaaGreatDoorPq34
import Derived.Test.YtchmmekhfcojgaaGreatDoorPq23
namespace Go.Proofs.YtchmmekhfcojgaaGreatDoor
open Go.RowKit

theorem oneO_got {s : ByteArray} {p q : Nat} {v : Int} {l : List UInt8} (h : oneO s p = some (v, q)) (g : Got s p l) : Got s q (l ++ [byB v]) := by
  unfold oneO at h
  split at h
  · cases h
  · rename_i hb
    have := (oneR_got (s := s) (p := p) (b := false) (l := l) (by simpa using hb) (fun _ => g)).2
    cases h
    exact this

theorem hearA_got {s : ByteArray} {p : Nat} {l : List UInt8} (g : Got s p l) : ∀ {k : Nat} {hs : List Int} {q : Nat}, hearA s p k = some (hs, q) → Got s q (l ++ hs.map byB)
  | 0, hs, q, h => by
    simp only [hearA, Option.some.injEq, Prod.mk.injEq] at h
    obtain ⟨rfl, rfl⟩ := h
    simpa using g
  | k + 1, hs, q, h => by
    simp only [hearA] at h
    cases e : hearA s p k with
    | none => rw [e] at h; cases h
    | some x =>
      obtain ⟨xs, r⟩ := x
      rw [e] at h
      simp only [Option.bind_some] at h
      split at h
      · cases h
      · rename_i hb
        have ih := hearA_got g e
        have := (oneR_got (s := s) (p := r) (b := false) (l := l ++ xs.map byB) (by simpa using hb) (fun _ => ih)).2
        cases h
        simpa using this

theorem heardR_got {s : ByteArray} {p q : Nat} {hs : List Int} {l : List UInt8} (hp : p ≤ s.size) (h : heardR s p = some (hs, q)) (g : Got s p l) : Got s q (l ++ varL hs.length ++ hs.map byB) ∧ hs.length ≤ 1000000000 := by
  unfold heardR heardB at h
  split at h
  · cases h
  · rename_i hb
    have hb' : (varR s p false).b = false := by simpa using hb
    have g1 := (varR_got (s := s) (p := p) (b := false) (l := l) hb' (fun _ => g)).2
    have hl := (hearA_len (varR_le (b := false) hp) h).1
    rw [← hl] at g1
    refine ⟨hearA_got g1 h, ?_⟩
    have h2 := hearA_len (varR_le (b := false) hp) h
    have h3 : (varR s p false).v ≤ 1000000000 := by
      unfold varR
      simp only [Bool.false_eq_true, if_false]
      split
      · rename_i a b e
        have := (rdO_bytes hp e).1
        simp
        omega
      · simp
    omega

theorem recO_got {s : ByteArray} {p q : Nat} {x : RecD} {l : List UInt8} (hp : p ≤ s.size) (h : recO s p = some (x, q)) (g : Got s p l) : Got s q (l ++ shortL x) ∧ recOkB x = true := by
  unfold recO at h
  cases e : shO s (p : Int) with
  | none => rw [e] at h; cases h
  | some y =>
    obtain ⟨t, r⟩ := y
    rw [e] at h
    simp only [Option.bind_some] at h
    split at h
    · rename_i ho
      simp only [Option.some.injEq, Prod.mk.injEq] at h
      obtain ⟨rfl, rfl⟩ := h
      obtain ⟨t1, t2⟩ := text_back ho
      refine ⟨?_, t1⟩
      unfold shO at e
      cases e2 : rdR s (p : Int) with
      | none => rw [e2] at e; cases e
      | some v =>
        obtain ⟨n, m⟩ := v
        rw [e2] at e
        simp only [Option.bind_some] at e
        split at e
        · rename_i hc
          simp only [Option.some.injEq, Prod.mk.injEq] at e
          obtain ⟨rfl, rfl⟩ := e
          unfold rdR at e2
          split at e2
          · cases e3 : rdO s (p : Int).toNat with
            | none => rw [e3] at e2; cases e2
            | some w =>
              obtain ⟨n', k⟩ := w
              rw [e3] at e2
              simp only [Option.map_some, Option.some.injEq, Prod.mk.injEq, Int.toNat_natCast] at e2
              obtain ⟨rfl, rfl⟩ := e2
              rw [Int.toNat_natCast] at e3
              obtain ⟨b1, b2, b3, b4⟩ := rdO_bytes hp e3
              have hsz : (recL (readD (s.extract (p + k) (p + k + n')))).length = n' := by
                have := congrArg ByteArray.size t2
                simp only [ByteArray.size_extract] at this
                have h0 : (bs (recL (readD (s.extract (p + k) (p + k + n'))))).size = (recL (readD (s.extract (p + k) (p + k + n')))).length := by show (List.toArray _).size = _; simp
                rw [h0] at this
                omega
              have hls : (s.data.toList).length = s.size := by rw [Array.length_toList]; rfl
              have hex : recL (readD (s.extract (p + k) (p + k + n'))) = (s.data.toList.drop (p + k)).take n' := by
                have := congrArg (fun b : ByteArray => b.data.toList) t2
                have h0 : (bs (recL (readD (s.extract (p + k) (p + k + n'))))).data.toList = recL (readD (s.extract (p + k) (p + k + n'))) := by simp [bs]
                simp only [h0] at this
                rw [this]
                simp [ByteArray.data_extract, Array.toList_extract, List.extract]
              refine ⟨by omega, ?_⟩
              have g2 := g.2
              unfold shortL
              rw [hsz, b4, hex, ← g2]
              rw [show p + k + n' = p + (k + n') by omega, List.take_add, List.take_add (i := k), List.drop_drop]
          · cases e2
        · cases e
    · cases h

theorem recsA_got {s : ByteArray} {p : Nat} {l : List UInt8} (hp : p ≤ s.size) (g : Got s p l) : ∀ {k : Nat} {xs : List RecD} {q : Nat}, recsA s p k = some (xs, q) → Got s q (l ++ shortsL xs) ∧ ∀ x ∈ xs, recOkB x = true
  | 0, xs, q, h => by
    simp only [recsA, Option.some.injEq, Prod.mk.injEq] at h
    obtain ⟨rfl, rfl⟩ := h
    exact ⟨by simpa [shortsL] using g, by simp⟩
  | k + 1, xs, q, h => by
    simp only [recsA] at h
    cases e : recsA s p k with
    | none => rw [e] at h; cases h
    | some x =>
      obtain ⟨ys, r⟩ := x
      rw [e] at h
      simp only [Option.bind_some] at h
      cases e2 : recO s r with
      | none => rw [e2] at h; cases h
      | some y =>
        obtain ⟨y, q'⟩ := y
        rw [e2] at h
        simp only [Option.map_some, Option.some.injEq, Prod.mk.injEq] at h
        obtain ⟨rfl, rfl⟩ := h
        obtain ⟨ih, ih2⟩ := recsA_got hp g e
        obtain ⟨g2, o2⟩ := recO_got ih.1 e2 ih
        refine ⟨by simpa [shortsL, List.append_assoc] using g2, fun x hx => ?_⟩
        rcases List.mem_append.1 hx with h1 | h1
        · exact ih2 x h1
        · rw [List.mem_singleton.1 h1]; exact o2

theorem recsR_got {s : ByteArray} {p q : Nat} {xs : List RecD} {l : List UInt8} (hp : p ≤ s.size) (h : recsR s p = some (xs, q)) (g : Got s p l) : Got s q (l ++ varL xs.length ++ shortsL xs) ∧ ∀ x ∈ xs, recOkB x = true := by
  unfold recsR recsB at h
  split at h
  · cases h
  · rename_i hb
    have hb' : (varR s p false).b = false := by simpa using hb
    have g1 := (varR_got (s := s) (p := p) (b := false) (l := l) hb' (fun _ => g)).2
    have hl := (recsA_len (varR_le (b := false) hp) h).1
    rw [← hl] at g1
    exact recsA_got (varR_le (b := false) hp) g1 h

/-- what was read is what these bytes are -/
theorem pinR_got {s : ByteArray} {x : PkD} {xs : List RecD} (h : pinR s = some (x, xs)) : s = bs (pkL x xs) ∧ ∀ r ∈ xs, recOkB r = true := by
  unfold pinR at h
  cases e1 : oneO s 0 with
  | none => rw [e1] at h; cases h
  | some a =>
  rw [e1, Option.bind_some] at h
  cases e2 : oneO s a.2 with
  | none => rw [e2] at h; cases h
  | some b =>
  rw [e2, Option.bind_some] at h
  cases e3 : oneO s b.2 with
  | none => rw [e3] at h; cases h
  | some c =>
  rw [e3, Option.bind_some] at h
  cases e4 : oneO s c.2 with
  | none => rw [e4] at h; cases h
  | some d =>
  rw [e4, Option.bind_some] at h
  cases e5 : heardR s d.2 with
  | none => rw [e5] at h; cases h
  | some hh =>
  rw [e5, Option.bind_some] at h
  cases e6 : recsR s hh.2 with
  | none => rw [e6] at h; cases h
  | some ll =>
  rw [e6, Option.bind_some] at h
  unfold pinEnd at h
  split at h
  · rename_i hend
    simp only [Option.some.injEq, Prod.mk.injEq] at h
    obtain ⟨rfl, rfl⟩ := h
    have g0 : Got s 0 [] := ⟨Nat.zero_le _, by simp⟩
    have g1 := oneO_got e1 g0
    have g2 := oneO_got e2 g1
    have g3 := oneO_got e3 g2
    have g4 := oneO_got e4 g3
    have g5 := (heardR_got g4.1 e5 g4).1
    obtain ⟨g6, o6⟩ := recsR_got g5.1 e6 g5
    refine ⟨?_, o6⟩
    have h1 := g6.2
    rw [hend] at h1
    have hls : s.data.toList.length = s.size := by rw [Array.length_toList]; rfl
    rw [List.take_of_length_le (by omega)] at h1
    apply ByteArray.ext
    apply Array.ext'
    rw [h1]
    simp [bs, pkL, oneL]
  · cases h

theorem oneO_to {s : ByteArray} {l rest : List UInt8} {n : Int} (h : s.data.toList = l ++ byB n :: rest) (h0 : 0 ≤ n ∧ n ≤ 255) : oneO s l.length = some (n, (l ++ [byB n]).length) := by
  unfold oneO
  rw [oneR_to h h0]
  rfl

theorem hearA_to {s : ByteArray} {l : List UInt8} : ∀ (k : Nat) (hs : List Int) (rest : List UInt8), hs.length = k → (∀ z ∈ hs, 0 ≤ z ∧ z ≤ 255) → s.data.toList = l ++ (hs.map byB ++ rest) → hearA s l.length k = some (hs, (l ++ hs.map byB).length)
  | 0, hs, rest, hl, hb, h => by
    have : hs = [] := List.length_eq_zero_iff.1 hl
    subst this
    simp [hearA]
  | k + 1, hs, rest, hl, hb, h => by
    obtain ⟨ws, a, rfl⟩ : ∃ ws a, hs = ws ++ [a] := by
      have hne : hs ≠ [] := by intro e; subst e; simp at hl
      exact ⟨hs.dropLast, hs.getLast hne, (List.dropLast_concat_getLast hne).symm⟩
    have ih := hearA_to (s := s) (l := l) k ws (byB a :: rest) (by simp at hl; omega) (fun z hz => hb z (by simp [hz])) (by rw [h]; simp)
    have h1 := oneR_to (s := s) (l := l ++ ws.map byB) (rest := rest) (n := a) (by rw [h]; simp) (hb a (by simp))
    simp only [hearA, ih, Option.bind_some, h1]
    simp

theorem heardR_to {s : ByteArray} {l rest : List UInt8} {hs : List Int} (hb : ∀ z ∈ hs, 0 ≤ z ∧ z ≤ 255) (hl : hs.length ≤ 1000000000) (h : s.data.toList = l ++ (varL hs.length ++ (hs.map byB ++ rest))) : heardR s l.length = some (hs, (l ++ varL hs.length ++ hs.map byB).length) := by
  have h1 := varR_at (s := s) (l := l) (rest := hs.map byB ++ rest) (n := hs.length) h hl
  unfold heardR heardB
  rw [h1]
  simp only [Bool.false_eq_true, if_false, Int.toNat_natCast]
  have e : l.length + (varL hs.length).length = (l ++ varL hs.length).length := by simp
  rw [e]
  exact hearA_to hs.length hs rest rfl hb (by rw [h]; simp)

set_option maxRecDepth 100000 in
set_option maxHeartbeats 2000000 in
theorem recO_to {s : ByteArray} {l rest : List UInt8} {x : RecD} (hx : recOkB x = true) (h : s.data.toList = l ++ (shortL x ++ rest)) : recO s l.length = some (x, (l ++ shortL x).length) := by
  have hlen := recL_len hx
  have hls : s.data.toList.length = s.size := by rw [Array.length_toList]; rfl
  have hsz : l.length + ((varL (recL x).length).length + (recL x).length + rest.length) = s.size := by
    rw [← hls, h]
    simp [shortL]
    omega
  have hr : rdO s l.length = some ((recL x).length, (varL (recL x).length).length) := by
    unfold rdO
    rw [h, List.drop_left]
    unfold shortL
    rw [List.append_assoc]
    exact rdA_var05 _ _ (by omega)
  have hs : shO s (l.length : Int) = some (bs (recL x), l.length + (varL (recL x).length).length + (recL x).length) := by
    unfold shO rdR
    rw [if_pos (by omega), Int.toNat_natCast, hr]
    simp only [Option.map_some, Option.bind_some]
    rw [if_pos (by omega)]
    congr 2
    apply ByteArray.ext
    apply Array.ext'
    simp only [ByteArray.data_extract, Array.toList_extract, List.extract, bs]
    rw [h]
    unfold shortL
    have e1 : l.length + (varL (recL x).length).length = (l ++ varL (recL x).length).length := by simp
    rw [show l ++ (varL (recL x).length ++ recL x ++ rest) = (l ++ varL (recL x).length) ++ (recL x ++ rest) by simp, e1, List.drop_left]
    simp
  unfold recO
  rw [hs]
  simp only [Option.bind_some]
  obtain ⟨o1, o2⟩ := read_back hx
  rw [if_pos o1, o2]
  congr 2
  simp [shortL]
  omega

theorem recsA_to {s : ByteArray} {l : List UInt8} : ∀ (k : Nat) (xs : List RecD) (rest : List UInt8), xs.length = k → (∀ x ∈ xs, recOkB x = true) → s.data.toList = l ++ (shortsL xs ++ rest) → recsA s l.length k = some (xs, (l ++ shortsL xs).length)
  | 0, xs, rest, hl, hb, h => by
    have : xs = [] := List.length_eq_zero_iff.1 hl
    subst this
    simp [recsA, shortsL]
  | k + 1, xs, rest, hl, hb, h => by
    obtain ⟨ws, a, rfl⟩ : ∃ ws a, xs = ws ++ [a] := by
      have hne : xs ≠ [] := by intro e; subst e; simp at hl
      exact ⟨xs.dropLast, xs.getLast hne, (List.dropLast_concat_getLast hne).symm⟩
    have esh : shortsL (ws ++ [a]) = shortsL ws ++ shortL a := by simp [shortsL]
    have ih := recsA_to (s := s) (l := l) k ws (shortL a ++ rest) (by simp at hl; omega) (fun z hz => hb z (by simp [hz])) (by rw [h, esh]; simp)
    have h1 := recO_to (s := s) (l := l ++ shortsL ws) (rest := rest) (x := a) (hb a (by simp)) (by rw [h, esh]; simp)
    simp only [recsA, ih, Option.bind_some, h1, Option.map_some, esh]
    simp

theorem recsR_to {s : ByteArray} {l rest : List UInt8} {xs : List RecD} (hb : ∀ x ∈ xs, recOkB x = true) (hl : xs.length ≤ 1000000000) (h : s.data.toList = l ++ (varL xs.length ++ (shortsL xs ++ rest))) : recsR s l.length = some (xs, (l ++ varL xs.length ++ shortsL xs).length) := by
  have h1 := varR_at (s := s) (l := l) (rest := shortsL xs ++ rest) (n := xs.length) h hl
  unfold recsR recsB
  rw [h1]
  simp only [Bool.false_eq_true, if_false, Int.toNat_natCast]
  have e : l.length + (varL xs.length).length = (l ++ varL xs.length).length := by simp
  rw [e]
  exact recsA_to xs.length xs rest rfl hb (by rw [h]; simp)

/-- the bytes of a right packet tell it -/
theorem pinR_to {x : PkD} {xs : List RecD} (h : PkBounds x xs) : pinR (bs (pkL x xs)) = some (x, xs) := by
  have hk := h.kind
  have hs := h.src
  have hd := h.dst
  have ha := h.area
  have hf := h.few
  have hl := h.list
  have hD : (bs (pkL x xs)).data.toList = pkL x xs := by simp [bs]
  have hZ : (bs (pkL x xs)).size = (pkL x xs).length := by show (List.toArray _).size = _; simp
  generalize bs (pkL x xs) = s at hD hZ
  have e1 : oneO s 0 = some (x.kind, 1) := oneO_to (l := []) (rest := [byB x.src, byB x.dst, byB x.area] ++ varL x.heard.length ++ x.heard.map byB ++ varL xs.length ++ shortsL xs) (by rw [hD]; simp [pkL, oneL]) (by omega)
  have e2 : oneO s 1 = some (x.src, 2) := oneO_to (l := [byB x.kind]) (rest := [byB x.dst, byB x.area] ++ varL x.heard.length ++ x.heard.map byB ++ varL xs.length ++ shortsL xs) (by rw [hD]; simp [pkL, oneL]) (by omega)
  have e3 : oneO s 2 = some (x.dst, 3) := oneO_to (l := [byB x.kind, byB x.src]) (rest := [byB x.area] ++ varL x.heard.length ++ x.heard.map byB ++ varL xs.length ++ shortsL xs) (by rw [hD]; simp [pkL, oneL]) (by omega)
  have e4 : oneO s 3 = some (x.area, 4) := oneO_to (l := [byB x.kind, byB x.src, byB x.dst]) (rest := varL x.heard.length ++ x.heard.map byB ++ varL xs.length ++ shortsL xs) (by rw [hD]; simp [pkL, oneL]) (by omega)
  have e5 : heardR s 4 = some (x.heard, (oneL x ++ varL x.heard.length ++ x.heard.map byB).length) := heardR_to (l := oneL x) (rest := varL xs.length ++ shortsL xs) (fun z hz => by have := h.heard z hz; omega) (by omega) (by rw [hD]; simp [pkL])
  have e6 : recsR s (oneL x ++ varL x.heard.length ++ x.heard.map byB).length = some (xs, (oneL x ++ varL x.heard.length ++ x.heard.map byB ++ varL xs.length ++ shortsL xs).length) := recsR_to (rest := []) h.recs (by omega) (by rw [hD]; simp [pkL])
  unfold pinR
  simp only [e1, e2, e3, e4, e5, e6, Option.bind_some]
  unfold pinEnd
  rw [if_pos (by rw [hZ]; rfl)]
end Go.Proofs.YtchmmekhfcojgaaGreatDoor
