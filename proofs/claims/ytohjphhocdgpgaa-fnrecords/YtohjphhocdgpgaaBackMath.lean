/-
  What is printed of a record is read back: the plain mathematics.
-/
import Derived.Test.YtohjphhocdgpgaaReadQ
namespace Go.Proofs.Ytohjphhocdgpgaa
open Go.RowKit

theorem loB_nat5 (n : Nat) (h : n ≤ 127) : (loB n).toNat = n := by have := byte_lo n h; omega

theorem hiB_nat5 (n : Nat) : (hiB n).toNat = n % 128 + 128 := by have := byte_hi n; omega

theorem rdA_var5 (n : Nat) : ∀ (f : Nat) (pre rest : List UInt8), n < 128 ^ (f + 1) → (0 < n ∨ pre = []) → valL pre + pw pre.length * n ≤ 1000000000 →
    rdA (f + 1) pre (varL n ++ rest) = some (valL pre + pw pre.length * n, pre.length + (varL n).length) := by
  induction n using Nat.strongRecOn with
  | _ n ih =>
    intro f pre rest hn hp hv
    by_cases h : 127 < n
    · have hf : ∃ g, f = g + 1 := by
        cases f with
        | zero => simp at hn; omega
        | succ g => exact ⟨g, rfl⟩
      obtain ⟨g, rfl⟩ := hf
      have e1 : valL (pre ++ [hiB n]) = valL pre + n % 128 * pw pre.length := by rw [valL_snoc, hiB_nat5]; congr 2; omega
      have e2 : pw (pre ++ [hiB n]).length = 128 * pw pre.length := by simp [pw, Nat.pow_succ, Nat.mul_comm]
      have e4 : n % 128 * pw pre.length + 128 * pw pre.length * (n / 128) = pw pre.length * n := by
        have h1 : n = 128 * (n / 128) + n % 128 := (Nat.div_add_mod n 128).symm
        have h2 : pw pre.length * n = pw pre.length * (128 * (n / 128) + n % 128) := congrArg _ h1
        rw [h2, Nat.mul_add, Nat.mul_comm (n % 128), ← Nat.mul_assoc, Nat.mul_comm (pw pre.length) 128]
        omega
      have e3 : valL (pre ++ [hiB n]) + pw (pre ++ [hiB n]).length * (n / 128) = valL pre + pw pre.length * n := by rw [e1, e2]; omega
      rw [varL_big h, List.cons_append, rdA_more _ _ _ _ (by rw [hiB_nat5]; omega), ih (n / 128) (by omega) g (pre ++ [hiB n]) rest (by rw [Nat.pow_succ] at hn; omega) (.inl (by omega)) (by rw [e3]; exact hv), e3]
      simp
      omega
    · have e1 : valL (pre ++ [loB n]) = valL pre + pw pre.length * n := by rw [valL_snoc, loB_nat5 n (by omega), Nat.mod_eq_of_lt (by omega), Nat.mul_comm]
      rw [varL_small (by omega), List.cons_append, List.nil_append, rdA_yes f pre (loB n) rest (by rw [loB_nat5 n (by omega)]; omega) (by
        rw [loB_nat5 n (by omega)]
        rintro ⟨h1, h2⟩
        rcases hp with hp | hp
        · omega
        · exact h2 hp) (by rw [e1]; exact hv), e1]
      simp

theorem rdA_var05 (n : Nat) (rest : List UInt8) (h : n ≤ 1000000000) : rdA 5 [] (varL n ++ rest) = some (n, (varL n).length) := by
  have := rdA_var5 n 4 [] rest (by omega) (.inr rfl) (by simp [valL, pw]; exact h)
  simpa [valL, pw] using this

theorem oneR_at {s : ByteArray} {l rest : List UInt8} {b : UInt8} (h : s.data.toList = l ++ b :: rest) : oneR s l.length false = ⟨(b.toNat : Int), l.length + 1, false⟩ := by
  have hsz : s.data.toList.length = s.size := by simp
  have hl : l.length < s.size := by rw [← hsz, h]; simp
  unfold oneR
  rw [if_neg (by simp), dif_pos hl]
  have e : s[l.length] = b := by
    have e1 : s.data.toList[l.length]? = some b := by rw [h]; simp
    have e2 : s.data.toList[l.length]? = some s[l.length] := by
      have hq : l.length < s.data.size := hl
      rw [Array.getElem?_toList, Array.getElem?_eq_getElem hq]
      rfl
    rw [e2] at e1
    exact Option.some.inj e1
  rw [e]

theorem varR_at {s : ByteArray} {l rest : List UInt8} {n : Nat} (h : s.data.toList = l ++ (varL n ++ rest)) (hn : n ≤ 1000000000) : varR s l.length false = ⟨(n : Int), l.length + (varL n).length, false⟩ := by
  have e : rdO s l.length = some (n, (varL n).length) := by
    unfold rdO
    rw [h, List.drop_left]
    exact rdA_var05 n rest hn
  unfold varR
  rw [if_neg (by simp), e]

theorem nearA_at {s : ByteArray} {l rest : List UInt8} {ns : List Nr} (h : s.data.toList = l ++ (nearsL ns ++ rest)) (hb : ∀ n ∈ ns, (1 ≤ n.to ∧ n.to ≤ 6) ∧ (1 ≤ n.c ∧ n.c ≤ 1000)) :
    ∀ k, k ≤ ns.length → nearA s l.length false k = ⟨ns.take k, l.length + (nearsL (ns.take k)).length, false⟩
  | 0, _ => by simp [nearA, nearsL]
  | k + 1, hk => by
    have ih := nearA_at h hb k (by omega)
    obtain ⟨n, hn⟩ : ∃ n, ns[k]? = some n := ⟨ns[k], List.getElem?_eq_getElem (by omega)⟩
    obtain ⟨hk2, en⟩ := List.getElem?_eq_some_iff.1 hn
    have hbn := hb n (List.mem_of_getElem? hn)
    have e2 : nearsL ns = nearsL (ns.take k) ++ (byB n.to :: (varL n.c.toNat ++ nearsL (ns.drop (k + 1)))) := by
      have e3 : ns = ns.take k ++ (n :: ns.drop (k + 1)) := by rw [← en]; simp
      conv => lhs; rw [e3]
      simp [nearsL, nearL]
    have h1 : s.data.toList = (l ++ nearsL (ns.take k)) ++ byB n.to :: (varL n.c.toNat ++ (nearsL (ns.drop (k + 1)) ++ rest)) := by
      rw [h, e2]
      simp
    have o1 := oneR_at h1
    have h2 : s.data.toList = (l ++ nearsL (ns.take k) ++ [byB n.to]) ++ (varL n.c.toNat ++ (nearsL (ns.drop (k + 1)) ++ rest)) := by
      rw [h1]
      simp
    have v1 := varR_at h2 (by omega)
    simp only [List.length_append, List.length_cons, List.length_nil, Nat.zero_add] at o1 v1
    have hto : ((byB n.to).toNat : Int) = n.to := (byB_val n.to (by omega) (by omega)).symm
    have hco : ((n.c.toNat : Nat) : Int) = n.c := by omega
    simp only [nearA, ih, nearStep, Bool.false_eq_true, if_false, o1, v1]
    rw [nearsL_succ hn, hto, hco]
    have et : ns.take (k + 1) = ns.take k ++ [n] := by rw [List.take_succ_eq_append_getElem hk2, en]
    rw [et]
    simp [nearL]
    omega

theorem oneR_to {s : ByteArray} {l rest : List UInt8} {n : Int} (h : s.data.toList = l ++ byB n :: rest) (h0 : 0 ≤ n ∧ n ≤ 255) : oneR s l.length false = ⟨n, (l ++ [byB n]).length, false⟩ := by
  rw [oneR_at h, ← byB_val n h0.1 h0.2]
  simp

theorem varR_to {s : ByteArray} {l rest : List UInt8} {n : Int} (h : s.data.toList = l ++ (varL n.toNat ++ rest)) (h0 : 0 ≤ n ∧ n ≤ 1000000000) : varR s l.length false = ⟨n, (l ++ varL n.toNat).length, false⟩ := by
  rw [varR_at h (by omega), List.length_append]
  congr 1
  omega

theorem read_back {x : RecD} (h : recOkB x = true) : okI (bs (recL x)) = true ∧ readD (bs (recL x)) = x := by
  have B := recOk_bounds h
  have h6 := recOk_six h
  obtain ⟨s, hs⟩ : ∃ s, s = bs (recL x) := ⟨_, rfl⟩
  rw [← hs]
  have hd : s.data.toList = recL x := by rw [hs]; rfl
  have hsz : s.data.toList.length = s.size := by simp
  obtain ⟨fb, hfb, hfv⟩ : ∃ fb : Int, farL x.far = [byB fb] ∧ ((0 ≤ fb ∧ fb ≤ 1) ∧ (fb == 1) = x.far) := by
    cases x.far
    · exact ⟨0, rfl, by decide⟩
    · exact ⟨1, rfl, by decide⟩
  have e0 : s.data.toList = [] ++ byB x.area :: (byB x.kind :: byB x.owner :: byB x.key :: (varL x.seq.toNat ++ (varL x.near.length ++ (nearsL x.near ++ (varL x.cost.toNat ++ [byB fb]))))) := by rw [hd]; simp [recL, headL, hfb]
  have e1 : s.data.toList = ([] ++ [byB x.area]) ++ byB x.kind :: (byB x.owner :: byB x.key :: (varL x.seq.toNat ++ (varL x.near.length ++ (nearsL x.near ++ (varL x.cost.toNat ++ [byB fb]))))) := by rw [e0]; simp
  have e2 : s.data.toList = ([] ++ [byB x.area] ++ [byB x.kind]) ++ byB x.owner :: (byB x.key :: (varL x.seq.toNat ++ (varL x.near.length ++ (nearsL x.near ++ (varL x.cost.toNat ++ [byB fb]))))) := by rw [e0]; simp
  have e3 : s.data.toList = ([] ++ [byB x.area] ++ [byB x.kind] ++ [byB x.owner]) ++ byB x.key :: (varL x.seq.toNat ++ (varL x.near.length ++ (nearsL x.near ++ (varL x.cost.toNat ++ [byB fb])))) := by rw [e0]; simp
  have e4 : s.data.toList = ([] ++ [byB x.area] ++ [byB x.kind] ++ [byB x.owner] ++ [byB x.key]) ++ (varL x.seq.toNat ++ (varL x.near.length ++ (nearsL x.near ++ (varL x.cost.toNat ++ [byB fb])))) := by rw [e0]; simp
  have e5 : s.data.toList = ([] ++ [byB x.area] ++ [byB x.kind] ++ [byB x.owner] ++ [byB x.key] ++ varL x.seq.toNat) ++ (varL (x.near.length : Int).toNat ++ (nearsL x.near ++ (varL x.cost.toNat ++ [byB fb]))) := by rw [e0]; simp
  have e6 : s.data.toList = ([] ++ [byB x.area] ++ [byB x.kind] ++ [byB x.owner] ++ [byB x.key] ++ varL x.seq.toNat ++ varL (x.near.length : Int).toNat) ++ (nearsL x.near ++ (varL x.cost.toNat ++ [byB fb])) := by rw [e0]; simp
  have e7 : s.data.toList = ([] ++ [byB x.area] ++ [byB x.kind] ++ [byB x.owner] ++ [byB x.key] ++ varL x.seq.toNat ++ varL (x.near.length : Int).toNat ++ nearsL x.near) ++ (varL x.cost.toNat ++ [byB fb]) := by rw [e0]; simp
  have e8 : s.data.toList = ([] ++ [byB x.area] ++ [byB x.kind] ++ [byB x.owner] ++ [byB x.key] ++ varL x.seq.toNat ++ varL (x.near.length : Int).toNat ++ nearsL x.near ++ varL x.cost.toNat) ++ byB fb :: [] := by rw [e0]; simp
  have q0 := oneR_to e0 ⟨B.area.1, by have := B.area.2; omega⟩
  have q1 := oneR_to e1 ⟨by have := B.kind.1; omega, by have := B.kind.2; omega⟩
  have q2 := oneR_to e2 ⟨by have := B.owner.1; omega, by have := B.owner.2; omega⟩
  have q3 := oneR_to e3 ⟨B.key.1, by have := B.key.2; omega⟩
  have q4 := varR_to e4 ⟨by have := B.seq.1; omega, by have := B.seq.2; omega⟩
  have q5 := varR_to e5 ⟨by omega, by omega⟩
  have q6 := nearA_at e6 B.near x.near.length (Nat.le_refl _)
  have q7 := varR_to e7 ⟨B.cost.1, by have := B.cost.2; omega⟩
  have q8 := oneR_to e8 ⟨hfv.1.1, by have := hfv.1.2; omega⟩
  rw [List.take_length, ← List.length_append] at q6
  have k0 : r0 s = _ := q0
  have t1 : r1 s = oneR s (r0 s).p (r0 s).b := rfl
  rw [k0] at t1
  have k1 := t1.trans q1
  have t2 : r2 s = oneR s (r1 s).p (r1 s).b := rfl
  rw [k1] at t2
  have k2 := t2.trans q2
  have t3 : r3 s = oneR s (r2 s).p (r2 s).b := rfl
  rw [k2] at t3
  have k3 := t3.trans q3
  have t4 : r4 s = varR s (r3 s).p (r3 s).b := rfl
  rw [k3] at t4
  have k4 := t4.trans q4
  have t5 : r5 s = varR s (r4 s).p (r4 s).b := rfl
  rw [k4] at t5
  have k5 := t5.trans q5
  have kc : cntI s = x.near.length := by unfold cntI; rw [k5]; simp
  have t6 : r6 s x.near.length = nearA s (r5 s).p (r5 s).b x.near.length := rfl
  rw [k5] at t6
  have k6 := t6.trans q6
  have t7 : r7 s x.near.length = varR s (r6 s x.near.length).p (r6 s x.near.length).b := rfl
  rw [k6] at t7
  have k7 := t7.trans q7
  have t8 : r8 s x.near.length = oneR s (r7 s x.near.length).p (r7 s x.near.length).b := rfl
  rw [k7] at t8
  have k8 := t8.trans q8
  have hp : recP s x.near.length = x := by
    unfold recP
    rw [k0, k1, k2, k3, k4, k6, k7, k8]
    simp only []
    rw [hfv.2]
  have hok : okI s = true := by
    unfold okI
    rw [kc, hp, h, k8]
    have : s.size = (([] ++ [byB x.area] ++ [byB x.kind] ++ [byB x.owner] ++ [byB x.key] ++ varL x.seq.toNat ++ varL (x.near.length : Int).toNat ++ nearsL x.near ++ varL x.cost.toNat) ++ [byB fb]).length := by rw [← hsz, e8]
    simp only [this, Nat.lt_irrefl, decide_false, Bool.false_or, Bool.not_false, Bool.and_true]
    have := hfv.1.2
    simp
    omega
  refine ⟨hok, ?_⟩
  unfold readD
  rw [hok, if_pos rfl, kc, hp]

theorem text_back {s : ByteArray} (h : okI s = true) : recOkB (readD s) = true ∧ bs (recL (readD s)) = s := by
  have hr : readD s = recP s (cntI s) := by unfold readD; rw [h, if_pos rfl]
  rw [hr]
  unfold okI at h
  simp only [Bool.and_eq_true, Bool.not_eq_true', Bool.or_eq_false_iff, decide_eq_false_iff_not] at h
  obtain ⟨⟨⟨h1, h2⟩, h3⟩, h4⟩ := h
  refine ⟨h4, ?_⟩
  have := (text_iff h1 rfl).2 ⟨h2, h3⟩
  apply ByteArray.ext
  apply Array.ext'
  exact this
end Go.Proofs.Ytohjphhocdgpgaa
