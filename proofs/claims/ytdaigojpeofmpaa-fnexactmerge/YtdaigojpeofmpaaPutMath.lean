/-
  A record put into a list in order: the plain mathematics.
-/
import Derived.Test.YtdaigojpeofmpaaMergeS
import Derived.Test.YtdaigojpeofmpaaBsI
namespace Go.Proofs.Ytdaigojpeofmpaa
open Go.RowKit

theorem bef_trans {x y z : RecD} (h1 : beforeB x y = true) (h2 : beforeB y z = true) : beforeB x z = true := by
  unfold beforeB at *
  simp only [Bool.or_eq_true, Bool.and_eq_true, decide_eq_true_eq, beq_iff_eq] at *
  omega

theorem bef_same_left {x y z : RecD} (h1 : sameKeyB x y = true) (h2 : beforeB x z = true) : beforeB y z = true := by
  unfold beforeB sameKeyB at *
  simp only [Bool.or_eq_true, Bool.and_eq_true, decide_eq_true_eq, beq_iff_eq] at *
  omega

theorem bef_irrefl_same {x y : RecD} (h1 : sameKeyB x y = true) : beforeB x y = false ∧ beforeB y x = false := by
  unfold beforeB sameKeyB at *
  simp only [Bool.or_eq_false_iff, Bool.and_eq_false_iff, decide_eq_false_iff_not, beq_eq_false_iff_ne, Bool.and_eq_true, beq_iff_eq] at *
  omega

theorem bef_tri (x y : RecD) : beforeB x y = true ∨ sameKeyB x y = true ∨ beforeB y x = true := by
  unfold beforeB sameKeyB
  simp only [Bool.or_eq_true, Bool.and_eq_true, decide_eq_true_eq, beq_iff_eq]
  omega

theorem ordR_lt (x y : RecD) : ordR x y < 0 ↔ beforeB x y = true := by
  rw [← ordR_neg]
  simp

theorem ordR_zero (x y : RecD) : ordR x y = 0 ↔ sameKeyB x y = true := by
  unfold ordR cmpK sameKeyB
  simp only [Bool.and_eq_true, beq_iff_eq]
  by_cases h1 : x.area = y.area
  · rw [if_pos (cmpN_zero.2 h1)]
    by_cases h2 : x.kind = y.kind
    · rw [if_pos (cmpN_zero.2 h2)]
      by_cases h3 : x.owner = y.owner
      · rw [if_pos (cmpN_zero.2 h3), cmpN_zero]
        simp [h1, h2, h3]
      · rw [if_neg (fun h => h3 (cmpN_zero.1 h)), cmpN_zero]
        simp [h3]
    · rw [if_neg (fun h => h2 (cmpN_zero.1 h)), cmpN_zero]
      simp [h2]
  · rw [if_neg (fun h => h1 (cmpN_zero.1 h)), cmpN_zero]
    simp [h1]

/-- in order -/
def Asc (xs : List RecD) : Prop := xs.Pairwise (fun x y => beforeB x y = true)

theorem asc_of {xs : List RecD} (h : ascB ordR xs = true) : Asc xs := by
  unfold Asc
  rw [List.pairwise_iff_getElem]
  have step : ∀ i (h2 : i + 1 < xs.length), beforeB xs[i] xs[i + 1] = true := by
    intro i h2
    have h3 := List.all_eq_true.1 h (i + 1) (List.mem_range.2 h2)
    rw [ascAt_eq (List.getElem?_eq_getElem (by omega)) (List.getElem?_eq_getElem h2), ordR_neg] at h3
    exact h3
  have main : ∀ d i (h2 : i + 1 + d < xs.length), beforeB xs[i] (xs[i + 1 + d]) = true := by
    intro d
    induction d with
    | zero => intro i h2; exact step i h2
    | succ d ih => intro i h2; exact bef_trans (ih i (by omega)) (step (i + 1 + d) h2)
  intro i j hi hj hij
  have h2 := main (j - i - 1) i (by omega)
  have e : i + 1 + (j - i - 1) = j := by omega
  simp only [e] at h2
  exact h2

theorem asc_back {xs : List RecD} (h : Asc xs) : ascB ordR xs = true := by
  unfold Asc at h
  rw [List.pairwise_iff_getElem] at h
  refine all_true fun j hj => ?_
  cases j with
  | zero => rfl
  | succ k =>
    rw [ascAt_eq (List.getElem?_eq_getElem (by omega)) (List.getElem?_eq_getElem hj), ordR_neg]
    exact h k (k + 1) (by omega) hj (by omega)

theorem asc_mono {xs : List RecD} (h : Asc xs) (r : RecD) : ∀ s t, s ≤ t → t < xs.length → ltAt xs r t → ltAt xs r s := by
  intro s t hst ht hl
  unfold Asc at h
  rw [List.pairwise_iff_getElem] at h
  have h1 := (ltAt_of (List.getElem?_eq_getElem ht)).1 hl
  refine (ltAt_of (List.getElem?_eq_getElem (by omega))).2 ?_
  by_cases e : s = t
  · subst e; exact h1
  · rw [ordR_lt] at h1 ⊢
    exact bef_trans (h s t (by omega) ht (by omega)) h1

/-- what l05Put makes of keys in order -/
def putD (xs : List RecD) (r : RecD) : List RecD := xs.filter (fun x => beforeB x r) ++ [r] ++ xs.filter (fun x => beforeB r x)

theorem putL_fsts (ps : List RP) (r : RP) : fsts (putL ps r) = putD (fsts ps) r.1 := by
  unfold putL putD fsts
  simp [List.filter_map, Function.comp_def]

section
variable {xs : List RecD} {r : RecD} {i : Nat}

theorem filt_lo (hi : i ≤ xs.length) (h1 : ∀ t, t < i → ltAt xs r t) (h2 : ∀ t, i ≤ t → t < xs.length → ¬ ltAt xs r t) : xs.filter (fun x => beforeB x r) = xs.take i := by
  conv => lhs; rw [← List.take_append_drop i xs]
  rw [List.filter_append]
  have e1 : (xs.take i).filter (fun x => beforeB x r) = xs.take i := by
    rw [List.filter_eq_self]
    intro x hx
    obtain ⟨t, ht, e⟩ := List.getElem_of_mem hx
    rw [List.length_take] at ht
    rw [List.getElem_take] at e
    have := (ltAt_of (List.getElem?_eq_getElem (show t < xs.length by omega))).1 (h1 t (by omega))
    rw [e, ordR_lt] at this
    exact this
  have e2 : (xs.drop i).filter (fun x => beforeB x r) = [] := by
    rw [List.filter_eq_nil_iff]
    intro x hx hb
    obtain ⟨t, ht, e⟩ := List.getElem_of_mem hx
    rw [List.length_drop] at ht
    rw [List.getElem_drop] at e
    refine h2 (i + t) (by omega) (by omega) ((ltAt_of (List.getElem?_eq_getElem (by omega))).2 ?_)
    rw [e, ordR_lt]
    exact hb
  rw [e1, e2, List.append_nil]

theorem filt_take_no (h1 : ∀ t, t < i → ltAt xs r t) (hi : i ≤ xs.length) : (xs.take i).filter (fun x => beforeB r x) = [] := by
  rw [List.filter_eq_nil_iff]
  intro x hx hb
  obtain ⟨t, ht, e⟩ := List.getElem_of_mem hx
  rw [List.length_take] at ht
  rw [List.getElem_take] at e
  have := (ltAt_of (List.getElem?_eq_getElem (show t < xs.length by omega))).1 (h1 t (by omega))
  rw [e, ordR_lt] at this
  rw [before_asym this] at hb
  cases hb

/-- there is none with the key -/
theorem putD_new (hs : Asc xs) (hi : i ≤ xs.length) (h1 : ∀ t, t < i → ltAt xs r t) (h2 : ∀ t, i ≤ t → t < xs.length → ¬ ltAt xs r t) (h3 : ¬ ∃ x, xs[i]? = some x ∧ ordR x r = 0) : putD xs r = xs.take i ++ [r] ++ xs.drop i := by
  unfold putD
  rw [filt_lo hi h1 h2]
  congr 1
  conv => lhs; rw [← List.take_append_drop i xs]
  rw [List.filter_append, filt_take_no h1 hi, List.nil_append, List.filter_eq_self]
  unfold Asc at hs
  rw [List.pairwise_iff_getElem] at hs
  intro x hx
  obtain ⟨t, ht, e⟩ := List.getElem_of_mem hx
  rw [List.length_drop] at ht
  rw [List.getElem_drop] at e
  have hin : i < xs.length := by omega
  have hfirst : beforeB r xs[i] = true := by
    rcases bef_tri xs[i] r with h | h | h
    · exact absurd ((ltAt_of (List.getElem?_eq_getElem hin)).2 ((ordR_lt _ _).2 h)) (h2 i (Nat.le_refl _) hin)
    · exact absurd ⟨xs[i], List.getElem?_eq_getElem hin, (ordR_zero _ _).2 h⟩ h3
    · exact h
  by_cases e0 : t = 0
  · subst e0
    simp only [Nat.add_zero] at e
    rw [← e]
    exact hfirst
  · rw [← e]
    exact bef_trans hfirst (hs i (i + t) hin (by omega) (by omega))

/-- the one with the key stands at i -/
theorem putD_old (hs : Asc xs) (hi : i < xs.length) (h1 : ∀ t, t < i → ltAt xs r t) (h2 : ∀ t, i ≤ t → t < xs.length → ¬ ltAt xs r t) (h3 : ordR xs[i] r = 0) : putD xs r = xs.set i r := by
  have hsame := (ordR_zero _ _).1 h3
  have e0 : xs.drop i = xs[i] :: xs.drop (i + 1) := List.drop_eq_getElem_cons hi
  unfold putD
  rw [filt_lo (Nat.le_of_lt hi) h1 h2]
  have e1 : xs.filter (fun x => beforeB r x) = xs.drop (i + 1) := by
    conv => lhs; rw [← List.take_append_drop i xs]
    rw [List.filter_append, filt_take_no h1 (Nat.le_of_lt hi), List.nil_append, e0, List.filter_cons, if_neg (by rw [(bef_irrefl_same hsame).2]; simp), List.filter_eq_self]
    unfold Asc at hs
    rw [List.pairwise_iff_getElem] at hs
    intro x hx
    obtain ⟨t, ht, e⟩ := List.getElem_of_mem hx
    rw [List.length_drop] at ht
    rw [List.getElem_drop] at e
    rw [← e]
    exact bef_same_left hsame (hs i (i + 1 + t) hi (by omega) (by omega))
  rw [e1]
  apply List.ext_getElem?
  intro j
  by_cases hj : j < i
  · rw [List.getElem?_set_ne (by omega), List.append_assoc, List.getElem?_append_left (by simp; omega), List.getElem?_take_of_lt hj]
  · by_cases hje : j = i
    · subst hje
      rw [List.getElem?_set_self hi, List.append_assoc, List.getElem?_append_right (by simp; omega), List.length_take, Nat.min_eq_left (by omega), Nat.sub_self]
      rfl
    · rw [List.getElem?_set_ne (by omega), List.append_assoc, List.getElem?_append_right (by simp; omega), List.length_take, Nat.min_eq_left (by omega), List.getElem?_append_right (by simp; omega), List.getElem?_drop]
      congr 1
      simp
      omega
end
end Go.Proofs.Ytdaigojpeofmpaa
