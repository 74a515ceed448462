/-
  Two stores merged: the plain mathematics.
-/
import Derived.Test.YtmpfjlkncpckgaaStoMath
import Derived.Test.YtmpfjlkncpckgaaNewerJ
import Derived.Test.YtmpfjlkncpckgaaScopeS
namespace Go.Proofs.Ytmpfjlkncpckgaa
open Go.RowKit

/-- what Merge makes of two right stores -/
structure Merged (A B M : List RecD) : Prop where
  made : Made (A ++ B) M
  sto : storeB M = true
  okA : storeB A = true
  okB : storeB B = true
  lenM : M.length ≤ 60

theorem made_self {A : List RecD} (h : Asc A) : Made A A := ⟨h, fun _ hx => hx, fun y hy => ⟨y, hy, same_refl y, Int.le_refl _⟩⟩

theorem made_fold {A B : List RecD} (hA : storeB A = true) (hB : ∀ x ∈ B, recOkB x = true) (hl : A.length + B.length ≤ 60) : Made (A ++ B) (B.foldl instD A) ∧ (B.foldl instD A).length ≤ A.length + B.length := by
  have hA3 := store_ok hA
  have key : ∀ n, n ≤ B.length → Made (A ++ B.take n) ((B.take n).foldl instD A) ∧ ((B.take n).foldl instD A).length ≤ A.length + n := by
    intro n
    induction n with
    | zero => intro _; simpa using made_self hA3.2.2
    | succ n ih =>
      intro hn
      obtain ⟨h1, h2⟩ := ih (by omega)
      rw [List.take_succ_eq_append_getElem (by omega), List.foldl_append, ← List.append_assoc]
      have h3 := len_instD ((B.take n).foldl instD A) B[n]
      refine ⟨h1.step (hB _ (List.getElem_mem _)) (by omega), ?_⟩
      show (instD ((B.take n).foldl instD A) B[n]).length ≤ A.length + (n + 1)
      omega
  have h := key B.length (Nat.le_refl _)
  rw [List.take_length] at h
  exact h

theorem merged_of {A B : List RecD} (hA : storeB A = true) (hB : storeB B = true) (hl : A.length + B.length ≤ 60) : Merged A B (mergeD A B) := by
  have hB3 := store_ok hB
  have hA3 := store_ok hA
  have e : mergeD A B = B.foldl instD A := by unfold mergeD; rw [hA]; rfl
  rw [e]
  obtain ⟨h1, h2⟩ := made_fold hA hB3.2.1 hl
  refine ⟨h1, h1.store ?_ (by omega), hA, hB, by omega⟩
  intro x hx
  rcases List.mem_append.1 hx with h | h
  · exact hA3.2.1 x h
  · exact hB3.2.1 x h

theorem newer_false {ls a : List RecD} (h : Made ls a) {x : RecD} (hx : x ∈ ls) : newerB a x = false := by
  obtain ⟨y, hy, hs, hq⟩ := h.all x hx
  unfold newerB
  rcases atZ_cases a x with hz | ⟨j, z, hz, hzj, hzs⟩
  · rw [atZ_neg hz y hy] at hs; cases hs
  · rw [hz, if_neg (by omega)]
    have e : z = y := asc_uniq h.asc (List.mem_of_getElem? hzj) hy (same_trans hzs (same_symm hs))
    simp [hzj, e]
    omega

theorem newer_empty {ls a xs : List RecD} (h : Made ls a) (hx : ∀ x ∈ xs, x ∈ ls) : xs.filter (newerB a) = [] := by
  rw [List.filter_eq_nil_iff]
  intro x hm
  rw [newer_false h (hx x hm)]
  simp

theorem newest_le {xs : List RecD} {r : RecD} {s : Int} (h0 : 0 ≤ s) (h : ∀ z ∈ xs, sameKeyB z r = true → z.seq ≤ s) : newestD xs r ≤ s := by
  obtain ⟨h1, h2, h3⟩ := newest_gen r xs 0
  unfold newestD
  rcases h3 with h3 | ⟨x, hx, hk, e⟩
  · omega
  · have := h x hx hk; omega

theorem Merged.ok {A B M : List RecD} (h : Merged A B M) : ∀ x ∈ A ++ B, recOkB x = true := by
  intro x hx
  rcases List.mem_append.1 hx with h1 | h1
  · exact (store_ok h.okA).2.1 x h1
  · exact (store_ok h.okB).2.1 x h1

theorem Merged.le {A B M : List RecD} (h : Merged A B M) {y z : RecD} (hy : y ∈ M) (hz : z ∈ A ++ B) (hs : sameKeyB z y = true) : z.seq ≤ y.seq := by
  obtain ⟨x, hx, h1, h2⟩ := h.made.all z hz
  rw [asc_uniq h.made.asc hx hy (same_trans h1 hs)] at h2
  exact h2

/-- each Seq of the merged one is the greater of the two -/
theorem Merged.most {A B M : List RecD} (h : Merged A B M) {y : RecD} (hy : y ∈ M) : (if newestD A y < newestD B y then newestD B y else newestD A y) = y.seq := by
  have h0 := ok_seq (h.ok y (h.made.sub y hy))
  have hA : newestD A y ≤ y.seq := newest_le (by omega) (fun z hz hs => h.le hy (List.mem_append_left _ hz) hs)
  have hB : newestD B y ≤ y.seq := newest_le (by omega) (fun z hz hs => h.le hy (List.mem_append_right _ hz) hs)
  rcases List.mem_append.1 (h.made.sub y hy) with h1 | h1
  · have e := newest_eq h1 (same_refl y) (by omega) (fun z hz hs => h.le hy (List.mem_append_left _ hz) hs)
    split <;> omega
  · have e := newest_eq h1 (same_refl y) (by omega) (fun z hz hs => h.le hy (List.mem_append_right _ hz) hs)
    split <;> omega

/-- what is newer is newer than the newest -/
theorem newer_newest {A : List RecD} {x : RecD} (hA : storeB A = true) (hx : recOkB x = true) (h : newerB A x = true) : newestD A x < x.seq := by
  have h3 := store_ok hA
  have h0 := ok_seq hx
  unfold newerB at h
  rcases atZ_cases A x with hz | ⟨j, y, hz, hy, hs⟩
  · rw [newest_none (atZ_neg hz)]; omega
  · rw [hz, if_neg (by omega)] at h
    have hm := List.mem_of_getElem? hy
    have h1 := ok_seq (h3.2.1 y hm)
    rw [newest_eq hm hs (by omega) (fun z hz2 hk => by rw [asc_uniq h3.2.2 hz2 hm (same_trans hk (same_symm hs))]; exact Int.le_refl _)]
    simpa [hy] using h

theorem takes_stale {M : List RecD} {x y : RecD} (hM : Asc M) (hy : y ∈ M) (hs : sameKeyB y x = true) (hq : x.seq ≤ y.seq) : takesB M x = false := by
  cases h : takesB M x with
  | false => rfl
  | true => have := takes_seq hM h hy hs; omega

theorem Merged.again {A B M : List RecD} (h : Merged A B M) : mergeD M B = M := by
  have key : ∀ (xs : List RecD), (∀ x ∈ xs, x ∈ B) → xs.foldl instD M = M := by
    intro xs
    induction xs with
    | nil => intro _; rfl
    | cons x xs ih =>
      intro hx
      obtain ⟨y, hy, hs, hq⟩ := h.made.all x (List.mem_append_right _ (hx x (List.mem_cons_self ..)))
      have e : instD M x = M := by unfold instD; rw [takes_stale h.made.asc hy hs hq]; rfl
      rw [List.foldl_cons, e]
      exact ih (fun z hz => hx z (List.mem_cons_of_mem _ hz))
  unfold mergeD
  rw [h.sto]
  exact key B (fun x hx => hx)

/-- how many are of an area -/
def cntA (xs : List RecD) (k : Int) : Nat := (xs.filter (fun x => x.area == k)).length

theorem cntA_scope (xs : List RecD) (k : Int) : cntA (xs.filter (inScope k)) k = cntA xs k := by
  unfold cntA
  rw [List.filter_filter]
  congr 1
  apply List.filter_congr
  intro x _
  unfold inScope
  cases x.area == k <;> simp

theorem ok_area {x : RecD} (h : recOkB x = true) : x.area = 0 ∨ x.area = 1 ∨ x.area = 2 ∨ x.area = 9 := by
  unfold recOkB inB at h
  simp only [Bool.and_eq_true, decide_eq_true_eq] at h
  have h2 := h.2
  split at h2
  · simp only [Bool.and_eq_true, decide_eq_true_eq] at h2
    omega
  · split at h2
    · simp only [Bool.and_eq_true, decide_eq_true_eq] at h2
      omega
    · split at h2
      · simp only [Bool.and_eq_true, beq_iff_eq] at h2
        omega
      · cases h2

theorem cnt_all (xs : List RecD) (h : ∀ x ∈ xs, recOkB x = true) : cntA xs 0 + cntA xs 1 + cntA xs 2 + (xs.filter (inScope 9)).length = xs.length := by
  induction xs with
  | nil => rfl
  | cons x xs ih =>
    have h1 := ih (fun y hy => h y (List.mem_cons_of_mem _ hy))
    have h2 := ok_area (h x (List.mem_cons_self ..))
    unfold cntA at h1 ⊢
    unfold inScope at h1 ⊢
    simp only [Bool.or_self] at h1 ⊢
    simp only [List.filter_cons, List.length_cons]
    rcases h2 with e | e | e | e <;> (rw [e]; simp; omega)

theorem cntA_take {ps : List RP} {k : Nat} {p : RP} (a : Int) (h : ps[k]? = some p) : cntA (fsts (ps.take (k + 1))) a = cntA (fsts (ps.take k)) a + (if p.1.area = a then 1 else 0) := by
  rw [show fsts (ps.take (k + 1)) = fsts (ps.take k) ++ [p.1] from map_take h]
  unfold cntA
  rw [List.filter_append, List.length_append]
  congr 1
  by_cases e : p.1.area = a <;> simp [e]

theorem cntA_le (xs : List RecD) (k : Int) : cntA xs k ≤ xs.length := List.length_filter_le _ _

/-- a right store that takes a right record is one -/
theorem store_instD {xs : List RecD} {r : RecD} (h : storeB xs = true) (hr : recOkB r = true) (hl : xs.length < 150) : storeB (instD xs r) = true := by
  have h3 := store_ok h
  have hm := (made_self h3.2.2).step hr hl
  refine hm.store ?_ (by have := len_instD xs r; omega)
  intro x hx
  rcases List.mem_append.1 hx with h1 | h1
  · exact h3.2.1 x h1
  · have : x = r := by simpa using h1
    subst this
    exact hr
end Go.Proofs.Ytmpfjlkncpckgaa
