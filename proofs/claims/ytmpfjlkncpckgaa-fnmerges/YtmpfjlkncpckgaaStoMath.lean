/-
  Records put into a store in any order: the plain mathematics.
-/
import Derived.Test.YtmpfjlkncpckgaaInstT
import Derived.Test.YtmpfjlkncpckgaaNewS
import Derived.Test.YtmpfjlkncpckgaaFindK
namespace Go.Proofs.Ytmpfjlkncpckgaa
open Go.RowKit

theorem same_symm {x y : RecD} (h : sameKeyB x y = true) : sameKeyB y x = true := by
  unfold sameKeyB at *
  simp only [Bool.and_eq_true, beq_iff_eq] at *
  omega

theorem same_trans {x y z : RecD} (h : sameKeyB x y = true) (h2 : sameKeyB y z = true) : sameKeyB x z = true := by
  unfold sameKeyB at *
  simp only [Bool.and_eq_true, beq_iff_eq] at *
  omega

theorem same_refl (x : RecD) : sameKeyB x x = true := by simp [sameKeyB]

theorem bef_not_same {x y : RecD} (h : beforeB x y = true) : sameKeyB x y = false := by
  cases hs : sameKeyB x y with
  | false => rfl
  | true => rw [(bef_irrefl_same hs).1] at h; cases h

theorem bef_same_right {x y z : RecD} (h1 : sameKeyB y z = true) (h2 : beforeB x y = true) : beforeB x z = true := by
  unfold beforeB sameKeyB at *
  simp only [Bool.or_eq_true, Bool.and_eq_true, decide_eq_true_eq, beq_iff_eq] at *
  omega

theorem bef_irrefl (x : RecD) : beforeB x x = false := (bef_irrefl_same (same_refl x)).1

/-- of one key there is one -/
theorem asc_uniq {xs : List RecD} (h : Asc xs) {x y : RecD} (hx : x ∈ xs) (hy : y ∈ xs) (hs : sameKeyB x y = true) : x = y := by
  unfold Asc at h
  rw [List.pairwise_iff_getElem] at h
  obtain ⟨i, hi, ei⟩ := List.getElem_of_mem hx
  obtain ⟨j, hj, ej⟩ := List.getElem_of_mem hy
  rcases Nat.lt_trichotomy i j with hij | hij | hij
  · have h1 := h i j hi hj hij
    rw [ei, ej] at h1
    rw [bef_not_same h1] at hs
    cases hs
  · subst hij
    rw [← ei, ← ej]
  · have h1 := h j i hj hi hij
    rw [ei, ej] at h1
    have h2 := bef_not_same h1
    rw [same_symm hs] at h2
    cases h2

theorem atZ_neg {xs : List RecD} {r : RecD} (h : atZ xs r = -1) : ∀ x ∈ xs, sameKeyB x r = false := by
  intro x hx
  unfold atZ at h
  cases e : xs.findIdx? (fun x => sameKeyB x r) with
  | none =>
    rw [List.findIdx?_eq_none_iff] at e
    simpa using e x hx
  | some i => rw [e] at h; simp only [] at h; omega

theorem takes_seq {xs : List RecD} {r x : RecD} (ha : Asc xs) (h : takesB xs r = true) (hx : x ∈ xs) (hs : sameKeyB x r = true) : x.seq < r.seq := by
  rcases atZ_cases xs r with hz | ⟨j, y, hz, hy, hys⟩
  · rw [atZ_neg hz x hx] at hs; cases hs
  · rw [takes_at (takes_ok h) hz hy] at h
    have e : x = y := asc_uniq ha hx (List.mem_of_getElem? hy) (same_trans hs (same_symm hys))
    rw [e]
    simpa using h

theorem takes_not {xs : List RecD} {r : RecD} (hr : recOkB r = true) (hl : xs.length < 150) (h : takesB xs r = false) : ∃ x ∈ xs, sameKeyB x r = true ∧ r.seq ≤ x.seq := by
  rcases atZ_cases xs r with hz | ⟨j, y, hz, hy, hys⟩
  · rw [takes_none hr hz, decide_eq_true hl] at h; cases h
  · rw [takes_at hr hz hy] at h
    exact ⟨y, List.mem_of_getElem? hy, hys, by simpa using h⟩

theorem mem_putD {xs : List RecD} {r x : RecD} : x ∈ putD xs r ↔ (x ∈ xs ∧ beforeB x r = true) ∨ x = r ∨ (x ∈ xs ∧ beforeB r x = true) := by
  unfold putD
  simp

theorem two_filters (f g : RecD → Bool) (hfg : ∀ x, f x = true → g x = false) (xs : List RecD) : (xs.filter f).length + (xs.filter g).length ≤ xs.length := by
  induction xs with
  | nil => simp
  | cons x xs ih =>
    rw [List.filter_cons, List.filter_cons, List.length_cons]
    cases hf : f x with
    | true => rw [hfg x hf]; simp; omega
    | false =>
      cases g x with
      | true => simp; omega
      | false => simp; omega

theorem len_instD (xs : List RecD) (r : RecD) : (instD xs r).length ≤ xs.length + 1 := by
  unfold instD
  split
  · unfold putD
    have h := two_filters (fun x => beforeB x r) (fun x => beforeB r x) (fun x h => before_asym h) xs
    simp only [List.length_append, List.length_cons, List.length_nil]
    omega
  · omega

/-- what comes of putting ls into a store, one by one -/
structure Made (ls a : List RecD) : Prop where
  asc : Asc a
  sub : ∀ x ∈ a, x ∈ ls
  all : ∀ y ∈ ls, ∃ x ∈ a, sameKeyB x y = true ∧ y.seq ≤ x.seq

theorem Made.nil : Made [] [] := ⟨List.Pairwise.nil, by simp, by simp⟩

theorem Made.step {ls a : List RecD} {r : RecD} (h : Made ls a) (hr : recOkB r = true) (hl : a.length < 150) : Made (ls ++ [r]) (instD a r) := by
  cases ht : takesB a r with
  | false =>
    have e : instD a r = a := by unfold instD; rw [ht]; rfl
    rw [e]
    refine ⟨h.asc, fun x hx => List.mem_append_left _ (h.sub x hx), ?_⟩
    intro y hy
    rcases List.mem_append.1 hy with h1 | h1
    · exact h.all y h1
    · have : y = r := by simpa using h1
      subst this
      exact takes_not hr hl ht
  | true =>
    have e : instD a r = putD a r := by unfold instD; rw [ht]; rfl
    rw [e]
    refine ⟨asc_putD h.asc r, ?_, ?_⟩
    · intro x hx
      rcases mem_putD.1 hx with h1 | h1 | h1
      · exact List.mem_append_left _ (h.sub x h1.1)
      · rw [h1]; simp
      · exact List.mem_append_left _ (h.sub x h1.1)
    · intro y hy
      rcases List.mem_append.1 hy with h1 | h1
      · obtain ⟨x, hx, hs, hq⟩ := h.all y h1
        rcases bef_tri x r with h2 | h2 | h2
        · exact ⟨x, mem_putD.2 (.inl ⟨hx, h2⟩), hs, hq⟩
        · have h3 := takes_seq h.asc ht hx h2
          exact ⟨r, mem_putD.2 (.inr (.inl rfl)), same_trans (same_symm h2) hs, by omega⟩
        · exact ⟨x, mem_putD.2 (.inr (.inr ⟨hx, h2⟩)), hs, hq⟩
      · have : y = r := by simpa using h1
        subst this
        exact ⟨y, mem_putD.2 (.inr (.inl rfl)), same_refl y, Int.le_refl _⟩

/-- of ls, all of it right -/
def foldI (ls : List RecD) : List RecD := ls.foldl instD []

theorem foldI_len (ls : List RecD) : (foldI ls).length ≤ ls.length := by
  have key : ∀ (ls a : List RecD), (ls.foldl instD a).length ≤ a.length + ls.length := by
    intro ls
    induction ls with
    | nil => intro a; simp
    | cons x ls ih =>
      intro a
      have h1 := ih (instD a x)
      have h2 := len_instD a x
      rw [List.foldl_cons, List.length_cons]
      omega
  have h := key ls []
  simpa [foldI] using h

theorem foldI_snoc (ls : List RecD) (r : RecD) : foldI (ls ++ [r]) = instD (foldI ls) r := by
  unfold foldI
  rw [List.foldl_append]
  rfl

theorem foldI_made (ls : List RecD) (hok : ∀ x ∈ ls, recOkB x = true) (hl : ls.length ≤ 149) : Made ls (foldI ls) := by
  have key : ∀ n, n ≤ ls.length → Made (ls.take n) (foldI (ls.take n)) := by
    intro n
    induction n with
    | zero => intro _; exact Made.nil
    | succ n ih =>
      intro hn
      have h1 := ih (by omega)
      rw [List.take_succ_eq_append_getElem (by omega), foldI_snoc]
      have h2 := foldI_len (ls.take n)
      rw [List.length_take] at h2
      exact h1.step (hok _ (List.getElem_mem _)) (by omega)
  have h := key ls.length (Nat.le_refl _)
  rw [List.take_length] at h
  exact h

theorem Made.store {ls a : List RecD} (h : Made ls a) (hok : ∀ x ∈ ls, recOkB x = true) (hl : a.length ≤ 150) : storeB a = true := by
  unfold storeB
  rw [decide_eq_true hl, asc_back h.asc]
  have e : allOk recOkB a = true := all_true fun j hj => by
    unfold okAt
    rw [List.getElem?_eq_getElem hj]
    exact hok _ (h.sub _ (List.getElem_mem hj))
  rw [e]
  rfl

theorem newest_gen (r : RecD) : ∀ (xs : List RecD) (m : Int), m ≤ xs.foldl (newStep r) m ∧ (∀ x ∈ xs, sameKeyB x r = true → x.seq ≤ xs.foldl (newStep r) m) ∧ (xs.foldl (newStep r) m = m ∨ ∃ x ∈ xs, sameKeyB x r = true ∧ x.seq = xs.foldl (newStep r) m) := by
  intro xs
  induction xs with
  | nil => intro m; simp
  | cons y xs ih =>
    intro m
    rw [List.foldl_cons]
    obtain ⟨h1, h2, h3⟩ := ih (newStep r m y)
    cases hs : sameKeyB y r with
    | false =>
      rw [newStep_no hs] at *
      refine ⟨h1, ?_, ?_⟩
      · intro x hx hk
        rcases List.mem_cons.1 hx with rfl | h4
        · rw [hs] at hk; cases hk
        · exact h2 x h4 hk
      · rcases h3 with h3 | ⟨x, hx, h4⟩
        · exact .inl h3
        · exact .inr ⟨x, List.mem_cons_of_mem _ hx, h4⟩
    | true =>
      by_cases hm : m < y.seq
      · rw [newStep_new hs hm] at *
        refine ⟨by omega, ?_, ?_⟩
        · intro x hx hk
          rcases List.mem_cons.1 hx with rfl | h4
          · exact h1
          · exact h2 x h4 hk
        · rcases h3 with h3 | ⟨x, hx, h4⟩
          · exact .inr ⟨y, List.mem_cons_self .., hs, h3.symm⟩
          · exact .inr ⟨x, List.mem_cons_of_mem _ hx, h4⟩
      · rw [newStep_old hm] at *
        refine ⟨h1, ?_, ?_⟩
        · intro x hx hk
          rcases List.mem_cons.1 hx with rfl | h4
          · omega
          · exact h2 x h4 hk
        · rcases h3 with h3 | ⟨x, hx, h4⟩
          · exact .inl h3
          · exact .inr ⟨x, List.mem_cons_of_mem _ hx, h4⟩

theorem newest_eq {xs : List RecD} {r x : RecD} (hx : x ∈ xs) (hs : sameKeyB x r = true) (h0 : 0 ≤ x.seq) (hall : ∀ y ∈ xs, sameKeyB y r = true → y.seq ≤ x.seq) : newestD xs r = x.seq := by
  obtain ⟨h1, h2, h3⟩ := newest_gen r xs 0
  unfold newestD
  have h4 := h2 x hx hs
  rcases h3 with h3 | ⟨y, hy, hk, e⟩
  · omega
  · have := hall y hy hk; omega

theorem newest_none {xs : List RecD} {r : RecD} (hall : ∀ y ∈ xs, sameKeyB y r = false) : newestD xs r = 0 := by
  obtain ⟨h1, h2, h3⟩ := newest_gen r xs 0
  unfold newestD
  rcases h3 with h3 | ⟨y, hy, hk, e⟩
  · exact h3
  · rw [hall y hy] at hk; cases hk

theorem ok_seq {x : RecD} (h : recOkB x = true) : 1 ≤ x.seq := by
  unfold recOkB inB at h
  simp only [Bool.and_eq_true, decide_eq_true_eq] at h
  omega

/-- a store takes what is newer than what it has -/
theorem takes_newest {a : List RecD} {r : RecD} (ha : Asc a) (hok : ∀ x ∈ a, recOkB x = true) (hr : recOkB r = true) (hl : a.length < 150) : takesB a r = decide (newestD a r < r.seq) := by
  have hrs := ok_seq hr
  rcases atZ_cases a r with hz | ⟨j, y, hz, hy, hys⟩
  · rw [takes_none hr hz, newest_none (atZ_neg hz), decide_eq_true hl, decide_eq_true (by omega)]
  · have hm := List.mem_of_getElem? hy
    have hs := ok_seq (hok y hm)
    rw [takes_at hr hz hy, newest_eq hm hys (by omega) (fun z hz2 hk => by
      rw [asc_uniq ha hz2 hm (same_trans hk (same_symm hys))]
      exact Int.le_refl _)]

theorem made_insB {a : List RecD} {ls : List RecD} {r : RecD} (h : Made ls a) (hok : ∀ x ∈ ls, recOkB x = true) (hr : recOkB r = true) (hl : a.length < 150) : insB a r = decide (newestD a r < r.seq) := by
  unfold insB
  rw [h.store hok (by omega), takes_newest h.asc (fun x hx => hok x (h.sub x hx)) hr hl]
  rfl

theorem made_next {a ls : List RecD} {r : RecD} (h : Made ls a) (hok : ∀ x ∈ ls, recOkB x = true) (hl : a.length < 150) : (if insB a r then insD a r else a) = instD a r := by
  have hs := h.store hok (by omega)
  unfold insD insB instD
  rw [hs]
  cases takesB a r <;> rfl

/-- lists in order with the same keys -/
theorem asc_pair : ∀ (a b : List RecD), Asc a → Asc b → (∀ x ∈ a, ∃ y ∈ b, sameKeyB x y = true) → (∀ y ∈ b, ∃ x ∈ a, sameKeyB x y = true) → a.length = b.length ∧ ∀ (i : Nat) (x y : RecD), a[i]? = some x → b[i]? = some y → sameKeyB x y = true
  | [], [], _, _, _, _ => ⟨rfl, by simp⟩
  | [], y :: b, _, _, _, h => by
    obtain ⟨x, hx, _⟩ := h y (List.mem_cons_self ..)
    simp at hx
  | x :: a, [], _, _, h, _ => by
    obtain ⟨y, hy, _⟩ := h x (List.mem_cons_self ..)
    simp at hy
  | x :: a, y :: b, ha, hb, h1, h2 => by
    have ha1 : ∀ z ∈ a, beforeB x z = true := (List.pairwise_cons.1 ha).1
    have hb1 : ∀ z ∈ b, beforeB y z = true := (List.pairwise_cons.1 hb).1
    have hxy : sameKeyB x y = true := by
      obtain ⟨y', hy', hs⟩ := h1 x (List.mem_cons_self ..)
      rcases List.mem_cons.1 hy' with rfl | h3
      · exact hs
      · obtain ⟨x', hx', hs'⟩ := h2 y (List.mem_cons_self ..)
        rcases List.mem_cons.1 hx' with rfl | h4
        · exact hs'
        · have e1 := ha1 x' h4
          have e2 : beforeB x y = true := bef_same_right hs' e1
          have e3 : beforeB y x = true := bef_same_right (same_symm hs) (hb1 y' h3)
          rw [before_asym e2] at e3
          cases e3
    have t1 : ∀ z ∈ a, ∃ u ∈ b, sameKeyB z u = true := by
      intro z hz
      obtain ⟨u, hu, hs⟩ := h1 z (List.mem_cons_of_mem _ hz)
      rcases List.mem_cons.1 hu with rfl | h3
      · have e := bef_not_same (ha1 z hz)
        rw [same_trans hxy (same_symm hs)] at e
        cases e
      · exact ⟨u, h3, hs⟩
    have t2 : ∀ u ∈ b, ∃ z ∈ a, sameKeyB z u = true := by
      intro u hu
      obtain ⟨z, hz, hs⟩ := h2 u (List.mem_cons_of_mem _ hu)
      rcases List.mem_cons.1 hz with rfl | h3
      · have e := bef_not_same (hb1 u hu)
        rw [same_trans (same_symm hxy) hs] at e
        cases e
      · exact ⟨z, h3, hs⟩
    have ih := asc_pair a b (List.pairwise_cons.1 ha).2 (List.pairwise_cons.1 hb).2 t1 t2
    refine ⟨by simp [ih.1], ?_⟩
    intro i u v hu hv
    cases i with
    | zero =>
      simp at hu hv
      subst hu hv
      exact hxy
    | succ i => exact ih.2 i u v (by simpa using hu) (by simpa using hv)

theorem made_pair {ls ls' a b : List RecD} (ha : Made ls a) (hb : Made ls' b) (hm : ∀ x, x ∈ ls ↔ x ∈ ls') : a.length = b.length ∧ ∀ (i : Nat) (x y : RecD), a[i]? = some x → b[i]? = some y → sameKeyB x y = true ∧ x.seq = y.seq := by
  have h := asc_pair a b ha.asc hb.asc
    (fun x hx => by
      obtain ⟨y, hy, hs, _⟩ := hb.all x ((hm x).1 (ha.sub x hx))
      exact ⟨y, hy, same_symm hs⟩)
    (fun y hy => by
      obtain ⟨x, hx, hs, _⟩ := ha.all y ((hm y).2 (hb.sub y hy))
      exact ⟨x, hx, hs⟩)
  refine ⟨h.1, fun i x y hx hy => ?_⟩
  have hs := h.2 i x y hx hy
  have mx := List.mem_of_getElem? hx
  have my := List.mem_of_getElem? hy
  refine ⟨hs, ?_⟩
  obtain ⟨y', hy', s1, q1⟩ := hb.all x ((hm x).1 (ha.sub x mx))
  have e1 : y' = y := asc_uniq hb.asc hy' my (same_trans s1 hs)
  obtain ⟨x', hx', s2, q2⟩ := ha.all y ((hm y).2 (hb.sub y my))
  have e2 : x' = x := asc_uniq ha.asc hx' mx (same_trans s2 (same_symm hs))
  rw [e1] at q1
  rw [e2] at q2
  omega

theorem made_newest {ls a : List RecD} (ha : Made ls a) (hok : ∀ x ∈ ls, recOkB x = true) {x : RecD} (hx : x ∈ a) : newestD ls x = x.seq := by
  have h0 := ok_seq (hok x (ha.sub x hx))
  refine newest_eq (ha.sub x hx) (same_refl x) (by omega) ?_
  intro y hy hs
  obtain ⟨x', hx', s1, q1⟩ := ha.all y hy
  rw [asc_uniq ha.asc hx' hx (same_trans s1 hs)] at q1
  exact q1

theorem asc_find {a : List RecD} (ha : Asc a) {x : RecD} (hx : x ∈ a) : findD a x = x ∧ findB a x = true := by
  rcases atZ_cases a x with hz | ⟨j, y, hz, hy, hys⟩
  · have := atZ_neg hz x hx
    rw [same_refl] at this
    cases this
  · have e : y = x := asc_uniq ha (List.mem_of_getElem? hy) hx hys
    unfold findD findB
    rw [hz]
    refine ⟨?_, by simp⟩
    rw [if_neg (by omega)]
    simp [hy, e]
end Go.Proofs.Ytmpfjlkncpckgaa
