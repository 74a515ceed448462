/-
  Records put into a store in any order: the plain mathematics.
  spec.Newer, impl.Newer: their contracts.
  impl.Newer: its contract.
  spec.Scope, impl.Scope: their contracts.
-/
import Derived.Test.YtdaigojpeofmpaaPk17
import Derived.Test.YtdaigojpeofmpaaPk18
import Derived.Test.YtdaigojpeofmpaaPk9
import Derived.Test.YtdaigojpeofmpaaPk7
namespace Go.Proofs.Ytdaigojpeofmpaa
open Go.RowKit

theorem same_symm {x y : RecD} (h : sameKeyB x y = true) : sameKeyB y x = true := by
  unfold sameKeyB at *
  simp only [Bool.and_eq_true, beq_iff_eq] at *
  omega

theorem same_trans {x y z : RecD} (h : sameKeyB x y = true) (h2 : sameKeyB y z = true) : sameKeyB x z = true := by
  unfold sameKeyB at *
  simp only [Bool.and_eq_true, beq_iff_eq] at *
  omega

theorem same_refl (x : RecD) : sameKeyB x x = true := by simp [sameKeyB]

theorem bef_not_same {x y : RecD} (h : beforeB x y = true) : sameKeyB x y = false := by
  cases hs : sameKeyB x y with
  | false => rfl
  | true => rw [(bef_irrefl_same hs).1] at h; cases h

theorem bef_same_right {x y z : RecD} (h1 : sameKeyB y z = true) (h2 : beforeB x y = true) : beforeB x z = true := by
  unfold beforeB sameKeyB at *
  simp only [Bool.or_eq_true, Bool.and_eq_true, decide_eq_true_eq, beq_iff_eq] at *
  omega

theorem bef_irrefl (x : RecD) : beforeB x x = false := (bef_irrefl_same (same_refl x)).1

/-- of one key there is one -/
theorem asc_uniq {xs : List RecD} (h : Asc xs) {x y : RecD} (hx : x ∈ xs) (hy : y ∈ xs) (hs : sameKeyB x y = true) : x = y := by
  unfold Asc at h
  rw [List.pairwise_iff_getElem] at h
  obtain ⟨i, hi, ei⟩ := List.getElem_of_mem hx
  obtain ⟨j, hj, ej⟩ := List.getElem_of_mem hy
  rcases Nat.lt_trichotomy i j with hij | hij | hij
  · have h1 := h i j hi hj hij
    rw [ei, ej] at h1
    rw [bef_not_same h1] at hs
    cases hs
  · subst hij
    rw [← ei, ← ej]
  · have h1 := h j i hj hi hij
    rw [ei, ej] at h1
    have h2 := bef_not_same h1
    rw [same_symm hs] at h2
    cases h2

theorem atZ_neg {xs : List RecD} {r : RecD} (h : atZ xs r = -1) : ∀ x ∈ xs, sameKeyB x r = false := by
  intro x hx
  unfold atZ at h
  cases e : xs.findIdx? (fun x => sameKeyB x r) with
  | none =>
    rw [List.findIdx?_eq_none_iff] at e
    simpa using e x hx
  | some i => rw [e] at h; simp only [] at h; omega

theorem takes_seq {xs : List RecD} {r x : RecD} (ha : Asc xs) (h : takesB xs r = true) (hx : x ∈ xs) (hs : sameKeyB x r = true) : x.seq < r.seq := by
  rcases atZ_cases xs r with hz | ⟨j, y, hz, hy, hys⟩
  · rw [atZ_neg hz x hx] at hs; cases hs
  · rw [takes_at (takes_ok h) hz hy] at h
    have e : x = y := asc_uniq ha hx (List.mem_of_getElem? hy) (same_trans hs (same_symm hys))
    rw [e]
    simpa using h

theorem takes_not {xs : List RecD} {r : RecD} (hr : recOkB r = true) (hl : xs.length < 150) (h : takesB xs r = false) : ∃ x ∈ xs, sameKeyB x r = true ∧ r.seq ≤ x.seq := by
  rcases atZ_cases xs r with hz | ⟨j, y, hz, hy, hys⟩
  · rw [takes_none hr hz, decide_eq_true hl] at h; cases h
  · rw [takes_at hr hz hy] at h
    exact ⟨y, List.mem_of_getElem? hy, hys, by simpa using h⟩

theorem mem_putD {xs : List RecD} {r x : RecD} : x ∈ putD xs r ↔ (x ∈ xs ∧ beforeB x r = true) ∨ x = r ∨ (x ∈ xs ∧ beforeB r x = true) := by
  unfold putD
  simp

theorem two_filters (f g : RecD → Bool) (hfg : ∀ x, f x = true → g x = false) (xs : List RecD) : (xs.filter f).length + (xs.filter g).length ≤ xs.length := by
  induction xs with
  | nil => simp
  | cons x xs ih =>
    rw [List.filter_cons, List.filter_cons, List.length_cons]
    cases hf : f x with
    | true => rw [hfg x hf]; simp; omega
    | false =>
      cases g x with
      | true => simp; omega
      | false => simp; omega

theorem len_instD (xs : List RecD) (r : RecD) : (instD xs r).length ≤ xs.length + 1 := by
  unfold instD
  split
  · unfold putD
    have h := two_filters (fun x => beforeB x r) (fun x => beforeB r x) (fun x h => before_asym h) xs
    simp only [List.length_append, List.length_cons, List.length_nil]
    omega
  · omega

/-- what comes of putting ls into a store, one by one -/
structure Made (ls a : List RecD) : Prop where
  asc : Asc a
  sub : ∀ x ∈ a, x ∈ ls
  all : ∀ y ∈ ls, ∃ x ∈ a, sameKeyB x y = true ∧ y.seq ≤ x.seq

theorem Made.nil : Made [] [] := ⟨List.Pairwise.nil, by simp, by simp⟩

theorem Made.step {ls a : List RecD} {r : RecD} (h : Made ls a) (hr : recOkB r = true) (hl : a.length < 150) : Made (ls ++ [r]) (instD a r) := by
  cases ht : takesB a r with
  | false =>
    have e : instD a r = a := by unfold instD; rw [ht]; rfl
    rw [e]
    refine ⟨h.asc, fun x hx => List.mem_append_left _ (h.sub x hx), ?_⟩
    intro y hy
    rcases List.mem_append.1 hy with h1 | h1
    · exact h.all y h1
    · have : y = r := by simpa using h1
      subst this
      exact takes_not hr hl ht
  | true =>
    have e : instD a r = putD a r := by unfold instD; rw [ht]; rfl
    rw [e]
    refine ⟨asc_putD h.asc r, ?_, ?_⟩
    · intro x hx
      rcases mem_putD.1 hx with h1 | h1 | h1
      · exact List.mem_append_left _ (h.sub x h1.1)
      · rw [h1]; simp
      · exact List.mem_append_left _ (h.sub x h1.1)
    · intro y hy
      rcases List.mem_append.1 hy with h1 | h1
      · obtain ⟨x, hx, hs, hq⟩ := h.all y h1
        rcases bef_tri x r with h2 | h2 | h2
        · exact ⟨x, mem_putD.2 (.inl ⟨hx, h2⟩), hs, hq⟩
        · have h3 := takes_seq h.asc ht hx h2
          exact ⟨r, mem_putD.2 (.inr (.inl rfl)), same_trans (same_symm h2) hs, by omega⟩
        · exact ⟨x, mem_putD.2 (.inr (.inr ⟨hx, h2⟩)), hs, hq⟩
      · have : y = r := by simpa using h1
        subst this
        exact ⟨y, mem_putD.2 (.inr (.inl rfl)), same_refl y, Int.le_refl _⟩

/-- of ls, all of it right -/
def foldI (ls : List RecD) : List RecD := ls.foldl instD []

theorem foldI_len (ls : List RecD) : (foldI ls).length ≤ ls.length := by
  have key : ∀ (ls a : List RecD), (ls.foldl instD a).length ≤ a.length + ls.length := by
    intro ls
    induction ls with
    | nil => intro a; simp
    | cons x ls ih =>
      intro a
      have h1 := ih (instD a x)
      have h2 := len_instD a x
      rw [List.foldl_cons, List.length_cons]
      omega
  have h := key ls []
  simpa [foldI] using h

theorem foldI_snoc (ls : List RecD) (r : RecD) : foldI (ls ++ [r]) = instD (foldI ls) r := by
  unfold foldI
  rw [List.foldl_append]
  rfl

theorem foldI_made (ls : List RecD) (hok : ∀ x ∈ ls, recOkB x = true) (hl : ls.length ≤ 149) : Made ls (foldI ls) := by
  have key : ∀ n, n ≤ ls.length → Made (ls.take n) (foldI (ls.take n)) := by
    intro n
    induction n with
    | zero => intro _; exact Made.nil
    | succ n ih =>
      intro hn
      have h1 := ih (by omega)
      rw [List.take_succ_eq_append_getElem (by omega), foldI_snoc]
      have h2 := foldI_len (ls.take n)
      rw [List.length_take] at h2
      exact h1.step (hok _ (List.getElem_mem _)) (by omega)
  have h := key ls.length (Nat.le_refl _)
  rw [List.take_length] at h
  exact h

theorem Made.store {ls a : List RecD} (h : Made ls a) (hok : ∀ x ∈ ls, recOkB x = true) (hl : a.length ≤ 150) : storeB a = true := by
  unfold storeB
  rw [decide_eq_true hl, asc_back h.asc]
  have e : allOk recOkB a = true := all_true fun j hj => by
    unfold okAt
    rw [List.getElem?_eq_getElem hj]
    exact hok _ (h.sub _ (List.getElem_mem hj))
  rw [e]
  rfl

theorem newest_gen (r : RecD) : ∀ (xs : List RecD) (m : Int), m ≤ xs.foldl (newStep r) m ∧ (∀ x ∈ xs, sameKeyB x r = true → x.seq ≤ xs.foldl (newStep r) m) ∧ (xs.foldl (newStep r) m = m ∨ ∃ x ∈ xs, sameKeyB x r = true ∧ x.seq = xs.foldl (newStep r) m) := by
  intro xs
  induction xs with
  | nil => intro m; simp
  | cons y xs ih =>
    intro m
    rw [List.foldl_cons]
    obtain ⟨h1, h2, h3⟩ := ih (newStep r m y)
    cases hs : sameKeyB y r with
    | false =>
      rw [newStep_no hs] at *
      refine ⟨h1, ?_, ?_⟩
      · intro x hx hk
        rcases List.mem_cons.1 hx with rfl | h4
        · rw [hs] at hk; cases hk
        · exact h2 x h4 hk
      · rcases h3 with h3 | ⟨x, hx, h4⟩
        · exact .inl h3
        · exact .inr ⟨x, List.mem_cons_of_mem _ hx, h4⟩
    | true =>
      by_cases hm : m < y.seq
      · rw [newStep_new hs hm] at *
        refine ⟨by omega, ?_, ?_⟩
        · intro x hx hk
          rcases List.mem_cons.1 hx with rfl | h4
          · exact h1
          · exact h2 x h4 hk
        · rcases h3 with h3 | ⟨x, hx, h4⟩
          · exact .inr ⟨y, List.mem_cons_self .., hs, h3.symm⟩
          · exact .inr ⟨x, List.mem_cons_of_mem _ hx, h4⟩
      · rw [newStep_old hm] at *
        refine ⟨h1, ?_, ?_⟩
        · intro x hx hk
          rcases List.mem_cons.1 hx with rfl | h4
          · omega
          · exact h2 x h4 hk
        · rcases h3 with h3 | ⟨x, hx, h4⟩
          · exact .inl h3
          · exact .inr ⟨x, List.mem_cons_of_mem _ hx, h4⟩

theorem newest_eq {xs : List RecD} {r x : RecD} (hx : x ∈ xs) (hs : sameKeyB x r = true) (h0 : 0 ≤ x.seq) (hall : ∀ y ∈ xs, sameKeyB y r = true → y.seq ≤ x.seq) : newestD xs r = x.seq := by
  obtain ⟨h1, h2, h3⟩ := newest_gen r xs 0
  unfold newestD
  have h4 := h2 x hx hs
  rcases h3 with h3 | ⟨y, hy, hk, e⟩
  · omega
  · have := hall y hy hk; omega

theorem newest_none {xs : List RecD} {r : RecD} (hall : ∀ y ∈ xs, sameKeyB y r = false) : newestD xs r = 0 := by
  obtain ⟨h1, h2, h3⟩ := newest_gen r xs 0
  unfold newestD
  rcases h3 with h3 | ⟨y, hy, hk, e⟩
  · exact h3
  · rw [hall y hy] at hk; cases hk

theorem ok_seq {x : RecD} (h : recOkB x = true) : 1 ≤ x.seq := by
  unfold recOkB inB at h
  simp only [Bool.and_eq_true, decide_eq_true_eq] at h
  omega

/-- a store takes what is newer than what it has -/
theorem takes_newest {a : List RecD} {r : RecD} (ha : Asc a) (hok : ∀ x ∈ a, recOkB x = true) (hr : recOkB r = true) (hl : a.length < 150) : takesB a r = decide (newestD a r < r.seq) := by
  have hrs := ok_seq hr
  rcases atZ_cases a r with hz | ⟨j, y, hz, hy, hys⟩
  · rw [takes_none hr hz, newest_none (atZ_neg hz), decide_eq_true hl, decide_eq_true (by omega)]
  · have hm := List.mem_of_getElem? hy
    have hs := ok_seq (hok y hm)
    rw [takes_at hr hz hy, newest_eq hm hys (by omega) (fun z hz2 hk => by
      rw [asc_uniq ha hz2 hm (same_trans hk (same_symm hys))]
      exact Int.le_refl _)]

theorem made_insB {a : List RecD} {ls : List RecD} {r : RecD} (h : Made ls a) (hok : ∀ x ∈ ls, recOkB x = true) (hr : recOkB r = true) (hl : a.length < 150) : insB a r = decide (newestD a r < r.seq) := by
  unfold insB
  rw [h.store hok (by omega), takes_newest h.asc (fun x hx => hok x (h.sub x hx)) hr hl]
  rfl

theorem made_next {a ls : List RecD} {r : RecD} (h : Made ls a) (hok : ∀ x ∈ ls, recOkB x = true) (hl : a.length < 150) : (if insB a r then insD a r else a) = instD a r := by
  have hs := h.store hok (by omega)
  unfold insD insB instD
  rw [hs]
  cases takesB a r <;> rfl

/-- lists in order with the same keys -/
theorem asc_pair : ∀ (a b : List RecD), Asc a → Asc b → (∀ x ∈ a, ∃ y ∈ b, sameKeyB x y = true) → (∀ y ∈ b, ∃ x ∈ a, sameKeyB x y = true) → a.length = b.length ∧ ∀ (i : Nat) (x y : RecD), a[i]? = some x → b[i]? = some y → sameKeyB x y = true
  | [], [], _, _, _, _ => ⟨rfl, by simp⟩
  | [], y :: b, _, _, _, h => by
    obtain ⟨x, hx, _⟩ := h y (List.mem_cons_self ..)
    simp at hx
  | x :: a, [], _, _, h, _ => by
    obtain ⟨y, hy, _⟩ := h x (List.mem_cons_self ..)
    simp at hy
  | x :: a, y :: b, ha, hb, h1, h2 => by
    have ha1 : ∀ z ∈ a, beforeB x z = true := (List.pairwise_cons.1 ha).1
    have hb1 : ∀ z ∈ b, beforeB y z = true := (List.pairwise_cons.1 hb).1
    have hxy : sameKeyB x y = true := by
      obtain ⟨y', hy', hs⟩ := h1 x (List.mem_cons_self ..)
      rcases List.mem_cons.1 hy' with rfl | h3
      · exact hs
      · obtain ⟨x', hx', hs'⟩ := h2 y (List.mem_cons_self ..)
        rcases List.mem_cons.1 hx' with rfl | h4
        · exact hs'
        · have e1 := ha1 x' h4
          have e2 : beforeB x y = true := bef_same_right hs' e1
          have e3 : beforeB y x = true := bef_same_right (same_symm hs) (hb1 y' h3)
          rw [before_asym e2] at e3
          cases e3
    have t1 : ∀ z ∈ a, ∃ u ∈ b, sameKeyB z u = true := by
      intro z hz
      obtain ⟨u, hu, hs⟩ := h1 z (List.mem_cons_of_mem _ hz)
      rcases List.mem_cons.1 hu with rfl | h3
      · have e := bef_not_same (ha1 z hz)
        rw [same_trans hxy (same_symm hs)] at e
        cases e
      · exact ⟨u, h3, hs⟩
    have t2 : ∀ u ∈ b, ∃ z ∈ a, sameKeyB z u = true := by
      intro u hu
      obtain ⟨z, hz, hs⟩ := h2 u (List.mem_cons_of_mem _ hu)
      rcases List.mem_cons.1 hz with rfl | h3
      · have e := bef_not_same (hb1 u hu)
        rw [same_trans (same_symm hxy) hs] at e
        cases e
      · exact ⟨z, h3, hs⟩
    have ih := asc_pair a b (List.pairwise_cons.1 ha).2 (List.pairwise_cons.1 hb).2 t1 t2
    refine ⟨by simp [ih.1], ?_⟩
    intro i u v hu hv
    cases i with
    | zero =>
      simp at hu hv
      subst hu hv
      exact hxy
    | succ i => exact ih.2 i u v (by simpa using hu) (by simpa using hv)

theorem made_pair {ls ls' a b : List RecD} (ha : Made ls a) (hb : Made ls' b) (hm : ∀ x, x ∈ ls ↔ x ∈ ls') : a.length = b.length ∧ ∀ (i : Nat) (x y : RecD), a[i]? = some x → b[i]? = some y → sameKeyB x y = true ∧ x.seq = y.seq := by
  have h := asc_pair a b ha.asc hb.asc
    (fun x hx => by
      obtain ⟨y, hy, hs, _⟩ := hb.all x ((hm x).1 (ha.sub x hx))
      exact ⟨y, hy, same_symm hs⟩)
    (fun y hy => by
      obtain ⟨x, hx, hs, _⟩ := ha.all y ((hm y).2 (hb.sub y hy))
      exact ⟨x, hx, hs⟩)
  refine ⟨h.1, fun i x y hx hy => ?_⟩
  have hs := h.2 i x y hx hy
  have mx := List.mem_of_getElem? hx
  have my := List.mem_of_getElem? hy
  refine ⟨hs, ?_⟩
  obtain ⟨y', hy', s1, q1⟩ := hb.all x ((hm x).1 (ha.sub x mx))
  have e1 : y' = y := asc_uniq hb.asc hy' my (same_trans s1 hs)
  obtain ⟨x', hx', s2, q2⟩ := ha.all y ((hm y).2 (hb.sub y my))
  have e2 : x' = x := asc_uniq ha.asc hx' mx (same_trans s2 (same_symm hs))
  rw [e1] at q1
  rw [e2] at q2
  omega

theorem made_newest {ls a : List RecD} (ha : Made ls a) (hok : ∀ x ∈ ls, recOkB x = true) {x : RecD} (hx : x ∈ a) : newestD ls x = x.seq := by
  have h0 := ok_seq (hok x (ha.sub x hx))
  refine newest_eq (ha.sub x hx) (same_refl x) (by omega) ?_
  intro y hy hs
  obtain ⟨x', hx', s1, q1⟩ := ha.all y hy
  rw [asc_uniq ha.asc hx' hx (same_trans s1 hs)] at q1
  exact q1

theorem asc_find {a : List RecD} (ha : Asc a) {x : RecD} (hx : x ∈ a) : findD a x = x ∧ findB a x = true := by
  rcases atZ_cases a x with hz | ⟨j, y, hz, hy, hys⟩
  · have := atZ_neg hz x hx
    rw [same_refl] at this
    cases this
  · have e : y = x := asc_uniq ha (List.mem_of_getElem? hy) hx hys
    unfold findD findB
    rw [hz]
    refine ⟨?_, by simp⟩
    rw [if_neg (by omega)]
    simp [hy, e]
end Go.Proofs.Ytdaigojpeofmpaa
namespace Go.Proofs.Ytdaigojpeofmpaa
open Go.RowKit

set_option linter.unusedSimpArgs false

/-- what t has not, or with a lesser Seq -/
def newerB (ts : List RecD) (x : RecD) : Bool := if atZ ts x < 0 then true else decide ((ts.getD (atZ ts x).toNat zeroRD).seq < x.seq)

theorem bdrewN {B n : Nat} {w w1 : World} (h : Below B w w1) : Below B w (w1.drewN n) := h.trans ⟨rfl, rfl, rfl, Nat.le_refl _, fun _ _ => rfl⟩

theorem newer_none {ts : List RecD} {x : RecD} (h : atZ ts x = -1) : newerB ts x = true := by unfold newerB; rw [h]; rfl

theorem newer_at {ts : List RecD} {x y : RecD} {k : Nat} (h : atZ ts x = (k : Int)) (hy : ts[k]? = some y) : newerB ts x = decide (y.seq < x.seq) := by
  unfold newerB
  rw [h, if_neg (by omega)]
  simp [hy]

theorem fsts_some {ps : List RP} {k : Nat} {y : RecD} (h : (fsts ps)[k]? = some y) : ∃ p, ps[k]? = some p ∧ p.1 = y := by
  simp [fsts] at h
  obtain ⟨v, hv⟩ := h
  exact ⟨(y, v), hv, rfl⟩

end Go.Proofs.Ytdaigojpeofmpaa
namespace Go.Proofs.Ytdaigojpeofmpaa
open Go.RowKit

set_option linter.unusedSimpArgs false

set_option maxRecDepth 100000 in
set_option maxHeartbeats 4000000 in
theorem inewerI_any (v v2 : Value) (ps ts : List RP) (hi : Nat) (w : World) (hv : RecsIn w hi v ps) (hhi : hi ≤ w.heap.size) (ht : RecsIn w hi v2 ts) (hn : tot ps ≤ 1048576) (hn2 : tot ts ≤ 1048576) :
    Calls Try.prog 21 #[v, v2] w fun e w' => ∃ x qs, e = .returned x ∧ fsts qs = (fsts ps).filter (newerB (fsts ts)) ∧ RecsOwn w' w.heap.size w'.heap.size x qs ∧ Below w.heap.size w w' := by
  have hnl := tot_len ps
  have hnt := tot_len ts
  obtain ⟨a1, c1, rfl⟩ := owns_lenS hv.row
  obtain ⟨ta2, tc2, rfl⟩ := owns_lenS ht.row
  have HV := hide hv
  have HT := hide ht
  clear hv ht
  have R0 := hide (recs_lit w w.heap.size (Nat.le_refl _))
  have B0 : Below w.heap.size w (w.alloc (.cells #[] 56)) := (Below.refl _ _).alloc (Nat.le_refl _) _
  go_enter Try.func21, Try.ntmps21
  go_wp2
  generalize w.alloc (.cells #[] 56) = w0 at *
  go_loopw [13, 5] (fun i o wr => ∃ (k : Nat) (qs : List RP) (u : Value), k ≤ ps.length ∧ i = .int .i64 k ∧ o = u ∧ fsts qs = (fsts (ps.take k)).filter (newerB (fsts ts)) ∧ RecsOwn wr w.heap.size wr.heap.size u qs ∧ Below w.heap.size w wr) (fun i _ _ => ps.length - (intOf i).toNat)
  case atStart => exact ⟨0, [], _, by omega, rfl, rfl, by simp [fsts], R0.out, B0⟩
  case round =>
    obtain ⟨k, qs, u, hk, rfl, rfl, hmap, hown, hnx⟩ := hrel
    obtain ⟨ua, uc, rfl⟩ := owns_lenS hown.row
    have hsz := hnx.size
    by_cases hlt : k < ps.length
    · obtain ⟨p, hp⟩ : ∃ p, ps[k]? = some p := ⟨ps[k], List.getElem?_eq_getElem hlt⟩
      have hat := HV.out.at
      obtain ⟨b, off, cap', hve, hbb, c0, c1, c2, c3, c4, c5, c6, c7, _⟩ := hat.cells k p hp
      cases hve
      rw [← hnx.cell (p := ⟨b, off + k * 8, none⟩) (Nat.lt_of_lt_of_le hbb hhi)] at c0
      rw [← hnx.cell (p := ⟨b, off + k * 8 + 1, none⟩) (Nat.lt_of_lt_of_le hbb hhi)] at c1
      rw [← hnx.cell (p := ⟨b, off + k * 8 + 2, none⟩) (Nat.lt_of_lt_of_le hbb hhi)] at c2
      rw [← hnx.cell (p := ⟨b, off + k * 8 + 3, none⟩) (Nat.lt_of_lt_of_le hbb hhi)] at c3
      rw [← hnx.cell (p := ⟨b, off + k * 8 + 4, none⟩) (Nat.lt_of_lt_of_le hbb hhi)] at c4
      rw [← hnx.cell (p := ⟨b, off + k * 8 + 5, none⟩) (Nat.lt_of_lt_of_le hbb hhi)] at c5
      rw [← hnx.cell (p := ⟨b, off + k * 8 + 6, none⟩) (Nat.lt_of_lt_of_le hbb hhi)] at c6
      rw [← hnx.cell (p := ⟨b, off + k * 8 + 7, none⟩) (Nat.lt_of_lt_of_le hbb hhi)] at c7
      have hno := (HV.out.nears p (List.mem_of_getElem? hp)).keep (W' := wr) (fun j _ h2 _ => hnx.block j (by omega))
      obtain ⟨pa, pc, hpn⟩ := owns_lenS hno.1
      have HC := fun W (hb : Below wr.heap.size wr W) => ownRec_any p.1 p.2 0 W (owns_below hno.1 hb (Nat.le_refl _)) (by have := tot_mem (List.mem_of_getElem? hp); omega)
      have HA := fun W (hb : Below wr.heap.size wr W) => placeI_any (.slice ta2 ts.length tc2) ts hi p.1 W (HT.out.below (hnx.trans (hb.mono hsz)) hhi) (by have := hb.size; omega) hn2
      unfold recC at HC
      unfold keyV at HA
      rw [hpn] at c5 HC
      have HAT := hide HA
      have HKEY := hide (fun W => keyOf_raw p.1.area p.1.kind p.1.owner p.1.key p.1.seq (.slice pa p.1.near.length pc) p.1.cost p.1.far W)
      have HCP := hide HC
      have HP := hide hp
      have HM := hide hmap
      have OW := hide hown
      have HQL := hide (show qs.length ≤ 1048576 by
        have h1 := congrArg List.length hmap
        have h2 := List.length_filter_le (newerB (fsts ts)) (fsts (ps.take k))
        simp [fsts] at h1 h2
        omega)
      clear hp hmap hown hno hpn HC hat HA
      have hbw : b < wr.heap.size := by omega
      have hki : (0 : Int) ≤ (k : Int) := by omega
      have hkj : (k : Int) < (ps.length : Int) := by omega
      rcases atZ_cases (fsts ts) p.1 with hz | ⟨j, y, hz, hy, _⟩
      · have HF := hide (newer_none hz)
        rw [hz] at HAT
        rw [show plV (-1) = .tuple #[.int .i64 0, .bool false] from rfl] at HAT
        clear hz
        go_wp2_with fail
        refine (HKEY.out _).mono ?_
        rintro e wk ⟨rfl, bk⟩
        have hbx := heap_alloc_new wr (.cells #[.int .i64 p.1.area, .int .i64 p.1.kind, .int .i64 p.1.owner, .int .i64 p.1.key, .int .i64 p.1.seq, .slice pa p.1.near.length pc, .int .i64 p.1.cost, .bool p.1.far] 56)
        have hbk := (bk.block _ (by simp)).trans hbx
        have bwk : Below wr.heap.size wr wk := ((Below.refl _ _).alloc (Nat.le_refl _) _).trans (bk.mono (by simp))
        clear hbx bk
        go_wp2_with fail
        refine (HAT.out _ bwk).mono ?_
        rintro e w1 ⟨rfl, b1'⟩
        have b1 : Below wr.heap.size wr w1 := bwk.trans (b1'.mono bwk.size)
        have b1s := b1.size
        have hb1 := (b1'.block _ (lt_of_heap hbk)).trans hbk
        have d0 := cells_at hb1 0
        have d1 := cells_at hb1 1
        have d2 := cells_at hb1 2
        have d3 := cells_at hb1 3
        have d4 := cells_at hb1 4
        have d5 := cells_at hb1 5
        have d6 := cells_at hb1 6
        have d7 := cells_at hb1 7
        simp at d0 d1 d2 d3 d4 d5 d6 d7
        clear HAT HKEY hbk b1' bwk hb1
        go_wp2
        go_quiet (fail)
        go_wp2_with fail
        refine (HCP.out _ (bdrewN b1)).mono ?_
        rintro e w2 ⟨v1, rfl, hn2', b2'⟩
        obtain ⟨n1a, n1c, rfl⟩ := owns_lenS hn2'
        have hn2 := owns_baseS (b0 := wr.heap.size) hn2' (show wr.heap.size ≤ w1.heap.size by omega)
        have b2 : Below wr.heap.size wr w2 := (bdrewN b1 (n := nq)).trans (b2'.mono (show wr.heap.size ≤ w1.heap.size by omega))
        clear hn2' b2'
        have b2s := b2.size
        go_wp2_with (first
          | (at_builtin; refine append_struct5 encP_len (by omega) (by omega) _ rfl _ _ 36 rfl w.heap.size 56 Try.underlying36 (.agg (recC zeroRD (.slice none 0 0))) rfl Try.infoRec _ qs (p.1, .slice n1a p.1.near.length n1c) (encP_one _ _ _ _) rfl ((owns_below OW.out.row b2 (Nat.le_refl _)).alloc _) ⟨w2.heap.size, 0, none⟩ 1 rfl (news_struct (cs := encP (p.1, .slice n1a p.1.near.length n1c))) (by have := HQL.out; omega) (by simp; omega) ?_))
        intro v' w4 hown' hgrow
        have ow4 := OW.out.push (p := (p.1, .slice n1a p.1.near.length n1c)) (b2.alloc b2.size _) (by omega) (NearOwn.wide (NearOwn.keep ⟨hn2, fun k hk => (hn2.lt k hk).2⟩ (fun j _ _ h3 => Below.heap_alloc _ _ _ h3)) (Nat.le_refl _) (by simp)) hown' hgrow
        obtain ⟨va, vc, rfl⟩ := owns_lenS hown'
        have B4 : Below w.heap.size w w4 := ((hnx.trans (b2.mono hsz)).alloc (by omega) _).grown hgrow (by simp; omega) (fun k hk => (OW.out.row.lt k hk).1)
        have OW4 := hide ow4
        clear ow4 hown' hgrow hn2
        go_wp2
        go_roundw
        case rel => exact ⟨k + 1, qs ++ [(p.1, .slice n1a p.1.near.length n1c)], _, by omega, by go_num, rfl, by rw [filter_take _ HP.out, HF.out, ← HM.out]; simp [fsts], OW4.out, B4⟩
        case measure => simp [intOf]; omega
      · obtain ⟨t, htj, hty⟩ := fsts_some hy
        have hjl : j < ts.length := (List.getElem?_eq_some_iff.1 htj).1
        have hji : (0 : Int) ≤ (j : Int) := by omega
        have hjj : (j : Int) < (ts.length : Int) := by omega
        have hnat := newer_at hz hy
        rw [hz] at HAT
        rw [show plV (j : Int) = .tuple #[.int .i64 (j : Int), .bool true] from by unfold plV; rw [if_neg (by omega)]] at HAT
        obtain ⟨b2, off2, cp2, hve2, hbb2, _, _, _, _, e4, _, _, _, _⟩ := HT.out.at.cells j t htj
        rw [hty] at e4
        cases hve2
        rw [← hnx.cell (p := ⟨b2, off2 + j * 8 + 4, none⟩) (Nat.lt_of_lt_of_le hbb2 hhi)] at e4
        have hbw2 : b2 < wr.heap.size := by omega
        clear hz hy htj hty
        by_cases hsq : y.seq < p.1.seq
        · have HF := hide (show newerB (fsts ts) p.1 = true by rw [hnat]; exact decide_eq_true hsq)
          clear hnat
          go_wp2_with fail
          refine (HKEY.out _).mono ?_
          rintro e wk ⟨rfl, bk⟩
          have hbx := heap_alloc_new wr (.cells #[.int .i64 p.1.area, .int .i64 p.1.kind, .int .i64 p.1.owner, .int .i64 p.1.key, .int .i64 p.1.seq, .slice pa p.1.near.length pc, .int .i64 p.1.cost, .bool p.1.far] 56)
          have hbk := (bk.block _ (by simp)).trans hbx
          have bwk : Below wr.heap.size wr wk := ((Below.refl _ _).alloc (Nat.le_refl _) _).trans (bk.mono (by simp))
          clear hbx bk
          go_wp2_with fail
          refine (HAT.out _ bwk).mono ?_
          rintro e w1 ⟨rfl, b1'⟩
          have b1 : Below wr.heap.size wr w1 := bwk.trans (b1'.mono bwk.size)
          have b1s := b1.size
          have hb1 := (b1'.block _ (lt_of_heap hbk)).trans hbk
          have d0 := cells_at hb1 0
          have d1 := cells_at hb1 1
          have d2 := cells_at hb1 2
          have d3 := cells_at hb1 3
          have d4 := cells_at hb1 4
          have d5 := cells_at hb1 5
          have d6 := cells_at hb1 6
          have d7 := cells_at hb1 7
          simp at d0 d1 d2 d3 d4 d5 d6 d7
          clear HAT HKEY hbk b1' bwk hb1
          rw [← b1.cell (p := ⟨b2, off2 + j * 8 + 4, none⟩) hbw2] at e4
          go_wp2
          go_quiet (fail)
          go_wp2_with fail
          refine (HCP.out _ (bdrewN b1)).mono ?_
          rintro e w2 ⟨v1, rfl, hn2', b2'⟩
          obtain ⟨n1a, n1c, rfl⟩ := owns_lenS hn2'
          have hn2 := owns_baseS (b0 := wr.heap.size) hn2' (show wr.heap.size ≤ w1.heap.size by omega)
          have bz : Below wr.heap.size wr w2 := (bdrewN b1 (n := nq)).trans (b2'.mono (show wr.heap.size ≤ w1.heap.size by omega))
          clear hn2' b2'
          have bzs := bz.size
          go_wp2_with (first
            | (at_builtin; refine append_struct5 encP_len (by omega) (by omega) _ rfl _ _ 36 rfl w.heap.size 56 Try.underlying36 (.agg (recC zeroRD (.slice none 0 0))) rfl Try.infoRec _ qs (p.1, .slice n1a p.1.near.length n1c) (encP_one _ _ _ _) rfl ((owns_below OW.out.row bz (Nat.le_refl _)).alloc _) ⟨w2.heap.size, 0, none⟩ 1 rfl (news_struct (cs := encP (p.1, .slice n1a p.1.near.length n1c))) (by have := HQL.out; omega) (by simp; omega) ?_))
          intro v' w4 hown' hgrow
          have ow4 := OW.out.push (p := (p.1, .slice n1a p.1.near.length n1c)) (bz.alloc bz.size _) (by omega) (NearOwn.wide (NearOwn.keep ⟨hn2, fun k hk => (hn2.lt k hk).2⟩ (fun j _ _ h3 => Below.heap_alloc _ _ _ h3)) (Nat.le_refl _) (by simp)) hown' hgrow
          obtain ⟨va, vc, rfl⟩ := owns_lenS hown'
          have B4 : Below w.heap.size w w4 := ((hnx.trans (bz.mono hsz)).alloc (by omega) _).grown hgrow (by simp; omega) (fun k hk => (OW.out.row.lt k hk).1)
          have OW4 := hide ow4
          clear ow4 hown' hgrow hn2
          go_wp2
          go_roundw
          case rel => exact ⟨k + 1, qs ++ [(p.1, .slice n1a p.1.near.length n1c)], _, by omega, by go_num, rfl, by rw [filter_take _ HP.out, HF.out, ← HM.out]; simp [fsts], OW4.out, B4⟩
          case measure => simp [intOf]; omega
        · have HF := hide (show newerB (fsts ts) p.1 = false by rw [hnat]; exact decide_eq_false hsq)
          clear hnat
          go_wp2_with fail
          refine (HKEY.out _).mono ?_
          rintro e wk ⟨rfl, bk⟩
          have hbx := heap_alloc_new wr (.cells #[.int .i64 p.1.area, .int .i64 p.1.kind, .int .i64 p.1.owner, .int .i64 p.1.key, .int .i64 p.1.seq, .slice pa p.1.near.length pc, .int .i64 p.1.cost, .bool p.1.far] 56)
          have hbk := (bk.block _ (by simp)).trans hbx
          have bwk : Below wr.heap.size wr wk := ((Below.refl _ _).alloc (Nat.le_refl _) _).trans (bk.mono (by simp))
          clear hbx bk
          go_wp2_with fail
          refine (HAT.out _ bwk).mono ?_
          rintro e w1 ⟨rfl, b1'⟩
          have b1 : Below wr.heap.size wr w1 := bwk.trans (b1'.mono bwk.size)
          have b1s := b1.size
          have hb1 := (b1'.block _ (lt_of_heap hbk)).trans hbk
          have d0 := cells_at hb1 0
          have d1 := cells_at hb1 1
          have d2 := cells_at hb1 2
          have d3 := cells_at hb1 3
          have d4 := cells_at hb1 4
          have d5 := cells_at hb1 5
          have d6 := cells_at hb1 6
          have d7 := cells_at hb1 7
          simp at d0 d1 d2 d3 d4 d5 d6 d7
          clear HAT HKEY hbk b1' bwk hb1
          rw [← b1.cell (p := ⟨b2, off2 + j * 8 + 4, none⟩) hbw2] at e4
          go_wp2
          go_quiet (fail)
          have OWA := hide ((OW.out.below (bdrewN (n := nq) b1) (Nat.le_refl _)).wide (Nat.le_refl _) (show wr.heap.size ≤ (w1.drewN nq).heap.size from b1s))
          clear OW
          have OW := OWA
          have BW1 : Below w.heap.size w (w1.drewN nq) := hnx.trans ((bdrewN b1).mono hsz)
          go_wp2
          go_roundw
          case rel => exact ⟨k + 1, qs, _, by omega, by go_num, rfl, by rw [filter_take _ HP.out, HF.out, ← HM.out]; simp, OW.out, BW1⟩
          case measure => simp [intOf]; omega
    · have hkn : k = ps.length := by omega
      have KN := hide hkn
      have OW := hide hown
      have HM := hide hmap
      clear hkn hown hmap
      go_wp2
      go_ret
      have h1 := HM.out
      rw [KN.out, List.take_length] at h1
      first
        | exact ⟨_, qs, rfl, h1, OW.out, hnx⟩
        | exact ⟨_, rfl, qs, h1, OW.out, hnx⟩

end Go.Proofs.Ytdaigojpeofmpaa
namespace Go.Proofs.Ytdaigojpeofmpaa
open Go.RowKit

def inScope (a : Int) (x : RecD) : Bool := x.area == a || x.area == 9

set_option maxRecDepth 100000 in
set_option maxHeartbeats 2000000 in
theorem iscope_any (v : Value) (ps : List RP) (lo hi : Nat) (a : Int) (w : World) (hv : RecsOwn w lo hi v ps) (hhi : hi ≤ w.heap.size) (hn : tot ps ≤ 1048576) :
    Calls Try.prog 23 #[v, .int .i64 a] w fun e w' => ∃ x qs, e = .returned x ∧ fsts qs = (fsts ps).filter (inScope a) ∧ RecsOwn w' w.heap.size w'.heap.size x qs ∧ Below w.heap.size w w' := by
  have hnl := tot_len ps
  obtain ⟨a1, c1, rfl⟩ := owns_lenS hv.row
  have HV := hide hv
  clear hv
  have R0 := hide (recs_lit w w.heap.size (Nat.le_refl _))
  have B0 : Below w.heap.size w (w.alloc (.cells #[] 56)) := (Below.refl _ _).alloc (Nat.le_refl _) _
  go_enter Try.func23, Try.ntmps23
  go_wp2
  generalize w.alloc (.cells #[] 56) = w0 at *
  go_loopw [11, 5] (fun i o wr => ∃ (k : Nat) (qs : List RP) (u : Value), k ≤ ps.length ∧ i = .int .i64 k ∧ o = u ∧ fsts qs = (fsts (ps.take k)).filter (inScope a) ∧ RecsOwn wr w.heap.size wr.heap.size u qs ∧ Below w.heap.size w wr) (fun i _ _ => ps.length - (intOf i).toNat)
  case atStart => exact ⟨0, [], _, by omega, rfl, rfl, by simp [fsts], R0.out, B0⟩
  case round =>
    obtain ⟨k, qs, u, hk, rfl, rfl, hmap, hown, hnx⟩ := hrel
    obtain ⟨ua, uc, rfl⟩ := owns_lenS hown.row
    have hsz := hnx.size
    by_cases hlt : k < ps.length
    · obtain ⟨p, hp⟩ : ∃ p, ps[k]? = some p := ⟨ps[k], List.getElem?_eq_getElem hlt⟩
      have hat := HV.out.at
      obtain ⟨b, off, cap', hve, hbb, c0, c1, c2, c3, c4, c5, c6, c7, _⟩ := hat.cells k p hp
      cases hve
      rw [← hnx.cell (p := ⟨b, off + k * 8, none⟩) (Nat.lt_of_lt_of_le hbb hhi)] at c0
      rw [← hnx.cell (p := ⟨b, off + k * 8 + 1, none⟩) (Nat.lt_of_lt_of_le hbb hhi)] at c1
      rw [← hnx.cell (p := ⟨b, off + k * 8 + 2, none⟩) (Nat.lt_of_lt_of_le hbb hhi)] at c2
      rw [← hnx.cell (p := ⟨b, off + k * 8 + 3, none⟩) (Nat.lt_of_lt_of_le hbb hhi)] at c3
      rw [← hnx.cell (p := ⟨b, off + k * 8 + 4, none⟩) (Nat.lt_of_lt_of_le hbb hhi)] at c4
      rw [← hnx.cell (p := ⟨b, off + k * 8 + 5, none⟩) (Nat.lt_of_lt_of_le hbb hhi)] at c5
      rw [← hnx.cell (p := ⟨b, off + k * 8 + 6, none⟩) (Nat.lt_of_lt_of_le hbb hhi)] at c6
      rw [← hnx.cell (p := ⟨b, off + k * 8 + 7, none⟩) (Nat.lt_of_lt_of_le hbb hhi)] at c7
      have hno := (HV.out.nears p (List.mem_of_getElem? hp)).keep (W' := wr) (fun j _ h2 _ => hnx.block j (by omega))
      obtain ⟨pa, pc, hpn⟩ := owns_lenS hno.1
      have HC := fun o => ownRec_any p.1 p.2 lo (wr.alloc o) (hno.1.alloc o) (by have := tot_mem (List.mem_of_getElem? hp); omega)
      unfold recC at HC
      rw [hpn] at c5 HC
      have HCP := hide HC
      have HP := hide hp
      have HM := hide hmap
      have OW := hide hown
      have HQL := hide (show qs.length ≤ 1048576 by
        have h1 := congrArg List.length hmap
        have h2 := List.length_filter_le (inScope a) (fsts (ps.take k))
        simp [fsts] at h1 h2
        omega)
      clear hp hmap hown hno hpn HC hat
      have hki : (0 : Int) ≤ (k : Int) := by omega
      have hkj : (k : Int) < (ps.length : Int) := by omega
      by_cases h1 : p.1.area = a
      · have HF := hide (show inScope a p.1 = true by simp [inScope, h1])
        have hd : (p.1.area == a) = true := by simpa using h1
        clear h1
        go_wp2_with fail
        refine (HCP.out _).mono ?_
        rintro e w2 ⟨v1, rfl, hn2', b2'⟩
        obtain ⟨n1a, n1c, rfl⟩ := owns_lenS hn2'
        have hn2 := owns_baseS (b0 := wr.heap.size) hn2' (by simp)
        have b2 : Below wr.heap.size wr w2 := ((Below.refl _ _).alloc (Nat.le_refl _) _).trans (b2'.mono (by simp))
        clear hn2' b2'
        have b2s := b2.size
        go_wp2_with (first
          | (at_builtin; refine append_struct5 encP_len (by omega) (by omega) _ rfl _ _ 36 rfl w.heap.size 56 Try.underlying36 (.agg (recC zeroRD (.slice none 0 0))) rfl Try.infoRec _ qs (p.1, .slice n1a p.1.near.length n1c) (encP_one _ _ _ _) rfl ((owns_below OW.out.row b2 (Nat.le_refl _)).alloc _) ⟨w2.heap.size, 0, none⟩ 1 rfl (news_struct (cs := encP (p.1, .slice n1a p.1.near.length n1c))) (by have := HQL.out; omega) (by simp; omega) ?_))
        intro v' w4 hown' hgrow
        have ow4 := OW.out.push (p := (p.1, .slice n1a p.1.near.length n1c)) (b2.alloc b2.size _) (by omega) (NearOwn.wide (NearOwn.keep ⟨hn2, fun k hk => (hn2.lt k hk).2⟩ (fun j _ _ h3 => Below.heap_alloc _ _ _ h3)) (Nat.le_refl _) (by simp)) hown' hgrow
        obtain ⟨va, vc, rfl⟩ := owns_lenS hown'
        have B4 : Below w.heap.size w w4 := ((hnx.trans (b2.mono hsz)).alloc (by omega) _).grown hgrow (by simp; omega) (fun k hk => (OW.out.row.lt k hk).1)
        have OW4 := hide ow4
        clear ow4 hown' hgrow hn2
        go_wp2
        go_roundw
        case rel => exact ⟨k + 1, qs ++ [(p.1, .slice n1a p.1.near.length n1c)], _, by omega, by go_num, rfl, by rw [filter_take _ HP.out, HF.out, ← HM.out]; simp [fsts], OW4.out, B4⟩
        case measure => simp [intOf]; omega
      have hd : (p.1.area == a) = false := by simpa using h1
      by_cases h2 : p.1.area = 9
      · have HF := hide (show inScope a p.1 = true by simp [inScope, h2])
        have hd2 : (p.1.area == 9) = true := by simpa using h2
        clear h1 h2
        go_wp2_with fail
        refine (HCP.out _).mono ?_
        rintro e w2 ⟨v1, rfl, hn2', b2'⟩
        obtain ⟨n1a, n1c, rfl⟩ := owns_lenS hn2'
        have hn2 := owns_baseS (b0 := wr.heap.size) hn2' (by simp)
        have b2 : Below wr.heap.size wr w2 := ((Below.refl _ _).alloc (Nat.le_refl _) _).trans (b2'.mono (by simp))
        clear hn2' b2'
        have b2s := b2.size
        go_wp2_with (first
          | (at_builtin; refine append_struct5 encP_len (by omega) (by omega) _ rfl _ _ 36 rfl w.heap.size 56 Try.underlying36 (.agg (recC zeroRD (.slice none 0 0))) rfl Try.infoRec _ qs (p.1, .slice n1a p.1.near.length n1c) (encP_one _ _ _ _) rfl ((owns_below OW.out.row b2 (Nat.le_refl _)).alloc _) ⟨w2.heap.size, 0, none⟩ 1 rfl (news_struct (cs := encP (p.1, .slice n1a p.1.near.length n1c))) (by have := HQL.out; omega) (by simp; omega) ?_))
        intro v' w4 hown' hgrow
        have ow4 := OW.out.push (p := (p.1, .slice n1a p.1.near.length n1c)) (b2.alloc b2.size _) (by omega) (NearOwn.wide (NearOwn.keep ⟨hn2, fun k hk => (hn2.lt k hk).2⟩ (fun j _ _ h3 => Below.heap_alloc _ _ _ h3)) (Nat.le_refl _) (by simp)) hown' hgrow
        obtain ⟨va, vc, rfl⟩ := owns_lenS hown'
        have B4 : Below w.heap.size w w4 := ((hnx.trans (b2.mono hsz)).alloc (by omega) _).grown hgrow (by simp; omega) (fun k hk => (OW.out.row.lt k hk).1)
        have OW4 := hide ow4
        clear ow4 hown' hgrow hn2
        go_wp2
        go_roundw
        case rel => exact ⟨k + 1, qs ++ [(p.1, .slice n1a p.1.near.length n1c)], _, by omega, by go_num, rfl, by rw [filter_take _ HP.out, HF.out, ← HM.out]; simp [fsts], OW4.out, B4⟩
        case measure => simp [intOf]; omega
      · have HF := hide (show inScope a p.1 = false by simp [inScope, h1, h2])
        have hd2 : (p.1.area == 9) = false := by simpa using h2
        clear h1 h2
        have OWA := hide ((OW.out.below ((Below.refl wr.heap.size wr).alloc (Nat.le_refl _) (.cells (recC p.1 (.slice pa p.1.near.length pc)) 56)) (Nat.le_refl _)).wide (Nat.le_refl _) (by simp : _ ≤ (wr.alloc (.cells (recC p.1 (.slice pa p.1.near.length pc)) 56)).heap.size))
        unfold recC at OWA
        clear OW
        have OW := OWA
        go_wp2
        go_roundw
        case rel => exact ⟨k + 1, qs, _, by omega, by go_num, rfl, by rw [filter_take _ HP.out, HF.out, ← HM.out]; simp, OW.out, hnx.alloc hsz _⟩
        case measure => simp [intOf]; omega
    · have hkn : k = ps.length := by omega
      have KN := hide hkn
      have OW := hide hown
      have HM := hide hmap
      clear hkn hown hmap
      go_wp2
      go_ret
      have h1 := HM.out
      rw [KN.out, List.take_length] at h1
      first
        | exact ⟨_, qs, rfl, h1, OW.out, hnx⟩
        | exact ⟨_, rfl, qs, h1, OW.out, hnx⟩
end Go.Proofs.Ytdaigojpeofmpaa
