/-
  The ideal records of a right net are a right store.
  The ideal links are seen from both ends at one cost; so ways back cost the same.
  Routes as values; laws.szRoute, toRoute, eqRoute.
  Routes to things: what is offered, as ways whose cost is the rank of the offer.
  Lists of routes, each with a row of its own.
  laws.szRouteS, toRouteS, eqRouteS: their contracts.
  laws.markRouteS, heldRouteS: only the list's own memory turns; what was marked is held.
  spec.HopsTo, impl.HopsTo: their contracts.
-/
import Derived.Test.YtbknmgobmnjphaaWk23
import Derived.Test.YtbknmgobmnjphaaWk8
import Derived.Test.YtbknmgobmnjphaaWk7
import Derived.Test.YtbknmgobmnjphaaWk3
import Derived.Handy
import Derived.Test.YtbknmgobmnjphaaWk12
namespace Go.Proofs.Ytbknmgobmnjphaa
open Go.RowKit

theorem asc_putI {rs : List RecD} (h : Asc rs) (r : RecD) : Asc (putD rs r) := by
  unfold putD Asc
  rw [List.append_assoc, List.pairwise_append]
  refine ⟨List.Pairwise.filter _ h, ?_, ?_⟩
  · rw [List.pairwise_append]
    refine ⟨by simp, List.Pairwise.filter _ h, fun a ha b hb => ?_⟩
    have : a = r := by simpa using ha
    subst this
    exact (List.mem_filter.1 hb).2
  · intro a ha b hb
    have h1 := (List.mem_filter.1 ha).2
    rcases List.mem_append.1 hb with h2 | h2
    · have : b = r := by simpa using h2
      subst this
      exact h1
    · exact bef_trans h1 (List.mem_filter.1 h2).2

theorem mem_putI {xs : List RecD} {r x : RecD} (h : x ∈ putD xs r) : x ∈ xs ∨ x = r := by
  unfold putD at h
  simp only [List.append_assoc, List.mem_append, List.mem_filter, List.mem_singleton] at h
  rcases h with h | h | h
  · exact .inl h.1
  · exact .inr h
  · exact .inl h.1

/-- how many are such -/
def cntR (p : RecD → Bool) (xs : List RecD) : Nat := (xs.filter p).length

theorem cntR_append (p : RecD → Bool) (a b : List RecD) : cntR p (a ++ b) = cntR p a + cntR p b := by simp [cntR]

theorem cntR_two (p f g : RecD → Bool) (hfg : ∀ x, f x = true → g x = false) (xs : List RecD) : cntR p (xs.filter f) + cntR p (xs.filter g) ≤ cntR p xs := by
  induction xs with
  | nil => simp [cntR]
  | cons x xs ih =>
    have h := hfg x
    unfold cntR at *
    simp only [List.filter_cons]
    cases hf : f x <;> cases hg : g x <;> cases hp : p x <;> simp_all <;> omega

theorem cntR_put (p : RecD → Bool) (xs : List RecD) (r : RecD) : cntR p (putD xs r) ≤ cntR p xs + (if p r then 1 else 0) := by
  unfold putD
  rw [cntR_append, cntR_append]
  have h := cntR_two p (fun x => beforeB x r) (fun x => beforeB r x) (fun x hx => before_asym hx) xs
  have h1 : cntR p [r] = if p r then 1 else 0 := by unfold cntR; cases hp : p r <;> simp [hp]
  omega

theorem cntR_filter (p f : RecD → Bool) (xs : List RecD) : cntR p (xs.filter f) ≤ cntR p xs := by
  unfold cntR
  rw [List.filter_filter]
  induction xs with
  | nil => simp
  | cons x xs ih =>
    simp only [List.filter_cons]
    cases hf : f x <;> cases hp : p x <;> simp_all
    omega

theorem cntR_le (p : RecD → Bool) (xs : List RecD) : cntR p xs ≤ xs.length := List.length_filter_le _ _

theorem cntR_zero {p : RecD → Bool} {xs : List RecD} (h : ∀ x ∈ xs, p x = false) : cntR p xs = 0 := by
  unfold cntR
  rw [List.length_eq_zero_iff, List.filter_eq_nil_iff]
  intro a ha
  rw [h a ha]; decide

/-- told by node u of beyond -/
def hisR (u : Int) (r : RecD) : Bool := r.kind == 2 && r.owner == u

def ownR (r : RecD) : Bool := r.kind != 2

theorem with_keeps : ∀ {ts : List RecD} {xs : List RecD}, Asc xs → (∀ r ∈ xs, recOkB r = true) → (∀ r ∈ ts, recOkB (seq1 r) = true) → Asc (withD xs ts) ∧ ∀ r ∈ withD xs ts, recOkB r = true
  | [], xs, h1, h2, _ => ⟨h1, h2⟩
  | t :: ts, xs, h1, h2, h3 => by
    have := with_keeps (ts := ts) (xs := putD xs (seq1 t)) (asc_putI h1 _) (fun r hr => by
      rcases mem_putI hr with h | h
      · exact h2 r h
      · rw [h]; exact h3 t (by simp)) (fun r hr => h3 r (List.mem_cons_of_mem _ hr))
    exact this

theorem cnt_with (p : RecD → Bool) (hp : ∀ r, p (seq1 r) = p r) : ∀ (ts xs : List RecD), cntR p (withD xs ts) ≤ cntR p xs + cntR p ts
  | [], xs => by simp [withD, cntR]
  | t :: ts, xs => by
    have h := cnt_with p hp ts (putD xs (seq1 t))
    have h1 := cntR_put p xs (seq1 t)
    have h2 : cntR p (t :: ts) = (if p t then 1 else 0) + cntR p ts := by unfold cntR; cases hp' : p t <;> simp [hp'] <;> omega
    rw [hp] at h1
    have h3 : withD xs (t :: ts) = withD (putD xs (seq1 t)) ts := rfl
    rw [h3]
    omega

theorem seq1_kind (r : RecD) : (seq1 r).kind = r.kind ∧ (seq1 r).owner = r.owner := by unfold seq1; split <;> exact ⟨rfl, rfl⟩

theorem hisR_seq (u : Int) (r : RecD) : hisR u (seq1 r) = hisR u r := by unfold hisR; rw [(seq1_kind r).1, (seq1_kind r).2]

theorem ownR_seq (r : RecD) : ownR (seq1 r) = ownR r := by unfold ownR; rw [(seq1_kind r).1]

theorem mem_tolD {xs : List RecD} {al : List Int} {src a : Int} {r : RecD} (h : r ∈ tolD xs al src a) : ∃ to c, r = tellR a src to c ∧ toldTo xs al src a to c := by
  unfold tolD at h
  split at h
  · rename_i hx
    exact ((Classical.choose_spec hx).2 r).1 h
  · cases h

theorem tolD_len (xs : List RecD) (al : List Int) (src a : Int) : (tolD xs al src a).length ≤ 6 := by
  unfold tolD
  split
  · rename_i hx
    exact (Classical.choose_spec hx).tot.1
  · simp

theorem mem_allTold {xs : List RecD} {al bl : List Int} {src : Int} {r : RecD} (h : r ∈ allTold xs al src bl) : ∃ a to c, a ∈ bl ∧ r = tellR a src to c ∧ toldTo xs al src a to c := by
  unfold allTold at h
  obtain ⟨a, ha, hr⟩ := List.mem_flatMap.1 h
  obtain ⟨to, c, h1, h2⟩ := mem_tolD hr
  exact ⟨a, to, c, ha, h1, h2⟩

theorem allTold_len (xs : List RecD) (al : List Int) (src : Int) : ∀ bl : List Int, (allTold xs al src bl).length ≤ 6 * bl.length
  | [] => by simp [allTold]
  | a :: bl => by
    have h := allTold_len xs al src bl
    have h1 := tolD_len xs al src a
    have h2 : allTold xs al src (a :: bl) = tolD xs al src a ++ allTold xs al src bl := rfl
    rw [h2, List.length_append, List.length_cons]
    omega

theorem told_cost {xs : List RecD} {al : List Int} {src a to c : Int} (h : toldTo xs al src a to c) : 0 ≤ c ∧ c ≤ 60000 := by
  obtain ⟨_, _, ⟨w, h1, e⟩ | ⟨_, w, h1, e⟩⟩ := h
  · rw [e]; exact (best_good h1 (fun d h => withinS_good h)).1.cost
  · rw [e]; exact (best_good h1 (fun d h => beyondS_good h)).1.cost

theorem tell_ok {a node to c : Int} (ha : 0 ≤ a ∧ a ≤ 2) (hn : 1 ≤ node ∧ node ≤ 6) (ht : 1 ≤ to ∧ to ≤ 6) (hc : 0 ≤ c ∧ c ≤ 60000) : recOkB (seq1 (tellR a node to c)) = true := by
  simp [recOkB, seq1, tellR, inB]
  omega

theorem mem_areasL {ls : List Lk} {v a : Int} (h : a ∈ areasL ls v) : 0 ≤ a ∧ a ≤ 2 := by
  unfold areasL at h
  have := (List.mem_filter.1 h).1
  simp at this
  omega

/-- what is so all the while -/
structure IdOk (N : Nat) (xs : List RecD) : Prop where
  asc : Asc xs
  ok : ∀ r ∈ xs, recOkB r = true
  own : cntR ownR xs ≤ 22
  his : ∀ u, cntR (hisR u) xs ≤ 18

theorem IdOk.bey {N : Nat} {xs : List RecD} (h : IdOk N xs) {ls : List Lk} {node : Int} (hn : 1 ≤ node ∧ node ≤ 6) : IdOk N (beyD xs (areasL ls node) node) := by
  have hal := areasL_len ls node
  have hlen := allTold_len xs (areasL ls node) node (areasL ls node)
  obtain ⟨k1, k2⟩ := with_keeps (ts := allTold xs (areasL ls node) node (areasL ls node)) (xs := xs.filter (notHis node)) (List.Pairwise.filter _ h.asc) (fun r hr => h.ok r (List.mem_filter.1 hr).1) (fun r hr => by
    obtain ⟨a, to, c, ha, rfl, ht⟩ := mem_allTold hr
    exact tell_ok (mem_areasL ha) hn (toldTo_node ht) (told_cost ht))
  refine ⟨k1, k2, ?_, fun u => ?_⟩
  · have h1 := cnt_with ownR ownR_seq (allTold xs (areasL ls node) node (areasL ls node)) (xs.filter (notHis node))
    have h2 := cntR_filter ownR (notHis node) xs
    have h3 : cntR ownR (allTold xs (areasL ls node) node (areasL ls node)) = 0 := cntR_zero (fun r hr => by
      obtain ⟨a, to, c, ha, rfl, ht⟩ := mem_allTold hr
      rfl)
    have h4 := h.own
    unfold beyD
    omega
  · have h1 := cnt_with (hisR u) (hisR_seq u) (allTold xs (areasL ls node) node (areasL ls node)) (xs.filter (notHis node))
    have h2 := cntR_filter (hisR u) (notHis node) xs
    unfold beyD
    by_cases e : u = node
    · have h3 : cntR (hisR u) (xs.filter (notHis node)) = 0 := cntR_zero (fun r hr => by
        have := (List.mem_filter.1 hr).2
        subst e
        unfold notHis at this
        unfold hisR
        simp only [Bool.or_eq_true, bne_iff_ne, ne_eq] at this
        simp only [Bool.and_eq_false_iff, beq_eq_false_iff_ne, ne_eq]
        exact this)
      have h4 := cntR_le (hisR u) (allTold xs (areasL ls node) node (areasL ls node))
      omega
    · have h3 : cntR (hisR u) (allTold xs (areasL ls node) node (areasL ls node)) = 0 := cntR_zero (fun r hr => by
        obtain ⟨a, to, c, ha, rfl, ht⟩ := mem_allTold hr
        simp [hisR, tellR]
        exact fun h => e h.symm)
      have h4 := h.his u
      omega

theorem idC_ok {N : Nat} {ls : List Lk} {zs : List Bool} {xs : List RecD} (h : IdOk N xs) : ∀ k, k ≤ 6 → IdOk N (idC ls zs xs k)
  | 0, _ => h
  | k + 1, hk => by
    have ih := idC_ok (ls := ls) (zs := zs) h k (by omega)
    unfold idC
    split
    · exact ih.bey (by omega)
    · exact ih

theorem idR_ok {N : Nat} {ls : List Lk} {zs : List Bool} {xs : List RecD} (hN : N ≤ 6) (h : IdOk N xs) : ∀ r, IdOk N (idR ls zs N xs r)
  | 0 => h
  | r + 1 => idC_ok (idR_ok hN h r) N hN

theorem idOk_len {N : Nat} {xs : List RecD} (h : IdOk N xs) : xs.length ≤ 130 := by
  have key : ∀ ys : List RecD, (∀ r ∈ ys, recOkB r = true) → ys.length ≤ cntR ownR ys + (cntR (hisR 1) ys + cntR (hisR 2) ys + cntR (hisR 3) ys + cntR (hisR 4) ys + cntR (hisR 5) ys + cntR (hisR 6) ys) := by
    intro ys
    induction ys with
    | nil => intro _; simp
    | cons y ys ih =>
      intro hy
      have h1 := ih (fun r hr => hy r (List.mem_cons_of_mem _ hr))
      have h2 := hy y (by simp)
      have ho : 1 ≤ y.owner ∧ y.owner ≤ 6 := by
        simp only [recOkB, Bool.and_eq_true, inB, decide_eq_true_eq] at h2
        exact h2.1.1
      have hc : ∀ p : RecD → Bool, cntR p (y :: ys) = (if p y then 1 else 0) + cntR p ys := by
        intro p; unfold cntR; cases hp : p y <;> simp [hp] <;> omega
      simp only [hc, List.length_cons]
      by_cases hk : y.kind = 2
      · have hcase : y.owner = 1 ∨ y.owner = 2 ∨ y.owner = 3 ∨ y.owner = 4 ∨ y.owner = 5 ∨ y.owner = 6 := by omega
        rcases hcase with e | e | e | e | e | e <;> simp [hisR, ownR, hk, e] <;> omega
      · have : ownR y = true := by simp [ownR, hk]
        rw [this]
        simp only [if_true]
        omega
  have h0 := key xs h.ok
  have h1 := h.own
  have h2 := h.his
  have a1 := h2 1
  have a2 := h2 2
  have a3 := h2 3
  have a4 := h2 4
  have a5 := h2 5
  have a6 := h2 6
  omega

theorem idOk_store {N : Nat} {xs : List RecD} (h : IdOk N xs) : storeB xs = true := by
  have hl := idOk_len h
  unfold storeB
  rw [asc_back h.asc, decide_eq_true (show xs.length ≤ 150 by omega)]
  simp only [Bool.true_and, Bool.and_true]
  refine all_true (fun j hj => ?_)
  rw [okAt_eq (List.getElem?_eq_getElem hj)]
  exact h.ok _ (List.getElem_mem hj)

theorem okL_of {n : Int} {ls : List Lk} (h : linksB n ls = true) : ∀ l ∈ ls, linkOkB n l = true := by
  intro l hl
  unfold linksB at h
  simp only [Bool.and_eq_true] at h
  obtain ⟨i, hi, e⟩ := List.mem_iff_getElem.1 hl
  have h1 := List.all_eq_true.1 h.1.2 i (List.mem_range.2 hi)
  rw [okAt_eq (List.getElem?_eq_getElem hi), e] at h1
  exact h1

theorem okT_of {n : Int} {ts : List Th} (h : thingsB n ts = true) : ∀ t ∈ ts, thOkB n t = true := by
  intro l hl
  unfold thingsB at h
  simp only [Bool.and_eq_true] at h
  obtain ⟨i, hi, e⟩ := List.mem_iff_getElem.1 hl
  have h1 := List.all_eq_true.1 h.1.2 i (List.mem_range.2 hi)
  rw [okAt_eq (List.getElem?_eq_getElem hi), e] at h1
  exact h1

/-- a link that is up costs what a link may, and leads elsewhere -/
theorem openN_ok {n : Int} {ls : List Lk} {bs : List Bool} (h : ∀ l ∈ ls, linkOkB n l = true) {f t r : Int} (h0 : 0 < openN ls bs f t r) : 1 ≤ openN ls bs f t r ∧ openN ls bs f t r ≤ 1000 ∧ f ≠ t := by
  unfold openN at *
  cases hf : (ls.zip bs).find? (opHit f t r) with
  | none => rw [hf] at h0; simp at h0
  | some p =>
    rw [hf] at h0
    simp only [Option.map_some, Option.getD_some] at h0 ⊢
    have hm := List.mem_of_find?_eq_some hf
    have hp := List.find?_some hf
    have hl := h p.1 (List.of_mem_zip hm).1
    simp only [linkOkB, inB, Bool.and_eq_true, decide_eq_true_eq] at hl
    simp only [opHit, lkHit, Bool.and_eq_true, Bool.or_eq_true, beq_iff_eq] at hp
    omega

theorem nearK_in {ls : List Lk} {bs zs : List Bool} {v a : Int} : ∀ {k : Nat} {x : Nr}, x ∈ nearK ls bs zs v a k → 1 ≤ x.to ∧ x.to ≤ (k : Int) ∧ 0 < x.c ∧ x.c = openN ls bs v x.to a
  | 0, x, h => by simp [nearK] at h
  | k + 1, x, h => by
    unfold nearK at h
    rcases List.mem_append.1 h with h1 | h1
    · have := nearK_in h1
      refine ⟨this.1, by omega, this.2.2⟩
    · split at h1
      · rename_i hc
        simp only [Bool.and_eq_true, decide_eq_true_eq] at hc
        have e : x = ⟨(k : Int) + 1, openN ls bs v ((k : Int) + 1) a⟩ := by simpa using h1
        subst e
        exact ⟨by show (1 : Int) ≤ (k : Int) + 1; omega, by show (k : Int) + 1 ≤ ((k + 1 : Nat) : Int); omega, hc.1, rfl⟩
      · cases h1

theorem nearK_asc (ls : List Lk) (bs zs : List Bool) (v a : Int) : ∀ k, (nearK ls bs zs v a k).Pairwise (fun x y => x.to < y.to)
  | 0 => by simp [nearK]
  | k + 1 => by
    unfold nearK
    rw [List.pairwise_append]
    refine ⟨nearK_asc ls bs zs v a k, ?_, fun x hx y hy => ?_⟩
    · split <;> simp
    · have h1 := nearK_in hx
      split at hy
      · have e : y = ⟨(k : Int) + 1, openN ls bs v ((k : Int) + 1) a⟩ := by simpa using hy
        subst e
        show x.to < (k : Int) + 1
        omega
      · cases hy

theorem nears_ok {n : Int} {ls : List Lk} {bs zs : List Bool} (h : ∀ l ∈ ls, linkOkB n l = true) (v a : Int) {N : Nat} (hN : N ≤ 6) : nearsB v (nearK ls bs zs v a N) = true := by
  unfold nearsB
  rw [Bool.and_eq_true]
  refine ⟨all_true (fun j hj => ?_), all_true (fun j hj => ?_)⟩
  · rw [okAt_eq (List.getElem?_eq_getElem hj)]
    have h1 := nearK_in (List.getElem_mem hj)
    have h2 := openN_ok h (by rw [← h1.2.2.2]; exact h1.2.2.1)
    rw [← h1.2.2.2] at h2
    simp only [nearOkB, inB, Bool.and_eq_true, decide_eq_true_eq, Bool.not_eq_true', beq_eq_false_iff_ne, ne_eq]
    refine ⟨⟨⟨h1.1, by omega⟩, fun e => h2.2.2 e.symm⟩, h2.1, h2.2.1⟩
  · cases j with
    | zero => rfl
    | succ j =>
      rw [ascAt_eq (List.getElem?_eq_getElem (by omega)) (List.getElem?_eq_getElem hj)]
      have := List.pairwise_iff_getElem.1 (nearK_asc ls bs zs v a N) j (j + 1) (by omega) hj (by omega)
      refine decide_eq_true ?_
      show (nearK ls bs zs v a N)[j].to - (nearK ls bs zs v a N)[j + 1].to < 0
      omega

theorem node_ok {v a : Int} {near : List Nr} (hv : 1 ≤ v ∧ v ≤ 6) (ha : 0 ≤ a ∧ a ≤ 2) (hn : nearsB v near = true) : recOkB (nodRec v a near) = true := by
  simp [recOkB, nodRec, inB, hv.1, hv.2, ha.1, ha.2, hn]

theorem thing_ok {t : Th} (ho : 1 ≤ t.o ∧ t.o ≤ 6) (hk : 1 ≤ t.k ∧ t.k ≤ 9) (hc : 1 ≤ t.c ∧ t.c ≤ 1000) : recOkB (thgRec t) = true := by
  simp [recOkB, thgRec, inB, ho.1, ho.2, hk.1, hk.2, hc.1, hc.2]

/-- the nodes' and things' own -/
structure IdOwn (c : Nat) (xs : List RecD) : Prop where
  asc : Asc xs
  ok : ∀ r ∈ xs, recOkB r = true
  own : cntR ownR xs ≤ c
  his : ∀ u, cntR (hisR u) xs = 0

theorem IdOwn.put {c : Nat} {xs : List RecD} (h : IdOwn c xs) {r : RecD} (hr : recOkB r = true) (hk : r.kind ≠ 2) : IdOwn (c + 1) (putD xs r) where
  asc := asc_putI h.asc r
  ok := fun x hx => by
    rcases mem_putI hx with h1 | h1
    · exact h.ok x h1
    · rw [h1]; exact hr
  own := by
    have := cntR_put ownR xs r
    have h1 := h.own
    split at this <;> omega
  his := fun u => by
    have := cntR_put (hisR u) xs r
    have h1 := h.his u
    have h2 : hisR u r = false := by simp [hisR, hk]
    rw [h2] at this
    simp at this
    omega

theorem IdOwn.more {c d : Nat} {xs : List RecD} (h : IdOwn c xs) (hd : c ≤ d) : IdOwn d xs := ⟨h.asc, h.ok, Nat.le_trans h.own hd, h.his⟩

theorem areaK_own {n : Int} {ls : List Lk} {bs zs : List Bool} {N : Nat} {v : Int} {xs : List RecD} {c : Nat} (hl : ∀ l ∈ ls, linkOkB n l = true) (hN : N ≤ 6) (hv : 1 ≤ v ∧ v ≤ 6) (h : IdOwn c xs) : ∀ j, j ≤ (areasL ls v).length → IdOwn (c + j) (areaK ls bs zs N v (areasL ls v) xs j)
  | 0, _ => h
  | j + 1, hj => by
    have ih := areaK_own (bs := bs) (zs := zs) hl hN hv h j (by omega)
    have hm : (areasL ls v).getD j 0 ∈ areasL ls v := by
      have : (areasL ls v).getD j 0 = (areasL ls v)[j]'(by omega) := by simp [List.getD, List.getElem?_eq_getElem (show j < (areasL ls v).length by omega)]
      rw [this]; exact List.getElem_mem _
    have ha := mem_areasL hm
    refine ih.put ?_ (by simp [nodRec])
    obtain ⟨q, hq⟩ : ∃ q, q = (areasL ls v).getD j 0 := ⟨_, rfl⟩
    rw [← hq] at ha ⊢
    have hn := nears_ok (bs := bs) (zs := zs) hl v q hN
    exact node_ok hv ha hn

theorem idA_own {n : Int} {ls : List Lk} {bs zs : List Bool} {N : Nat} (hl : ∀ l ∈ ls, linkOkB n l = true) (hN : N ≤ 6) : ∀ k, k ≤ 6 → IdOwn (3 * k) (idA ls bs zs N k)
  | 0, _ => { asc := List.Pairwise.nil, ok := fun r hr => by simp [idA] at hr, own := by simp [cntR, idA], his := fun u => by simp [cntR, idA] }
  | k + 1, hk => by
    have ih := idA_own (bs := bs) (zs := zs) hl hN k (by omega)
    have hal := areasL_len ls ((k : Int) + 1)
    unfold idA
    split
    · exact (areaK_own hl hN (by omega) ih _ (Nat.le_refl _)).more (by omega)
    · exact ih.more (by omega)

theorem idB_own {n : Int} {ts : List Th} {zs : List Bool} {xs : List RecD} {c : Nat} (hn : n ≤ 6) (ht : ∀ t ∈ ts, thOkB n t = true) (h : IdOwn c xs) : ∀ k, IdOwn (c + k) (idB ts zs xs k)
  | 0 => h
  | k + 1 => by
    have ih := idB_own (zs := zs) hn ht h k
    unfold idB
    split
    · rename_i t hk
      split
      · refine ih.put ?_ (by simp [thgRec])
        have h1 := ht t (List.mem_of_getElem? hk)
        simp only [thOkB, inB, Bool.and_eq_true, decide_eq_true_eq] at h1
        exact thing_ok ⟨h1.1.2.1, by omega⟩ h1.1.1 h1.2
      · exact ih.more (by omega)
    · exact ih.more (by omega)

theorem ideal_ok {ls : List Lk} {ts : List Th} {bs zs : List Bool} {N : Nat} (hok : netOkI ⟨(N : Int), ls, ts⟩ = true) : IdOk N (idealD ls ts bs zs N) := by
  simp only [netOkI, Bool.and_eq_true] at hok
  obtain ⟨⟨h1, h2⟩, h3⟩ := hok
  have hN : N ≤ 6 := by simp only [inB, Bool.and_eq_true, decide_eq_true_eq] at h1; omega
  have hl := okL_of h2
  have ht := okT_of h3
  have htl : ts.length ≤ 4 := by
    unfold thingsB at h3
    simp only [Bool.and_eq_true, decide_eq_true_eq] at h3
    exact h3.1.1
  have hA := idA_own (bs := bs) (zs := zs) hl hN N hN
  have hB := idB_own (zs := zs) (by omega) ht hA ts.length
  unfold idealD
  refine idR_ok hN ⟨hB.asc, hB.ok, ?_, fun u => by rw [hB.his u]; omega⟩ 3
  have := hB.own
  omega

/-- the ideal records of a right net are a right store -/
theorem ideal_store {ls : List Lk} {ts : List Th} {bs zs : List Bool} {N : Nat} (hok : netOkI ⟨(N : Int), ls, ts⟩ = true) : storeB (idealD ls ts bs zs N) = true := idOk_store (ideal_ok hok)
end Go.Proofs.Ytbknmgobmnjphaa
namespace Go.Proofs.Ytbknmgobmnjphaa
open Go.RowKit

theorem mem_withD : ∀ {ts xs : List RecD} {r : RecD}, r ∈ withD xs ts → r ∈ xs ∨ ∃ t ∈ ts, r = seq1 t
  | [], xs, r, h => .inl h
  | t :: ts, xs, r, h => by
    rcases mem_withD (ts := ts) (xs := putD xs (seq1 t)) h with h | ⟨u, hu, e⟩
    · rcases mem_putI h with h | h
      · exact .inl h
      · exact .inr ⟨t, by simp, h⟩
    · exact .inr ⟨u, by simp [hu], e⟩

theorem mem_beyD {xs : List RecD} {al : List Int} {v : Int} {r : RecD} (h : r ∈ beyD xs al v) : r ∈ xs ∨ r.kind = 2 := by
  unfold beyD at h
  rcases mem_withD h with h | ⟨t, ht, e⟩
  · exact .inl (List.mem_filter.1 h).1
  · obtain ⟨a, to, c, _, e2, _⟩ := mem_allTold ht
    refine .inr ?_
    rw [e, (seq1_kind t).1, e2]
    rfl

/-- each record of a node tells whom it hears -/
def Told (ls : List Lk) (bs zs : List Bool) (N : Nat) (xs : List RecD) : Prop := ∀ r ∈ xs, r.kind = 1 → r.near = nearK ls bs zs r.owner r.area N

theorem Told.put {ls : List Lk} {bs zs : List Bool} {N : Nat} {xs : List RecD} {r : RecD} (h : Told ls bs zs N xs) (hr : r.kind = 1 → r.near = nearK ls bs zs r.owner r.area N) : Told ls bs zs N (putD xs r) := by
  intro q hq hk
  rcases mem_putI hq with h1 | h1
  · exact h q h1 hk
  · subst h1; exact hr hk

end Go.Proofs.Ytbknmgobmnjphaa
namespace Go.Proofs.Ytbknmgobmnjphaa
open Go.RowKit

structure RtD where
  thing : Bool
  to : Int
  kind : Int
  cost : Int
  far : Int
  hops : List Int
  deriving DecidableEq

def rtC (x : RtD) (v : Value) : Array Value := #[.bool x.thing, .int .i64 x.to, .int .i64 x.kind, .int .i64 x.cost, .int .i64 x.far, v]

/-- the value v is the way x, whose row lies below B -/
def RtAt (W : World) (v : Value) (x : RtD) (B : Nat) : Prop := ∃ v1, v = .agg (rtC x v1) ∧ HopsAt W v1 x.hops B

theorem RtAt.then {W W' : World} {v : Value} {x : RtD} (h : RtAt W v x W.heap.size) (hb : Below W.heap.size W W') : RtAt W' v x W'.heap.size := by
  obtain ⟨v1, hv, h1⟩ := h
  exact ⟨v1, hv, h1.then hb⟩

end Go.Proofs.Ytbknmgobmnjphaa
namespace Go.Proofs.Ytbknmgobmnjphaa
open Go.RowKit

/-- the rank of an offer: near ones ahead of far ones -/
def rankF (far : Bool) (c d : Int) : Int := if far then 4000000000000 + c * 1000000 + d else 3000000000000 + (c + d)

/-- the route that a ranked way is -/
def rtOf (d : WayD) : RtD := if d.cost < 4000000000000 then ⟨true, d.to, 3, d.cost - 3000000000000, 0, d.hops⟩ else ⟨true, d.to, 4, (d.cost - 4000000000000) % 1000000, (d.cost - 4000000000000) / 1000000, d.hops⟩

/-- the way to who owns a thing -/
def ownerW (ds es : List WayD) (src o : Int) : Option WayD := if o = src then some ⟨src, 0, []⟩ else findW (ds ++ es) o

theorem findW_append (ds es : List WayD) (o : Int) : findW (ds ++ es) o = (findW ds o).or (findW es o) := by unfold findW; rw [List.find?_append]

def offersOf (ds es : List WayD) (src : Int) (r : RecD) (d : WayD) : Prop := r.kind = 3 ∧ r.cost < 60000 ∧ ∃ v, ownerW ds es src r.owner = some v ∧ d = ⟨r.key, rankF r.far r.cost v.cost, v.hops⟩

theorem offersOf_one {ds es : List WayD} {src : Int} {r : RecD} {d e : WayD} (h : offersOf ds es src r d) (h' : offersOf ds es src r e) : d = e := by
  obtain ⟨_, _, v, h3, rfl⟩ := h
  obtain ⟨_, _, v', h3', rfl⟩ := h'
  rw [h3] at h3'
  cases h3'
  rfl

/-- an offer as it is told -/
structure GoodT (d : WayD) : Prop where
  node : 1 ≤ d.to ∧ d.to ≤ 9
  rank : (3000000000000 ≤ d.cost ∧ d.cost ≤ 3000000061000) ∨ ∃ c k : Int, 0 ≤ c ∧ c ≤ 1000 ∧ 0 ≤ k ∧ k ≤ 60000 ∧ d.cost = 4000000000000 + c * 1000000 + k
  asc : d.hops.Pairwise (· < ·)
  hop6 : Hop6 d.hops

theorem GoodT.len {d : WayD} (h : GoodT d) : d.hops.length ≤ 6 := asc6_len h.asc h.hop6

/-- ways as they are told -/
def GoodL (ds : List WayD) : Prop := ∀ d ∈ ds, GoodW d

theorem ownerW_good {ds es : List WayD} {src o : Int} {v : WayD} (hd : GoodL ds) (he : GoodL es) (h : ownerW ds es src o = some v) : (0 ≤ v.cost ∧ v.cost ≤ 60000) ∧ v.hops.Pairwise (· < ·) ∧ Hop6 v.hops := by
  unfold ownerW at h
  split at h
  · cases h
    exact ⟨⟨by simp, by simp⟩, by simp, fun z hz => by simp at hz⟩
  · have hm := (findW_some h).1
    have hg : GoodW v := by
      rcases List.mem_append.1 hm with h1 | h1
      · exact hd v h1
      · exact he v h1
    exact ⟨hg.cost, hg.asc, hg.hop6⟩

theorem rec_thing {xs : List RecD} {r : RecD} (hs : storeB xs = true) (hr : r ∈ xs) (hk : r.kind = 3) (hc : r.cost < 60000) : (1 ≤ r.key ∧ r.key ≤ 9) ∧ (1 ≤ r.cost ∧ r.cost ≤ 1000) := by
  unfold storeB at hs
  simp only [Bool.and_eq_true] at hs
  have hok := allOk_mem hs.1.2 hr
  unfold recOkB at hok
  rw [if_neg (by omega), if_neg (by omega), if_pos hk] at hok
  simp only [Bool.and_eq_true, Bool.or_eq_true, inB, decide_eq_true_eq, beq_iff_eq] at hok
  omega

theorem offersOf_good {xs : List RecD} {ds es : List WayD} {src : Int} {r : RecD} {d : WayD} (hs : storeB xs = true) (hr : r ∈ xs) (hd : GoodL ds) (he : GoodL es) (h : offersOf ds es src r d) : GoodT d := by
  obtain ⟨h1, h2, v, h3, rfl⟩ := h
  have hg := ownerW_good hd he h3
  have hb := rec_thing hs hr h1 h2
  refine ⟨hb.1, ?_, hg.2.1, hg.2.2⟩
  show (3000000000000 ≤ rankF r.far r.cost v.cost ∧ rankF r.far r.cost v.cost ≤ 3000000061000) ∨ ∃ c k : Int, 0 ≤ c ∧ c ≤ 1000 ∧ 0 ≤ k ∧ k ≤ 60000 ∧ rankF r.far r.cost v.cost = 4000000000000 + c * 1000000 + k
  unfold rankF
  cases r.far
  · left
    rw [if_neg (by simp)]
    omega
  · right
    rw [if_pos rfl]
    exact ⟨r.cost, v.cost, by omega, by omega, by omega, by omega, rfl⟩

/-- an offer of a thing -/
def thingS (xs : List RecD) (ds es : List WayD) (src to : Int) (d : WayD) : Prop := d.to = to ∧ ∃ r ∈ xs, offersOf ds es src r d

theorem thingS_good {xs : List RecD} {ds es : List WayD} {src to : Int} {d : WayD} (hs : storeB xs = true) (hd : GoodL ds) (he : GoodL es) (h : thingS xs ds es src to d) : GoodT d ∧ d.to = to := by
  obtain ⟨h1, r, hr, h2⟩ := h
  exact ⟨offersOf_good hs hr hd he h2, h1⟩

/-- one way more in a list (no more asked of it than its hops) -/
theorem IsBest.putT {tog : WayD → WayD → WayD} (ht : TogOk tog) {S : Int → WayD → Prop} {ds es : List WayD} {w : WayD} (h : IsBest S ds) (hS : ∀ to w, S to w → Hop6 w.hops) (hasc : w.hops.Pairwise (· < ·)) (h6 : Hop6 w.hops) (he : AscW es) (hf : ∀ to, findW es to = if to = w.to then moreW tog (findW ds to) (some w) else findW ds to) : IsBest (fun to d => S to d ∨ (d = w ∧ w.to = to)) es := by
  refine ⟨he, fun to => ?_⟩
  rw [hf]
  by_cases e : to = w.to
  · rw [if_pos e]
    refine ((h.2 to).add ht (fun v hv => hS to v hv) e.symm hasc h6).congr (fun x => ?_)
    constructor
    · rintro (h1 | h1)
      · exact .inl h1
      · exact .inr ⟨h1, e.symm⟩
    · rintro (h1 | h1)
      · exact .inl h1
      · exact .inr h1.1
  · rw [if_neg e]
    refine (h.2 to).congr (fun x => ⟨.inl, ?_⟩)
    rintro (h1 | h1)
    · exact h1
    · exact absurd h1.2.symm e

theorem BestOf.goodT {to : Int} {S : WayD → Prop} {b : WayD} (h : BestOf to S (some b)) (hS : ∀ w, S w → GoodT w ∧ w.to = to) : GoodT b := by
  have h6 := h.hop6 (fun w hw => (hS w hw).1.hop6)
  obtain ⟨h1, ⟨u, hu, e1⟩, h3, h4, h5⟩ := h
  have hg := hS u hu
  exact ⟨by rw [h1, ← hg.2]; exact hg.1.node, by rw [← e1]; exact hg.1.rank, h4, h6⟩

theorem IsBest.goodT {S : Int → WayD → Prop} {ds : List WayD} (h : IsBest S ds) (hS : ∀ to w, S to w → GoodT w ∧ w.to = to) : ∀ w ∈ ds, GoodT w := by
  intro w hw
  have h1 := h.2 w.to
  rw [findW_of h.1 hw] at h1
  exact h1.goodT (hS w.to)

theorem asc_len_9 : ∀ {l : List Int} {a : Int}, l.Pairwise (· < ·) → (∀ z ∈ l, a ≤ z ∧ z ≤ 9) → (l.length : Int) ≤ 10 - a ∨ l = []
  | [], _, _, _ => .inr rfl
  | x :: xs, a, h, hr => by
    have h' := List.pairwise_cons.1 h
    have hx := hr x (by simp)
    rcases asc_len_9 (a := x + 1) h'.2 (fun z hz => ⟨by have := h'.1 z hz; omega, (hr z (by simp [hz])).2⟩) with h1 | h1
    · left; simp; omega
    · left; subst h1; simp; omega

theorem things_len {ds : List WayD} (h : AscW ds) (hg : ∀ w ∈ ds, 1 ≤ w.to ∧ w.to ≤ 9) : ds.length ≤ 9 := by
  have h1 : (ds.map (·.to)).Pairwise (· < ·) := by rw [List.pairwise_map]; exact h
  rcases asc_len_9 (a := 1) h1 (fun z hz => by
    obtain ⟨w, hw, rfl⟩ := List.mem_map.1 hz
    exact hg w hw) with h2 | h2
  · simp at h2; omega
  · have : ds = [] := by simpa using h2
    subst this; simp

/-- the routes to nodes of a kind -/
def nodesR (kind src : Int) (ds : List WayD) : List RtD := (ds.filter (fun d => d.to != src)).map (fun d => ⟨false, d.to, kind, d.cost, 0, d.hops⟩)

/-- all routes of a node, of a right store: told by what is within, beyond, and offered -/
def IsRoutes (xs : List RecD) (al : List Int) (border : Bool) (src : Int) (l : List RtD) : Prop :=
  ∃ ds es ts, IsBest (withinS xs al src) ds ∧ IsBest (beyondS xs al border src) es ∧ IsBest (thingS xs ds es src) ts ∧ l = nodesR 1 src ds ++ nodesR 2 src es ++ ts.map rtOf

theorem IsRoutes.unique {xs : List RecD} {al : List Int} {border : Bool} {src : Int} {l m : List RtD} (h : IsRoutes xs al border src l) (h' : IsRoutes xs al border src m) : l = m := by
  obtain ⟨ds, es, ts, h1, h2, h3, rfl⟩ := h
  obtain ⟨ds', es', ts', h1', h2', h3', rfl⟩ := h'
  have e1 := h1.unique h1'
  have e2 := h2.unique h2'
  subst e1
  subst e2
  rw [h3.unique h3']
end Go.Proofs.Ytbknmgobmnjphaa
namespace Go.Proofs.Ytbknmgobmnjphaa
open Go.RowKit

/-- a way, and the value of its row -/
abbrev QP := RtD × Value

def encQ (p : QP) : List Value := [.bool p.1.thing, .int .i64 p.1.to, .int .i64 p.1.kind, .int .i64 p.1.cost, .int .i64 p.1.far, p.2]

def zeroQD : RtD := ⟨false, 0, 0, 0, 0, []⟩

theorem encQ_len (p : QP) : (encQ p).length = 6 := rfl

/-- a list to read: its cells, and each record's row, below B -/
def RtsAt (W : World) (v : Value) (ps : List QP) (B : Nat) : Prop := StructsAt encQ 6 W v ps B ∧ ∀ p ∈ ps, HopsAt W p.2 p.1.hops B

theorem RtsAt.shape {W : World} {v : Value} {ps : List QP} {B : Nat} (h : RtsAt W v ps B) : ∃ a cap, v = .slice a ps.length cap := by
  obtain ⟨⟨a, cap, h, _⟩, _⟩ := h
  exact ⟨a, cap, h⟩

theorem RtsAt.later {W W' : World} {v : Value} {ps : List QP} {B C : Nat} (h : RtsAt W v ps B) (hb : Below C W W') (hBC : B ≤ C) : RtsAt W' v ps B :=
  ⟨RowAt.later h.1 hb hBC, fun p hp => RowAt.later (h.2 p hp) hb hBC⟩

theorem RtsAt.more {W : World} {v : Value} {ps : List QP} {B C : Nat} (h : RtsAt W v ps B) (hBC : B ≤ C) : RtsAt W v ps C :=
  ⟨RowAt.more h.1 hBC, fun p hp => RowAt.more (h.2 p hp) hBC⟩

theorem RtsAt.then {W W' : World} {v : Value} {ps : List QP} (h : RtsAt W v ps W.heap.size) (hb : Below W.heap.size W W') : RtsAt W' v ps W'.heap.size := (h.later hb (Nat.le_refl _)).more hb.size

/-- its row is the caller's own, in blocks of lo .. hi -/
def RHopOwn (W : World) (lo hi : Nat) (p : QP) : Prop := W.ownsRow lo 3 1 p.2 p.1.hops.length (flat intE p.1.hops) ∧ ∀ k, p.2.ownBlock = some k → k < hi

def ApartQ (p q : QP) : Prop := ∀ k, p.2.ownBlock = some k → q.2.ownBlock ≠ some k

/-- a list of the caller's own: its row and those of its records, no two in one block, all in blocks of lo .. hi -/
structure RtsOwn (W : World) (lo hi : Nat) (v : Value) (ps : List QP) : Prop where
  row : W.ownsRow lo 44 6 v ps.length (flat encQ ps)
  top : ∀ k, v.ownBlock = some k → k < hi
  nears : ∀ p ∈ ps, RHopOwn W lo hi p
  apart : ps.Pairwise ApartQ

theorem RHopOwn.keep {W W' : World} {lo hi : Nat} {p : QP} (h : RHopOwn W lo hi p) (hk : ∀ k, lo ≤ k → k < hi → k < W.heap.size → W'.heap[k]? = W.heap[k]?) : RHopOwn W' lo hi p :=
  ⟨owns_keepB h.1 (fun k e => hk k (h.1.lt k e).1 (h.2 k e) (h.1.lt k e).2), h.2⟩

theorem RHopOwn.wide {W : World} {lo hi lo' hi' : Nat} {p : QP} (h : RHopOwn W lo hi p) (hl : lo' ≤ lo) (hh : hi ≤ hi') : RHopOwn W lo' hi' p :=
  ⟨owns_baseS h.1 hl, fun k e => Nat.lt_of_lt_of_le (h.2 k e) hh⟩

theorem RHopOwn.at {W : World} {lo hi : Nat} {p : QP} (h : RHopOwn W lo hi p) : HopsAt W p.2 p.1.hops hi := by
  have h1 := owns_rowAt h.1
  obtain ⟨a, cap, hv, h2⟩ := h1
  refine ⟨a, cap, hv, ?_⟩
  rcases h2 with h0 | ⟨b, off, ha, hb1, hx⟩
  · exact .inl h0
  · exact .inr ⟨b, off, ha, h.2 b (by rw [hv, ha]; rfl), hx⟩

theorem RtsOwn.keep {W W' : World} {lo hi : Nat} {v : Value} {ps : List QP} (h : RtsOwn W lo hi v ps) (hk : ∀ k, lo ≤ k → k < hi → k < W.heap.size → W'.heap[k]? = W.heap[k]?) : RtsOwn W' lo hi v ps where
  row := owns_keepB h.row (fun k e => hk k (h.row.lt k e).1 (h.top k e) (h.row.lt k e).2)
  top := h.top
  nears := fun p hp => (h.nears p hp).keep hk
  apart := h.apart

theorem RtsOwn.below {W W' : World} {lo hi B : Nat} {v : Value} {ps : List QP} (h : RtsOwn W lo hi v ps) (hb : Below B W W') (hB : hi ≤ B) : RtsOwn W' lo hi v ps := h.keep (fun k _ h2 _ => hb.block k (by omega))

theorem RtsOwn.wide {W : World} {lo hi lo' hi' : Nat} {v : Value} {ps : List QP} (h : RtsOwn W lo hi v ps) (hl : lo' ≤ lo) (hh : hi ≤ hi') : RtsOwn W lo' hi' v ps where
  row := owns_baseS h.row hl
  top := fun k e => Nat.lt_of_lt_of_le (h.top k e) hh
  nears := fun p hp => (h.nears p hp).wide hl hh
  apart := h.apart

theorem RtsOwn.at {W : World} {lo hi : Nat} {v : Value} {ps : List QP} (h : RtsOwn W lo hi v ps) : RtsAt W v ps hi := by
  refine ⟨?_, fun p hp => (h.nears p hp).at⟩
  have h1 := owns_rowAt h.row
  obtain ⟨a, cap, hv, h2⟩ := h1
  refine ⟨a, cap, hv, ?_⟩
  rcases h2 with h0 | ⟨b, off, ha, hb1, hx⟩
  · exact .inl h0
  · exact .inr ⟨b, off, ha, h.top b (by rw [hv, ha]; rfl), hx⟩

theorem RtsOwn.frame {W W' : World} {lo hi l2 h2 : Nat} {v : Value} {ps : List QP} (h : RtsOwn W lo hi v ps) (hb : Frame l2 h2 W W') (hB : hi ≤ l2 ∨ h2 ≤ lo) : RtsOwn W' lo hi v ps := h.keep (fun k h1 h2 h3 => hb.block k h3 (by omega))

/-- how many numbers a list has -/
def totQ (ps : List QP) : Nat := (ps.map (fun p => 1 + p.1.hops.length)).sum

theorem totQ_cons (p : QP) (ps : List QP) : totQ (p :: ps) = 1 + p.1.hops.length + totQ ps := by simp [totQ]

theorem totQ_len (ps : List QP) : ps.length ≤ totQ ps := by
  induction ps with
  | nil => simp [totQ]
  | cons p ps ih => rw [totQ_cons, List.length_cons]; omega

theorem totQ_mem {ps : List QP} {p : QP} (h : p ∈ ps) : p.1.hops.length ≤ totQ ps := by
  induction ps with
  | nil => simp at h
  | cons q ps ih =>
    rw [totQ_cons]
    rcases List.mem_cons.1 h with rfl | h1
    · omega
    · have := ih h1; omega

theorem RtsAt.cells {W : World} {v : Value} {ps : List QP} {B : Nat} (h : RtsAt W v ps B) (i : Nat) (p : QP) (hp : ps[i]? = some p) :
    ∃ b off cap, v = .slice (some ⟨b, off, none⟩) ps.length cap ∧ b < B ∧ W.cell? ⟨b, off + i * 6, none⟩ = some (.bool p.1.thing) ∧ W.cell? ⟨b, off + i * 6 + 1, none⟩ = some (.int .i64 p.1.to) ∧ W.cell? ⟨b, off + i * 6 + 2, none⟩ = some (.int .i64 p.1.kind) ∧ W.cell? ⟨b, off + i * 6 + 3, none⟩ = some (.int .i64 p.1.cost) ∧ W.cell? ⟨b, off + i * 6 + 4, none⟩ = some (.int .i64 p.1.far) ∧ W.cell? ⟨b, off + i * 6 + 5, none⟩ = some p.2 ∧ HopsAt W p.2 p.1.hops B := by
  obtain ⟨b, off, cap, hv, hb, hc⟩ := StructsAt.cell h.1 encQ_len i p hp
  exact ⟨b, off, cap, hv, hb, hc 0 _ rfl, hc 1 _ rfl, hc 2 _ rfl, hc 3 _ rfl, hc 4 _ rfl, hc 5 _ rfl, h.2 p (List.mem_of_getElem? hp)⟩

end Go.Proofs.Ytbknmgobmnjphaa
namespace Go.Proofs.Ytbknmgobmnjphaa
open Go.RowKit

theorem Try.infoRoute : (Try.prog.info? 44).map (fun i => (i.zero, i.size, i.bytes)) = some (some (.agg (rtC zeroQD (.slice none 0 0))), 6, 64) := by kernel_rfl

def fstsQ (ps : List QP) : List RtD := ps.map (·.1)

theorem fstsQ_at {ps : List QP} {i : Nat} {p : QP} (h : ps[i]? = some p) : (fstsQ ps)[i]? = some p.1 := by simp [fstsQ, h]

end Go.Proofs.Ytbknmgobmnjphaa
namespace Go.Proofs.Ytbknmgobmnjphaa
open Go.RowKit

theorem apartQ_snd (ps : List QP) : ps.Pairwise ApartQ ↔ (ps.map (·.2)).Pairwise (fun a b : Value => ∀ k, a.ownBlock = some k → b.ownBlock ≠ some k) := by
  rw [List.pairwise_map]
  exact Iff.rfl

theorem apartQ_at {ps : List QP} (h : ps.Pairwise ApartQ) {i k : Nat} {p q : QP} (hi : ps[i]? = some p) (hk : ps[k]? = some q) (hne : i ≠ k) : ApartQ p q := by
  obtain ⟨h1, e1⟩ := List.getElem?_eq_some_iff.1 hi
  obtain ⟨h2, e2⟩ := List.getElem?_eq_some_iff.1 hk
  rw [List.pairwise_iff_getElem] at h
  rcases Nat.lt_or_ge i k with hl | hl
  · have := h i k h1 h2 hl
    rw [e1, e2] at this
    exact this
  · have := h k i h2 h1 (by omega)
    rw [e1, e2] at this
    exact fun j hj he => this j he hj

theorem setQ_snd {ps : List QP} {k : Nat} {p q : QP} (hk : ps[k]? = some p) (h : q.2 = p.2) : (ps.set k q).map (·.2) = ps.map (·.2) := by
  apply List.ext_getElem?
  intro i
  by_cases e : i = k
  · subst e
    obtain ⟨h1, e1⟩ := List.getElem?_eq_some_iff.1 hk
    rw [List.getElem?_map, List.getElem?_set_self h1, List.getElem?_map, hk]
    simp [h]
  · simp [List.getElem?_set_ne (Ne.symm e)]

/-- one record turned within its list -/
theorem RtsOwn.turn {W W8 : World} {lo hi g n cap k : Nat} {xs : List QP} {p q : QP} (h : RtsOwn W lo hi (.slice (some ⟨g, 0, none⟩) n cap) xs) (hn : xs.length = n) (hk : xs[k]? = some p) (hq : q.2 = p.2)
    (row : W8.ownsRow lo 44 6 (.slice (some ⟨g, 0, none⟩) n cap) n (flat encQ (xs.set k q))) (near : W8.ownsRow lo 3 1 q.2 q.1.hops.length (flat intE q.1.hops))
    (hkeep : ∀ j, j < W.heap.size → j ≠ g → some j ≠ p.2.ownBlock → W8.heap[j]? = W.heap[j]?) : RtsOwn W8 lo hi (.slice (some ⟨g, 0, none⟩) n cap) (xs.set k q) where
  row := by rw [List.length_set, hn]; exact row
  top := h.top
  apart := by rw [apartQ_snd, setQ_snd hk hq, ← apartQ_snd]; exact h.apart
  nears := by
    intro r hr
    obtain ⟨i, hi, e⟩ := List.getElem_of_mem hr
    have hr2 : (xs.set k q)[i]? = some r := by rw [← e]; exact List.getElem?_eq_getElem hi
    by_cases ek : i = k
    · subst ek
      rw [List.getElem?_set_self (by simpa using hi)] at hr2
      cases hr2
      refine ⟨near, ?_⟩
      rw [hq]
      exact (h.nears p (List.mem_of_getElem? hk)).2
    · rw [List.getElem?_set_ne (Ne.symm ek)] at hr2
      have ho := h.nears r (List.mem_of_getElem? hr2)
      refine ⟨owns_keepB ho.1 (fun j hj => ?_), ho.2⟩
      refine hkeep j (ho.1.lt j hj).2 ?_ ?_
      · rintro rfl
        obtain ⟨cur, hh⟩ : ∃ cur, W.heap[j]? = some (.cells cur 44 (0, 0)) := by
          rcases h.row.2 with ⟨h0, _⟩ | ⟨g', cap', cur', hv', _, hh', _⟩
          · cases h0
          · cases hv'; exact ⟨cur', hh'⟩
        rcases ho.1.2 with ⟨h0, _⟩ | ⟨g', cap', cur', hv', _, hh', _⟩
        · rw [h0] at hj; simp [Value.ownBlock] at hj
        · rw [hv'] at hj
          simp [Value.ownBlock] at hj
          subst hj
          rw [hh] at hh'
          simp at hh'
      · intro he
        exact apartQ_at h.apart hr2 hk ek j hj he.symm

end Go.Proofs.Ytbknmgobmnjphaa
namespace Go.Proofs.Ytbknmgobmnjphaa
open Go.RowKit

set_option linter.unusedSimpArgs false

end Go.Proofs.Ytbknmgobmnjphaa
