/-
  The ideal records of a right net are a right store.
  impl.bestOffers: its contract.
-/
import Derived.Test.YthmmpmbnpfhloaaDoorSh36
namespace Go.Proofs.YthmmpmbnpfhloaaDoor
open Go.RowKit

theorem asc_putI {rs : List RecD} (h : Asc rs) (r : RecD) : Asc (putD rs r) := by
  unfold putD Asc
  rw [List.append_assoc, List.pairwise_append]
  refine ⟨List.Pairwise.filter _ h, ?_, ?_⟩
  · rw [List.pairwise_append]
    refine ⟨by simp, List.Pairwise.filter _ h, fun a ha b hb => ?_⟩
    have : a = r := by simpa using ha
    subst this
    exact (List.mem_filter.1 hb).2
  · intro a ha b hb
    have h1 := (List.mem_filter.1 ha).2
    rcases List.mem_append.1 hb with h2 | h2
    · have : b = r := by simpa using h2
      subst this
      exact h1
    · exact bef_trans h1 (List.mem_filter.1 h2).2

theorem mem_putI {xs : List RecD} {r x : RecD} (h : x ∈ putD xs r) : x ∈ xs ∨ x = r := by
  unfold putD at h
  simp only [List.append_assoc, List.mem_append, List.mem_filter, List.mem_singleton] at h
  rcases h with h | h | h
  · exact .inl h.1
  · exact .inr h
  · exact .inl h.1

/-- how many are such -/
def cntR (p : RecD → Bool) (xs : List RecD) : Nat := (xs.filter p).length

theorem cntR_append (p : RecD → Bool) (a b : List RecD) : cntR p (a ++ b) = cntR p a + cntR p b := by simp [cntR]

theorem cntR_two (p f g : RecD → Bool) (hfg : ∀ x, f x = true → g x = false) (xs : List RecD) : cntR p (xs.filter f) + cntR p (xs.filter g) ≤ cntR p xs := by
  induction xs with
  | nil => simp [cntR]
  | cons x xs ih =>
    have h := hfg x
    unfold cntR at *
    simp only [List.filter_cons]
    cases hf : f x <;> cases hg : g x <;> cases hp : p x <;> simp_all <;> omega

theorem cntR_put (p : RecD → Bool) (xs : List RecD) (r : RecD) : cntR p (putD xs r) ≤ cntR p xs + (if p r then 1 else 0) := by
  unfold putD
  rw [cntR_append, cntR_append]
  have h := cntR_two p (fun x => beforeB x r) (fun x => beforeB r x) (fun x hx => before_asym hx) xs
  have h1 : cntR p [r] = if p r then 1 else 0 := by unfold cntR; cases hp : p r <;> simp [hp]
  omega

theorem cntR_filter (p f : RecD → Bool) (xs : List RecD) : cntR p (xs.filter f) ≤ cntR p xs := by
  unfold cntR
  rw [List.filter_filter]
  induction xs with
  | nil => simp
  | cons x xs ih =>
    simp only [List.filter_cons]
    cases hf : f x <;> cases hp : p x <;> simp_all
    omega

theorem cntR_le (p : RecD → Bool) (xs : List RecD) : cntR p xs ≤ xs.length := List.length_filter_le _ _

theorem cntR_zero {p : RecD → Bool} {xs : List RecD} (h : ∀ x ∈ xs, p x = false) : cntR p xs = 0 := by
  unfold cntR
  rw [List.length_eq_zero_iff, List.filter_eq_nil_iff]
  intro a ha
  rw [h a ha]; decide

/-- told by node u of beyond -/
def hisR (u : Int) (r : RecD) : Bool := r.kind == 2 && r.owner == u

def ownR (r : RecD) : Bool := r.kind != 2

theorem with_keeps : ∀ {ts : List RecD} {xs : List RecD}, Asc xs → (∀ r ∈ xs, recOkB r = true) → (∀ r ∈ ts, recOkB (seq1 r) = true) → Asc (withD xs ts) ∧ ∀ r ∈ withD xs ts, recOkB r = true
  | [], xs, h1, h2, _ => ⟨h1, h2⟩
  | t :: ts, xs, h1, h2, h3 => by
    have := with_keeps (ts := ts) (xs := putD xs (seq1 t)) (asc_putI h1 _) (fun r hr => by
      rcases mem_putI hr with h | h
      · exact h2 r h
      · rw [h]; exact h3 t (by simp)) (fun r hr => h3 r (List.mem_cons_of_mem _ hr))
    exact this

theorem cnt_with (p : RecD → Bool) (hp : ∀ r, p (seq1 r) = p r) : ∀ (ts xs : List RecD), cntR p (withD xs ts) ≤ cntR p xs + cntR p ts
  | [], xs => by simp [withD, cntR]
  | t :: ts, xs => by
    have h := cnt_with p hp ts (putD xs (seq1 t))
    have h1 := cntR_put p xs (seq1 t)
    have h2 : cntR p (t :: ts) = (if p t then 1 else 0) + cntR p ts := by unfold cntR; cases hp' : p t <;> simp [hp'] <;> omega
    rw [hp] at h1
    have h3 : withD xs (t :: ts) = withD (putD xs (seq1 t)) ts := rfl
    rw [h3]
    omega

theorem seq1_kind (r : RecD) : (seq1 r).kind = r.kind ∧ (seq1 r).owner = r.owner := by unfold seq1; split <;> exact ⟨rfl, rfl⟩

theorem hisR_seq (u : Int) (r : RecD) : hisR u (seq1 r) = hisR u r := by unfold hisR; rw [(seq1_kind r).1, (seq1_kind r).2]

theorem ownR_seq (r : RecD) : ownR (seq1 r) = ownR r := by unfold ownR; rw [(seq1_kind r).1]

theorem mem_tolD {xs : List RecD} {al : List Int} {src a : Int} {r : RecD} (h : r ∈ tolD xs al src a) : ∃ to c, r = tellR a src to c ∧ toldTo xs al src a to c := by
  unfold tolD at h
  split at h
  · rename_i hx
    exact ((Classical.choose_spec hx).2 r).1 h
  · cases h

theorem tolD_len (xs : List RecD) (al : List Int) (src a : Int) : (tolD xs al src a).length ≤ 6 := by
  unfold tolD
  split
  · rename_i hx
    exact (Classical.choose_spec hx).tot.1
  · simp

theorem mem_allTold {xs : List RecD} {al bl : List Int} {src : Int} {r : RecD} (h : r ∈ allTold xs al src bl) : ∃ a to c, a ∈ bl ∧ r = tellR a src to c ∧ toldTo xs al src a to c := by
  unfold allTold at h
  obtain ⟨a, ha, hr⟩ := List.mem_flatMap.1 h
  obtain ⟨to, c, h1, h2⟩ := mem_tolD hr
  exact ⟨a, to, c, ha, h1, h2⟩

theorem allTold_len (xs : List RecD) (al : List Int) (src : Int) : ∀ bl : List Int, (allTold xs al src bl).length ≤ 6 * bl.length
  | [] => by simp [allTold]
  | a :: bl => by
    have h := allTold_len xs al src bl
    have h1 := tolD_len xs al src a
    have h2 : allTold xs al src (a :: bl) = tolD xs al src a ++ allTold xs al src bl := rfl
    rw [h2, List.length_append, List.length_cons]
    omega

theorem told_cost {xs : List RecD} {al : List Int} {src a to c : Int} (h : toldTo xs al src a to c) : 0 ≤ c ∧ c ≤ 60000 := by
  obtain ⟨_, _, ⟨w, h1, e⟩ | ⟨_, w, h1, e⟩⟩ := h
  · rw [e]; exact (best_good h1 (fun d h => withinS_good h)).1.cost
  · rw [e]; exact (best_good h1 (fun d h => beyondS_good h)).1.cost

theorem tell_ok {a node to c : Int} (ha : 0 ≤ a ∧ a ≤ 2) (hn : 1 ≤ node ∧ node ≤ 6) (ht : 1 ≤ to ∧ to ≤ 6) (hc : 0 ≤ c ∧ c ≤ 60000) : recOkB (seq1 (tellR a node to c)) = true := by
  simp [recOkB, seq1, tellR, inB]
  omega

theorem mem_areasL {ls : List Lk} {v a : Int} (h : a ∈ areasL ls v) : 0 ≤ a ∧ a ≤ 2 := by
  unfold areasL at h
  have := (List.mem_filter.1 h).1
  simp at this
  omega

/-- what is so all the while -/
structure IdOk (N : Nat) (xs : List RecD) : Prop where
  asc : Asc xs
  ok : ∀ r ∈ xs, recOkB r = true
  own : cntR ownR xs ≤ 22
  his : ∀ u, cntR (hisR u) xs ≤ 18

theorem IdOk.bey {N : Nat} {xs : List RecD} (h : IdOk N xs) {ls : List Lk} {node : Int} (hn : 1 ≤ node ∧ node ≤ 6) : IdOk N (beyD xs (areasL ls node) node) := by
  have hal := areasL_len ls node
  have hlen := allTold_len xs (areasL ls node) node (areasL ls node)
  obtain ⟨k1, k2⟩ := with_keeps (ts := allTold xs (areasL ls node) node (areasL ls node)) (xs := xs.filter (notHis node)) (List.Pairwise.filter _ h.asc) (fun r hr => h.ok r (List.mem_filter.1 hr).1) (fun r hr => by
    obtain ⟨a, to, c, ha, rfl, ht⟩ := mem_allTold hr
    exact tell_ok (mem_areasL ha) hn (toldTo_node ht) (told_cost ht))
  refine ⟨k1, k2, ?_, fun u => ?_⟩
  · have h1 := cnt_with ownR ownR_seq (allTold xs (areasL ls node) node (areasL ls node)) (xs.filter (notHis node))
    have h2 := cntR_filter ownR (notHis node) xs
    have h3 : cntR ownR (allTold xs (areasL ls node) node (areasL ls node)) = 0 := cntR_zero (fun r hr => by
      obtain ⟨a, to, c, ha, rfl, ht⟩ := mem_allTold hr
      rfl)
    have h4 := h.own
    unfold beyD
    omega
  · have h1 := cnt_with (hisR u) (hisR_seq u) (allTold xs (areasL ls node) node (areasL ls node)) (xs.filter (notHis node))
    have h2 := cntR_filter (hisR u) (notHis node) xs
    unfold beyD
    by_cases e : u = node
    · have h3 : cntR (hisR u) (xs.filter (notHis node)) = 0 := cntR_zero (fun r hr => by
        have := (List.mem_filter.1 hr).2
        subst e
        unfold notHis at this
        unfold hisR
        simp only [Bool.or_eq_true, bne_iff_ne, ne_eq] at this
        simp only [Bool.and_eq_false_iff, beq_eq_false_iff_ne, ne_eq]
        exact this)
      have h4 := cntR_le (hisR u) (allTold xs (areasL ls node) node (areasL ls node))
      omega
    · have h3 : cntR (hisR u) (allTold xs (areasL ls node) node (areasL ls node)) = 0 := cntR_zero (fun r hr => by
        obtain ⟨a, to, c, ha, rfl, ht⟩ := mem_allTold hr
        simp [hisR, tellR]
        exact fun h => e h.symm)
      have h4 := h.his u
      omega

theorem idC_ok {N : Nat} {ls : List Lk} {zs : List Bool} {xs : List RecD} (h : IdOk N xs) : ∀ k, k ≤ 6 → IdOk N (idC ls zs xs k)
  | 0, _ => h
  | k + 1, hk => by
    have ih := idC_ok (ls := ls) (zs := zs) h k (by omega)
    unfold idC
    split
    · exact ih.bey (by omega)
    · exact ih

theorem idR_ok {N : Nat} {ls : List Lk} {zs : List Bool} {xs : List RecD} (hN : N ≤ 6) (h : IdOk N xs) : ∀ r, IdOk N (idR ls zs N xs r)
  | 0 => h
  | r + 1 => idC_ok (idR_ok hN h r) N hN

theorem idOk_len {N : Nat} {xs : List RecD} (h : IdOk N xs) : xs.length ≤ 130 := by
  have key : ∀ ys : List RecD, (∀ r ∈ ys, recOkB r = true) → ys.length ≤ cntR ownR ys + (cntR (hisR 1) ys + cntR (hisR 2) ys + cntR (hisR 3) ys + cntR (hisR 4) ys + cntR (hisR 5) ys + cntR (hisR 6) ys) := by
    intro ys
    induction ys with
    | nil => intro _; simp
    | cons y ys ih =>
      intro hy
      have h1 := ih (fun r hr => hy r (List.mem_cons_of_mem _ hr))
      have h2 := hy y (by simp)
      have ho : 1 ≤ y.owner ∧ y.owner ≤ 6 := by
        simp only [recOkB, Bool.and_eq_true, inB, decide_eq_true_eq] at h2
        exact h2.1.1
      have hc : ∀ p : RecD → Bool, cntR p (y :: ys) = (if p y then 1 else 0) + cntR p ys := by
        intro p; unfold cntR; cases hp : p y <;> simp [hp] <;> omega
      simp only [hc, List.length_cons]
      by_cases hk : y.kind = 2
      · have hcase : y.owner = 1 ∨ y.owner = 2 ∨ y.owner = 3 ∨ y.owner = 4 ∨ y.owner = 5 ∨ y.owner = 6 := by omega
        rcases hcase with e | e | e | e | e | e <;> simp [hisR, ownR, hk, e] <;> omega
      · have : ownR y = true := by simp [ownR, hk]
        rw [this]
        simp only [if_true]
        omega
  have h0 := key xs h.ok
  have h1 := h.own
  have h2 := h.his
  have a1 := h2 1
  have a2 := h2 2
  have a3 := h2 3
  have a4 := h2 4
  have a5 := h2 5
  have a6 := h2 6
  omega

theorem idOk_store {N : Nat} {xs : List RecD} (h : IdOk N xs) : storeB xs = true := by
  have hl := idOk_len h
  unfold storeB
  rw [asc_back h.asc, decide_eq_true (show xs.length ≤ 150 by omega)]
  simp only [Bool.true_and, Bool.and_true]
  refine all_true (fun j hj => ?_)
  rw [okAt_eq (List.getElem?_eq_getElem hj)]
  exact h.ok _ (List.getElem_mem hj)

theorem okL_of {n : Int} {ls : List Lk} (h : linksB n ls = true) : ∀ l ∈ ls, linkOkB n l = true := by
  intro l hl
  unfold linksB at h
  simp only [Bool.and_eq_true] at h
  obtain ⟨i, hi, e⟩ := List.mem_iff_getElem.1 hl
  have h1 := List.all_eq_true.1 h.1.2 i (List.mem_range.2 hi)
  rw [okAt_eq (List.getElem?_eq_getElem hi), e] at h1
  exact h1

theorem okT_of {n : Int} {ts : List Th} (h : thingsB n ts = true) : ∀ t ∈ ts, thOkB n t = true := by
  intro l hl
  unfold thingsB at h
  simp only [Bool.and_eq_true] at h
  obtain ⟨i, hi, e⟩ := List.mem_iff_getElem.1 hl
  have h1 := List.all_eq_true.1 h.1.2 i (List.mem_range.2 hi)
  rw [okAt_eq (List.getElem?_eq_getElem hi), e] at h1
  exact h1

/-- a link that is up costs what a link may, and leads elsewhere -/
theorem openN_ok {n : Int} {ls : List Lk} {bs : List Bool} (h : ∀ l ∈ ls, linkOkB n l = true) {f t r : Int} (h0 : 0 < openN ls bs f t r) : 1 ≤ openN ls bs f t r ∧ openN ls bs f t r ≤ 1000 ∧ f ≠ t := by
  unfold openN at *
  cases hf : (ls.zip bs).find? (opHit f t r) with
  | none => rw [hf] at h0; simp at h0
  | some p =>
    rw [hf] at h0
    simp only [Option.map_some, Option.getD_some] at h0 ⊢
    have hm := List.mem_of_find?_eq_some hf
    have hp := List.find?_some hf
    have hl := h p.1 (List.of_mem_zip hm).1
    simp only [linkOkB, inB, Bool.and_eq_true, decide_eq_true_eq] at hl
    simp only [opHit, lkHit, Bool.and_eq_true, Bool.or_eq_true, beq_iff_eq] at hp
    omega

theorem nearK_in {ls : List Lk} {bs zs : List Bool} {v a : Int} : ∀ {k : Nat} {x : Nr}, x ∈ nearK ls bs zs v a k → 1 ≤ x.to ∧ x.to ≤ (k : Int) ∧ 0 < x.c ∧ x.c = openN ls bs v x.to a
  | 0, x, h => by simp [nearK] at h
  | k + 1, x, h => by
    unfold nearK at h
    rcases List.mem_append.1 h with h1 | h1
    · have := nearK_in h1
      refine ⟨this.1, by omega, this.2.2⟩
    · split at h1
      · rename_i hc
        simp only [Bool.and_eq_true, decide_eq_true_eq] at hc
        have e : x = ⟨(k : Int) + 1, openN ls bs v ((k : Int) + 1) a⟩ := by simpa using h1
        subst e
        exact ⟨by show (1 : Int) ≤ (k : Int) + 1; omega, by show (k : Int) + 1 ≤ ((k + 1 : Nat) : Int); omega, hc.1, rfl⟩
      · cases h1

theorem nearK_asc (ls : List Lk) (bs zs : List Bool) (v a : Int) : ∀ k, (nearK ls bs zs v a k).Pairwise (fun x y => x.to < y.to)
  | 0 => by simp [nearK]
  | k + 1 => by
    unfold nearK
    rw [List.pairwise_append]
    refine ⟨nearK_asc ls bs zs v a k, ?_, fun x hx y hy => ?_⟩
    · split <;> simp
    · have h1 := nearK_in hx
      split at hy
      · have e : y = ⟨(k : Int) + 1, openN ls bs v ((k : Int) + 1) a⟩ := by simpa using hy
        subst e
        show x.to < (k : Int) + 1
        omega
      · cases hy

theorem nears_ok {n : Int} {ls : List Lk} {bs zs : List Bool} (h : ∀ l ∈ ls, linkOkB n l = true) (v a : Int) {N : Nat} (hN : N ≤ 6) : nearsB v (nearK ls bs zs v a N) = true := by
  unfold nearsB
  rw [Bool.and_eq_true]
  refine ⟨all_true (fun j hj => ?_), all_true (fun j hj => ?_)⟩
  · rw [okAt_eq (List.getElem?_eq_getElem hj)]
    have h1 := nearK_in (List.getElem_mem hj)
    have h2 := openN_ok h (by rw [← h1.2.2.2]; exact h1.2.2.1)
    rw [← h1.2.2.2] at h2
    simp only [nearOkB, inB, Bool.and_eq_true, decide_eq_true_eq, Bool.not_eq_true', beq_eq_false_iff_ne, ne_eq]
    refine ⟨⟨⟨h1.1, by omega⟩, fun e => h2.2.2 e.symm⟩, h2.1, h2.2.1⟩
  · cases j with
    | zero => rfl
    | succ j =>
      rw [ascAt_eq (List.getElem?_eq_getElem (by omega)) (List.getElem?_eq_getElem hj)]
      have := List.pairwise_iff_getElem.1 (nearK_asc ls bs zs v a N) j (j + 1) (by omega) hj (by omega)
      refine decide_eq_true ?_
      show (nearK ls bs zs v a N)[j].to - (nearK ls bs zs v a N)[j + 1].to < 0
      omega

theorem node_ok {v a : Int} {near : List Nr} (hv : 1 ≤ v ∧ v ≤ 6) (ha : 0 ≤ a ∧ a ≤ 2) (hn : nearsB v near = true) : recOkB (nodRec v a near) = true := by
  simp [recOkB, nodRec, inB, hv.1, hv.2, ha.1, ha.2, hn]

theorem thing_ok {t : Th} (ho : 1 ≤ t.o ∧ t.o ≤ 6) (hk : 1 ≤ t.k ∧ t.k ≤ 9) (hc : 1 ≤ t.c ∧ t.c ≤ 1000) : recOkB (thgRec t) = true := by
  simp [recOkB, thgRec, inB, ho.1, ho.2, hk.1, hk.2, hc.1, hc.2]

/-- the nodes' and things' own -/
structure IdOwn (c : Nat) (xs : List RecD) : Prop where
  asc : Asc xs
  ok : ∀ r ∈ xs, recOkB r = true
  own : cntR ownR xs ≤ c
  his : ∀ u, cntR (hisR u) xs = 0

theorem IdOwn.put {c : Nat} {xs : List RecD} (h : IdOwn c xs) {r : RecD} (hr : recOkB r = true) (hk : r.kind ≠ 2) : IdOwn (c + 1) (putD xs r) where
  asc := asc_putI h.asc r
  ok := fun x hx => by
    rcases mem_putI hx with h1 | h1
    · exact h.ok x h1
    · rw [h1]; exact hr
  own := by
    have := cntR_put ownR xs r
    have h1 := h.own
    split at this <;> omega
  his := fun u => by
    have := cntR_put (hisR u) xs r
    have h1 := h.his u
    have h2 : hisR u r = false := by simp [hisR, hk]
    rw [h2] at this
    simp at this
    omega

theorem IdOwn.more {c d : Nat} {xs : List RecD} (h : IdOwn c xs) (hd : c ≤ d) : IdOwn d xs := ⟨h.asc, h.ok, Nat.le_trans h.own hd, h.his⟩

theorem areaK_own {n : Int} {ls : List Lk} {bs zs : List Bool} {N : Nat} {v : Int} {xs : List RecD} {c : Nat} (hl : ∀ l ∈ ls, linkOkB n l = true) (hN : N ≤ 6) (hv : 1 ≤ v ∧ v ≤ 6) (h : IdOwn c xs) : ∀ j, j ≤ (areasL ls v).length → IdOwn (c + j) (areaK ls bs zs N v (areasL ls v) xs j)
  | 0, _ => h
  | j + 1, hj => by
    have ih := areaK_own (bs := bs) (zs := zs) hl hN hv h j (by omega)
    have hm : (areasL ls v).getD j 0 ∈ areasL ls v := by
      have : (areasL ls v).getD j 0 = (areasL ls v)[j]'(by omega) := by simp [List.getD, List.getElem?_eq_getElem (show j < (areasL ls v).length by omega)]
      rw [this]; exact List.getElem_mem _
    have ha := mem_areasL hm
    refine ih.put ?_ (by simp [nodRec])
    obtain ⟨q, hq⟩ : ∃ q, q = (areasL ls v).getD j 0 := ⟨_, rfl⟩
    rw [← hq] at ha ⊢
    have hn := nears_ok (bs := bs) (zs := zs) hl v q hN
    exact node_ok hv ha hn

theorem idA_own {n : Int} {ls : List Lk} {bs zs : List Bool} {N : Nat} (hl : ∀ l ∈ ls, linkOkB n l = true) (hN : N ≤ 6) : ∀ k, k ≤ 6 → IdOwn (3 * k) (idA ls bs zs N k)
  | 0, _ => { asc := List.Pairwise.nil, ok := fun r hr => by simp [idA] at hr, own := by simp [cntR, idA], his := fun u => by simp [cntR, idA] }
  | k + 1, hk => by
    have ih := idA_own (bs := bs) (zs := zs) hl hN k (by omega)
    have hal := areasL_len ls ((k : Int) + 1)
    unfold idA
    split
    · exact (areaK_own hl hN (by omega) ih _ (Nat.le_refl _)).more (by omega)
    · exact ih.more (by omega)

theorem idB_own {n : Int} {ts : List Th} {zs : List Bool} {xs : List RecD} {c : Nat} (hn : n ≤ 6) (ht : ∀ t ∈ ts, thOkB n t = true) (h : IdOwn c xs) : ∀ k, IdOwn (c + k) (idB ts zs xs k)
  | 0 => h
  | k + 1 => by
    have ih := idB_own (zs := zs) hn ht h k
    unfold idB
    split
    · rename_i t hk
      split
      · refine ih.put ?_ (by simp [thgRec])
        have h1 := ht t (List.mem_of_getElem? hk)
        simp only [thOkB, inB, Bool.and_eq_true, decide_eq_true_eq] at h1
        exact thing_ok ⟨h1.1.2.1, by omega⟩ h1.1.1 h1.2
      · exact ih.more (by omega)
    · exact ih.more (by omega)

theorem ideal_ok {ls : List Lk} {ts : List Th} {bs zs : List Bool} {N : Nat} (hok : netOkI ⟨(N : Int), ls, ts⟩ = true) : IdOk N (idealD ls ts bs zs N) := by
  simp only [netOkI, Bool.and_eq_true] at hok
  obtain ⟨⟨h1, h2⟩, h3⟩ := hok
  have hN : N ≤ 6 := by simp only [inB, Bool.and_eq_true, decide_eq_true_eq] at h1; omega
  have hl := okL_of h2
  have ht := okT_of h3
  have htl : ts.length ≤ 4 := by
    unfold thingsB at h3
    simp only [Bool.and_eq_true, decide_eq_true_eq] at h3
    exact h3.1.1
  have hA := idA_own (bs := bs) (zs := zs) hl hN N hN
  have hB := idB_own (zs := zs) (by omega) ht hA ts.length
  unfold idealD
  refine idR_ok hN ⟨hB.asc, hB.ok, ?_, fun u => by rw [hB.his u]; omega⟩ 3
  have := hB.own
  omega

/-- the ideal records of a right net are a right store -/
theorem ideal_store {ls : List Lk} {ts : List Th} {bs zs : List Bool} {N : Nat} (hok : netOkI ⟨(N : Int), ls, ts⟩ = true) : storeB (idealD ls ts bs zs N) = true := idOk_store (ideal_ok hok)
end Go.Proofs.YthmmpmbnpfhloaaDoor
namespace Go.Proofs.YthmmpmbnpfhloaaDoor
open Go.RowKit

set_option linter.unusedSimpArgs false

def OffL (bs : List QP) : Prop := ∀ b ∈ bs, OffR b.1

end Go.Proofs.YthmmpmbnpfhloaaDoor
