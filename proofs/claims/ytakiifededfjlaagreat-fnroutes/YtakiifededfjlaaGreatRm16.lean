/-
  The ideal records of a right net are a right store.
  'append(out, x)' of a struct of four cells, out a row that the call itself made.
  spec.l03Put: its contract.
  spec.l03PutThing: its contract.
  The cursor of a draw: spec.l01Byte, l01Below, l01Once: some number in its range comes back; nothing but the cursor's own block turns.
  spec.l01Below: some answer in its range.
  A cursor over the bytes of a draw: spec.l01New, l01Once, l01PickInt; laws.big.
-/
import Derived.Test.YtakiifededfjlaaGreatRm14
import Derived.Test.YtakiifededfjlaaGreatRm15
import Derived.Test.YtakiifededfjlaaGreatRm1
import Derived.Test.YtakiifededfjlaaGreatRm13
import Derived.Deep.RegionHeld3
import Derived.Deep.QuietTactic
import Derived.BigQuiet
namespace Go.Proofs.YtakiifededfjlaaGreat
open Go.RowKit
set_option linter.unusedSimpArgs false
set_option linter.unusedVariables false
set_option maxRecDepth 100000
set_option maxHeartbeats 8000000
theorem Zj6 {rs : List RecD} (h : Asc rs) (r : RecD) : Asc (putD rs r) := by
 unfold putD Asc
 rw [List.append_assoc, List.pairwise_append]
 refine ⟨List.Pairwise.filter _ h, ?_, ?_⟩
 ·rw [List.pairwise_append]
  refine ⟨by simp, List.Pairwise.filter _ h, fun a ha b hb => ?_⟩
  have : a = r := by simpa using ha
  subst this
  exact (List.mem_filter.1 hb).2
 ·intro a ha b hb
  have h1 := (List.mem_filter.1 ha).2
  rcases List.mem_append.1 hb with h2 | h2
  ·have : b = r := by simpa using h2
   subst this
   exact h1
  ·exact ZiH h1 (List.mem_filter.1 h2).2
theorem Zj3 {xs : List RecD} {r x : RecD} (h : x ∈ putD xs r) : x ∈ xs \/ x = r := by
 unfold putD at h
 simp only [List.append_assoc, List.mem_append, List.mem_filter, List.mem_singleton] at h
 rcases h with h | h | h
 ·exact .inl h.1
 ·exact .inr h
 ·exact .inl h.1
def cntR (p : RecD -> Bool) (xs : List RecD) : Nat := (xs.filter p).length
theorem Zf5 (p : RecD -> Bool) (a b : List RecD) : cntR p (a ++ b) = cntR p a + cntR p b := by simp [cntR]
theorem ZnD (p f g : RecD -> Bool) (hfg : ∀ x, f x = true -> g x = false) (xs : List RecD) : cntR p (xs.filter f) + cntR p (xs.filter g) <= cntR p xs := by
 induction xs with
 | nil => simp [cntR]
 | cons x xs ih =>
  have h := hfg x
  unfold cntR at *
  simp only [List.filter_cons]
  cases hf : f x <;> cases hg : g x <;> cases hp : p x <;> simp_all <;> omega
theorem ZhQ (p : RecD -> Bool) (xs : List RecD) (r : RecD) : cntR p (putD xs r) <= cntR p xs + (if p r then 1 else 0) := by
 unfold putD
 rw [Zf5, Zf5]
 have h := ZnD p (fun x => Zaz x r) (fun x => Zaz r x) (fun x hx => Zgs hx) xs
 have h1 : cntR p [r] = if p r then 1 else 0 := by unfold cntR; cases hp : p r <;> simp [hp]
 omega
theorem Zga (p f : RecD -> Bool) (xs : List RecD) : cntR p (xs.filter f) <= cntR p xs := by
 unfold cntR
 rw [List.filter_filter]
 induction xs with
 | nil => simp
 | cons x xs ih =>
  simp only [List.filter_cons]
  cases hf : f x <;> cases hp : p x <;> simp_all
  omega
theorem Zn7 (p : RecD -> Bool) (xs : List RecD) : cntR p xs <= xs.length := List.length_filter_le _ _
theorem Zgp {p : RecD -> Bool} {xs : List RecD} (h : ∀ x ∈ xs, p x = false) : cntR p xs = 0 := by
 unfold cntR
 rw [List.length_eq_zero_iff, List.filter_eq_nil_iff]
 intro a ha
 rw [h a ha]; decide
def hisR (u : Int) (r : RecD) : Bool := r.kind == 2 && r.owner == u
def ownR (r : RecD) : Bool := r.kind != 2
theorem Zg1 : ∀ {ts : List RecD} {xs : List RecD}, Asc xs -> (∀ r ∈ xs, Za3 r = true) -> (∀ r ∈ ts, Za3 (seq1 r) = true) -> Asc (Zd8 xs ts) /\ ∀ r ∈ Zd8 xs ts, Za3 r = true
 | [], xs, h1, h2, _ => ⟨h1, h2⟩
 | t :: ts, xs, h1, h2, h3 => by
  have := Zg1 (ts := ts) (xs := putD xs (seq1 t)) (Zj6 h1 _) (fun r hr => by
   rcases Zj3 hr with h | h
   ·exact h2 r h
   ·rw [h]; exact h3 t (by simp)) (fun r hr => h3 r (List.mem_cons_of_mem _ hr))
  exact this
theorem Zhr (p : RecD -> Bool) (hp : ∀ r, p (seq1 r) = p r) : ∀ (ts xs : List RecD), cntR p (Zd8 xs ts) <= cntR p xs + cntR p ts
 | [], xs => by simp [Zd8, cntR]
 | t :: ts, xs => by
  have h := Zhr p hp ts (putD xs (seq1 t))
  have h1 := ZhQ p xs (seq1 t)
  have h2 : cntR p (t :: ts) = (if p t then 1 else 0) + cntR p ts := by unfold cntR; cases hp' : p t <;> simp [hp'] <;> omega
  rw [hp] at h1
  have h3 : Zd8 xs (t :: ts) = Zd8 (putD xs (seq1 t)) ts := rfl
  rw [h3]
  omega
theorem Zgw (r : RecD) : (seq1 r).kind = r.kind /\ (seq1 r).owner = r.owner := by unfold seq1; split <;> exact ⟨rfl, rfl⟩
theorem Znu (u : Int) (r : RecD) : hisR u (seq1 r) = hisR u r := by unfold hisR; rw [(Zgw r).1, (Zgw r).2]
theorem ZmC (r : RecD) : ownR (seq1 r) = ownR r := by unfold ownR; rw [(Zgw r).1]
theorem ZnB {xs : List RecD} {al : List Int} {src a : Int} {r : RecD} (h : r ∈ tolD xs al src a) : ∃ to c, r = Zcn a src to c /\ Zde xs al src a to c := by
 unfold tolD at h
 split at h
 ·rename_i hx
  exact ((Classical.choose_spec hx).2 r).1 h
 ·cases h
theorem Znc (xs : List RecD) (al : List Int) (src a : Int) : (tolD xs al src a).length <= 6 := by
 unfold tolD
 split
 ·rename_i hx
  exact (Classical.choose_spec hx).tot.1
 ·simp
theorem Zex {xs : List RecD} {al bl : List Int} {src : Int} {r : RecD} (h : r ∈ Zbr xs al src bl) : ∃ a to c, a ∈ bl /\ r = Zcn a src to c /\ Zde xs al src a to c := by
 unfold Zbr at h
 obtain ⟨a, ha, hr⟩ := List.mem_flatMap.1 h
 obtain ⟨to, c, h1, h2⟩ := ZnB hr
 exact ⟨a, to, c, ha, h1, h2⟩
theorem Zgb (xs : List RecD) (al : List Int) (src : Int) : ∀ bl : List Int, (Zbr xs al src bl).length <= 6 * bl.length
 | [] => by simp [Zbr]
 | a :: bl => by
  have h := Zgb xs al src bl
  have h1 := Znc xs al src a
  have h2 : Zbr xs al src (a :: bl) = tolD xs al src a ++ Zbr xs al src bl := rfl
  rw [h2, List.length_append, List.length_cons]
  omega
theorem Zmh {xs : List RecD} {al : List Int} {src a to c : Int} (h : Zde xs al src a to c) : 0 <= c /\ c <= 60000 := by
 obtain ⟨_, _, ⟨w, h1, e⟩ | ⟨_, w, h1, e⟩⟩ := h
 ·rw [e]; exact (ZeM h1 (fun d h => ZaH h)).1.cost
 ·rw [e]; exact (ZeM h1 (fun d h => Za5 h)).1.cost
theorem Zos {a node to c : Int} (ha : 0 <= a /\ a <= 2) (hn : 1 <= node /\ node <= 6) (ht : 1 <= to /\ to <= 6) (hc : 0 <= c /\ c <= 60000) : Za3 (seq1 (Zcn a node to c)) = true := by
 simp [Za3, seq1, Zcn, inB]
 omega
theorem ZgU {ls : List Lk} {v a : Int} (h : a ∈ ZaU ls v) : 0 <= a /\ a <= 2 := by
 unfold ZaU at h
 have := (List.mem_filter.1 h).1
 simp at this
 omega
structure IdOk (N : Nat) (xs : List RecD) : Prop where
 asc : Asc xs
 ok : ∀ r ∈ xs, Za3 r = true
 own : cntR ownR xs <= 22
 his : ∀ u, cntR (hisR u) xs <= 18
theorem IdOk.bey {N : Nat} {xs : List RecD} (h : IdOk N xs) {ls : List Lk} {node : Int} (hn : 1 <= node /\ node <= 6) : IdOk N (beyD xs (ZaU ls node) node) := by
 have hal := Zda ls node
 have hlen := Zgb xs (ZaU ls node) node (ZaU ls node)
 obtain ⟨k1, k2⟩ := Zg1 (ts := Zbr xs (ZaU ls node) node (ZaU ls node)) (xs := xs.filter (ZbY node)) (List.Pairwise.filter _ h.asc) (fun r hr => h.ok r (List.mem_filter.1 hr).1) (fun r hr => by
  obtain ⟨a, to, c, ha, rfl, ht⟩ := Zex hr
  exact Zos (ZgU ha) hn (ZcG ht) (Zmh ht))
 refine ⟨k1, k2, ?_, fun u => ?_⟩
 ·have h1 := Zhr ownR ZmC (Zbr xs (ZaU ls node) node (ZaU ls node)) (xs.filter (ZbY node))
  have h2 := Zga ownR (ZbY node) xs
  have h3 : cntR ownR (Zbr xs (ZaU ls node) node (ZaU ls node)) = 0 := Zgp (fun r hr => by
   obtain ⟨a, to, c, ha, rfl, ht⟩ := Zex hr
   rfl)
  have h4 := h.own
  unfold beyD
  omega
 ·have h1 := Zhr (hisR u) (Znu u) (Zbr xs (ZaU ls node) node (ZaU ls node)) (xs.filter (ZbY node))
  have h2 := Zga (hisR u) (ZbY node) xs
  unfold beyD
  by_cases e : u = node
  ·have h3 : cntR (hisR u) (xs.filter (ZbY node)) = 0 := Zgp (fun r hr => by
    have := (List.mem_filter.1 hr).2
    subst e
    unfold ZbY at this
    unfold hisR
    simp only [Bool.or_eq_true, bne_iff_ne, ne_eq] at this
    simp only [Bool.and_eq_false_iff, beq_eq_false_iff_ne, ne_eq]
    exact this)
   have h4 := Zn7 (hisR u) (Zbr xs (ZaU ls node) node (ZaU ls node))
   omega
  ·have h3 : cntR (hisR u) (Zbr xs (ZaU ls node) node (ZaU ls node)) = 0 := Zgp (fun r hr => by
    obtain ⟨a, to, c, ha, rfl, ht⟩ := Zex hr
    simp [hisR, Zcn]
    exact fun h => e h.symm)
   have h4 := h.his u
   omega
theorem ZnP {N : Nat} {ls : List Lk} {zs : List Bool} {xs : List RecD} (h : IdOk N xs) : ∀ k, k <= 6 -> IdOk N (idC ls zs xs k)
 | 0, _ => h
 | k + 1, hk => by
  have ih := ZnP (ls := ls) (zs := zs) h k (by omega)
  unfold idC
  split
  ·exact ih.bey (by omega)
  ·exact ih
theorem ZnK {N : Nat} {ls : List Lk} {zs : List Bool} {xs : List RecD} (hN : N <= 6) (h : IdOk N xs) : ∀ r, IdOk N (idR ls zs N xs r)
 | 0 => h
 | r + 1 => ZnP (ZnK hN h r) N hN
theorem ZmB {N : Nat} {xs : List RecD} (h : IdOk N xs) : xs.length <= 130 := by
 have key : ∀ ys : List RecD, (∀ r ∈ ys, Za3 r = true) -> ys.length <= cntR ownR ys + (cntR (hisR 1) ys + cntR (hisR 2) ys + cntR (hisR 3) ys + cntR (hisR 4) ys + cntR (hisR 5) ys + cntR (hisR 6) ys) := by
  intro ys
  induction ys with
  | nil => intro _; simp
  | cons y ys ih =>
   intro hy
   have h1 := ih (fun r hr => hy r (List.mem_cons_of_mem _ hr))
   have h2 := hy y (by simp)
   have ho : 1 <= y.owner /\ y.owner <= 6 := by
    simp only [Za3, Bool.and_eq_true, inB, decide_eq_true_eq] at h2
    exact h2.1.1
   have hc : ∀ p : RecD -> Bool, cntR p (y :: ys) = (if p y then 1 else 0) + cntR p ys := by
    intro p; unfold cntR; cases hp : p y <;> simp [hp] <;> omega
   simp only [hc, List.length_cons]
   by_cases hk : y.kind = 2
   ·have hcase : y.owner = 1 \/ y.owner = 2 \/ y.owner = 3 \/ y.owner = 4 \/ y.owner = 5 \/ y.owner = 6 := by omega
    rcases hcase with e | e | e | e | e | e <;> simp [hisR, ownR, hk, e] <;> omega
   ·have : ownR y = true := by simp [ownR, hk]
    rw [this]
    simp only [if_true]
    omega
 have h0 := key xs h.ok
 have h1 := h.own
 have h2 := h.his
 have a1 := h2 1
 have a2 := h2 2
 have a3 := h2 3
 have a4 := h2 4
 have a5 := h2 5
 have a6 := h2 6
 omega
theorem ZkJ {N : Nat} {xs : List RecD} (h : IdOk N xs) : ZaE xs = true := by
 have hl := ZmB h
 unfold ZaE
 rw [ZmU h.asc, decide_eq_true (show xs.length <= 150 by omega)]
 simp only [Bool.true_and, Bool.and_true]
 refine Zbh (fun j hj => ?_)
 rw [ZcU (List.getElem?_eq_getElem hj)]
 exact h.ok _ (List.getElem_mem hj)
theorem okL_of {n : Int} {ls : List Lk} (h : Zfz n ls = true) : ∀ l ∈ ls, ZbA n l = true := by
 intro l hl
 unfold Zfz at h
 simp only [Bool.and_eq_true] at h
 obtain ⟨i, hi, e⟩ := List.mem_iff_getElem.1 hl
 have h1 := List.all_eq_true.1 h.1.2 i (List.mem_range.2 hi)
 rw [ZcU (List.getElem?_eq_getElem hi), e] at h1
 exact h1
theorem ZnS {n : Int} {ts : List Th} (h : Zdp n ts = true) : ∀ t ∈ ts, Zd7 n t = true := by
 intro l hl
 unfold Zdp at h
 simp only [Bool.and_eq_true] at h
 obtain ⟨i, hi, e⟩ := List.mem_iff_getElem.1 hl
 have h1 := List.all_eq_true.1 h.1.2 i (List.mem_range.2 hi)
 rw [ZcU (List.getElem?_eq_getElem hi), e] at h1
 exact h1
theorem ZmW {n : Int} {ls : List Lk} {bs : List Bool} (h : ∀ l ∈ ls, ZbA n l = true) {f t r : Int} (h0 : 0 < ZdE ls bs f t r) : 1 <= ZdE ls bs f t r /\ ZdE ls bs f t r <= 1000 /\ f ≠ t := by
 unfold ZdE at *
 cases hf : (ls.zip bs).find? (ZgF f t r) with
 | none => rw [hf] at h0; simp at h0
 | some p =>
  rw [hf] at h0
  simp only [Option.map_some, Option.getD_some] at h0 |-
  have hm := List.mem_of_find?_eq_some hf
  have hp := List.find?_some hf
  have hl := h p.1 (List.of_mem_zip hm).1
  simp only [ZbA, inB, Bool.and_eq_true, decide_eq_true_eq] at hl
  simp only [ZgF, Zd6, Bool.and_eq_true, Bool.or_eq_true, beq_iff_eq] at hp
  omega
theorem Zhv {ls : List Lk} {bs zs : List Bool} {v a : Int} : ∀ {k : Nat} {x : Nr}, x ∈ ZbT ls bs zs v a k -> 1 <= x.to /\ x.to <= (k : Int) /\ 0 < x.c /\ x.c = ZdE ls bs v x.to a
 | 0, x, h => by simp [ZbT] at h
 | k + 1, x, h => by
  unfold ZbT at h
  rcases List.mem_append.1 h with h1 | h1
  ·have := Zhv h1
   refine ⟨this.1, by omega, this.2.2⟩
  ·split at h1
   ·rename_i hc
    simp only [Bool.and_eq_true, decide_eq_true_eq] at hc
    have e : x = ⟨(k : Int) + 1, ZdE ls bs v ((k : Int) + 1) a⟩ := by simpa using h1
    subst e
    exact ⟨by show (1 : Int) <= (k : Int) + 1; omega, by show (k : Int) + 1 <= ((k + 1 : Nat) : Int); omega, hc.1, rfl⟩
   ·cases h1
theorem Zia (ls : List Lk) (bs zs : List Bool) (v a : Int) : ∀ k, (ZbT ls bs zs v a k).Pairwise (fun x y => x.to < y.to)
 | 0 => by simp [ZbT]
 | k + 1 => by
  unfold ZbT
  rw [List.pairwise_append]
  refine ⟨Zia ls bs zs v a k, ?_, fun x hx y hy => ?_⟩
  ·split <;> simp
  ·have h1 := Zhv hx
   split at hy
   ·have e : y = ⟨(k : Int) + 1, ZdE ls bs v ((k : Int) + 1) a⟩ := by simpa using hy
    subst e
    show x.to < (k : Int) + 1
    omega
   ·cases hy
theorem ZnI {n : Int} {ls : List Lk} {bs zs : List Bool} (h : ∀ l ∈ ls, ZbA n l = true) (v a : Int) {N : Nat} (hN : N <= 6) : Zbd v (ZbT ls bs zs v a N) = true := by
 unfold Zbd
 rw [Bool.and_eq_true]
 refine ⟨Zbh (fun j hj => ?_), Zbh (fun j hj => ?_)⟩
 ·rw [ZcU (List.getElem?_eq_getElem hj)]
  have h1 := Zhv (List.getElem_mem hj)
  have h2 := ZmW h (by rw [<- h1.2.2.2]; exact h1.2.2.1)
  rw [<- h1.2.2.2] at h2
  simp only [Zb8, inB, Bool.and_eq_true, decide_eq_true_eq, Bool.not_eq_true', beq_eq_false_iff_ne, ne_eq]
  refine ⟨⟨⟨h1.1, by omega⟩, fun e => h2.2.2 e.symm⟩, h2.1, h2.2.1⟩
 ·cases j with
  | zero => rfl
  | succ j =>
   rw [Zcw (List.getElem?_eq_getElem (by omega)) (List.getElem?_eq_getElem hj)]
   have := List.pairwise_iff_getElem.1 (Zia ls bs zs v a N) j (j + 1) (by omega) hj (by omega)
   refine decide_eq_true ?_
   show (ZbT ls bs zs v a N)[j].to - (ZbT ls bs zs v a N)[j + 1].to < 0
   omega
theorem Zof {v a : Int} {near : List Nr} (hv : 1 <= v /\ v <= 6) (ha : 0 <= a /\ a <= 2) (hn : Zbd v near = true) : Za3 (ZbV v a near) = true := by
 simp [Za3, ZbV, inB, hv.1, hv.2, ha.1, ha.2, hn]
theorem ZmQ {t : Th} (ho : 1 <= t.o /\ t.o <= 6) (hk : 1 <= t.k /\ t.k <= 9) (hc : 1 <= t.c /\ t.c <= 1000) : Za3 (ZdA t) = true := by
 simp [Za3, ZdA, inB, ho.1, ho.2, hk.1, hk.2, hc.1, hc.2]
structure IdOwn (c : Nat) (xs : List RecD) : Prop where
 asc : Asc xs
 ok : ∀ r ∈ xs, Za3 r = true
 own : cntR ownR xs <= c
 his : ∀ u, cntR (hisR u) xs = 0
theorem IdOwn.put {c : Nat} {xs : List RecD} (h : IdOwn c xs) {r : RecD} (hr : Za3 r = true) (hk : r.kind ≠ 2) : IdOwn (c + 1) (putD xs r) where
 asc := Zj6 h.asc r
 ok := fun x hx => by
  rcases Zj3 hx with h1 | h1
  ·exact h.ok x h1
  ·rw [h1]; exact hr
 own := by
  have := ZhQ ownR xs r
  have h1 := h.own
  split at this <;> omega
 his := fun u => by
  have := ZhQ (hisR u) xs r
  have h1 := h.his u
  have h2 : hisR u r = false := by simp [hisR, hk]
  rw [h2] at this
  simp at this
  omega
theorem IdOwn.more {c d : Nat} {xs : List RecD} (h : IdOwn c xs) (hd : c <= d) : IdOwn d xs := ⟨h.asc, h.ok, Nat.le_trans h.own hd, h.his⟩
theorem Ziv {n : Int} {ls : List Lk} {bs zs : List Bool} {N : Nat} {v : Int} {xs : List RecD} {c : Nat} (hl : ∀ l ∈ ls, ZbA n l = true) (hN : N <= 6) (hv : 1 <= v /\ v <= 6) (h : IdOwn c xs) : ∀ j, j <= (ZaU ls v).length -> IdOwn (c + j) (ZgI ls bs zs N v (ZaU ls v) xs j)
 | 0, _ => h
 | j + 1, hj => by
  have ih := Ziv (bs := bs) (zs := zs) hl hN hv h j (by omega)
  have hm : (ZaU ls v).getD j 0 ∈ ZaU ls v := by
   have : (ZaU ls v).getD j 0 = (ZaU ls v)[j]'(by omega) := by simp [List.getD, List.getElem?_eq_getElem (show j < (ZaU ls v).length by omega)]
   rw [this]; exact List.getElem_mem _
  have ha := ZgU hm
  refine ih.put ?_ (by simp [ZbV])
  obtain ⟨q, hq⟩ : ∃ q, q = (ZaU ls v).getD j 0 := ⟨_, rfl⟩
  rw [<- hq] at ha |-
  have hn := ZnI (bs := bs) (zs := zs) hl v q hN
  exact Zof hv ha hn
theorem Zmb {n : Int} {ls : List Lk} {bs zs : List Bool} {N : Nat} (hl : ∀ l ∈ ls, ZbA n l = true) (hN : N <= 6) : ∀ k, k <= 6 -> IdOwn (3 * k) (idA ls bs zs N k)
 | 0, _ => { asc := List.Pairwise.nil, ok := fun r hr => by simp [idA] at hr, own := by simp [cntR, idA], his := fun u => by simp [cntR, idA] }
 | k + 1, hk => by
  have ih := Zmb (bs := bs) (zs := zs) hl hN k (by omega)
  have hal := Zda ls ((k : Int) + 1)
  unfold idA
  split
  ·exact (Ziv hl hN (by omega) ih _ (Nat.le_refl _)).more (by omega)
  ·exact ih.more (by omega)
theorem Zms {n : Int} {ts : List Th} {zs : List Bool} {xs : List RecD} {c : Nat} (hn : n <= 6) (ht : ∀ t ∈ ts, Zd7 n t = true) (h : IdOwn c xs) : ∀ k, IdOwn (c + k) (idB ts zs xs k)
 | 0 => h
 | k + 1 => by
  have ih := Zms (zs := zs) hn ht h k
  unfold idB
  split
  ·rename_i t hk
   split
   ·refine ih.put ?_ (by simp [ZdA])
    have h1 := ht t (List.mem_of_getElem? hk)
    simp only [Zd7, inB, Bool.and_eq_true, decide_eq_true_eq] at h1
    exact ZmQ ⟨h1.1.2.1, by omega⟩ h1.1.1 h1.2
   ·exact ih.more (by omega)
  ·exact ih.more (by omega)
theorem ZmI {ls : List Lk} {ts : List Th} {bs zs : List Bool} {N : Nat} (hok : Zbe ⟨(N : Int), ls, ts⟩ = true) : IdOk N (ZgY ls ts bs zs N) := by
 simp only [Zbe, Bool.and_eq_true] at hok
 obtain ⟨⟨h1, h2⟩, h3⟩ := hok
 have hN : N <= 6 := by simp only [inB, Bool.and_eq_true, decide_eq_true_eq] at h1; omega
 have hl := okL_of h2
 have ht := ZnS h3
 have htl : ts.length <= 4 := by
  unfold Zdp at h3
  simp only [Bool.and_eq_true, decide_eq_true_eq] at h3
  exact h3.1.1
 have hA := Zmb (bs := bs) (zs := zs) hl hN N hN
 have hB := Zms (zs := zs) (by omega) ht hA ts.length
 unfold ZgY
 refine ZnK hN ⟨hB.asc, hB.ok, ?_, fun u => by rw [hB.his u]; omega⟩ 3
 have := hB.own
 omega
theorem Zjs {ls : List Lk} {ts : List Th} {bs zs : List Bool} {N : Nat} (hok : Zbe ⟨(N : Int), ls, ts⟩ = true) : ZaE (ZgY ls ts bs zs N) = true := ZkJ (ZmI hok)

theorem ZjF (l : Lk) : ∀ u ∈ lkE l, u.oneCell' = true := by
 intro u hu
 simp only [lkE, List.mem_cons, List.not_mem_nil, or_false] at hu
 rcases hu with rfl | rfl | rfl | rfl <;> rfl
theorem ZfK {α : Type} {p : α -> Bool} {ls : List α} {k : Nat} {x : α} (h : ls[k]? = some x) (hp : p x = true) : (ls.take (k + 1)).filter p = (ls.take k).filter p ++ [x] := by
 obtain ⟨hk, e⟩ := List.getElem?_eq_some_iff.1 h
 rw [List.take_succ_eq_append_getElem hk, List.filter_append, e]
 simp [hp]
theorem Zhy {α : Type} {p : α -> Bool} {ls : List α} {k : Nat} {x : α} (h : ls[k]? = some x) (hp : p x = false) : (ls.take (k + 1)).filter p = (ls.take k).filter p := by
 obtain ⟨hk, e⟩ := List.getElem?_eq_some_iff.1 h
 rw [List.take_succ_eq_append_getElem hk, List.filter_append, e]
 simp [hp]
theorem ZfG {α : Type} (p : α -> Bool) (ls : List α) (k : Nat) : ((ls.take k).filter p).length <= ls.length := by
 have h1 := List.length_filter_le p (ls.take k)
 have h2 := List.length_take_le k ls
 have h3 : (ls.take k).length <= ls.length := by simp; omega
 omega
def Zfg (ls : List Lk) (l : Lk) : List Lk := ls.filter (fun x => Zbw x l) ++ [l] ++ ls.filter (fun x => Zbw l x)
theorem Zbk {w w' : World} {base size : Nat} {e : TypeId} {v : Value} {n : Nat} {xs : List Value} (hown : w.ownsRow base e size v n xs) (hg : w.grownBy w' v.ownBlock) {b : Nat} (hb : b < base) (hbw : b < w.heap.size) : w'.heap[b]? = w.heap[b]? :=
 hg.block b hbw (fun he => by have := (hown.lt b he.symm).1; omega)
theorem Ze7 (v : Value) (ls : List Lk) (l : Lk) (w : World) (hls : ls.length <= 1000) (hv : Zbi w v ls w.heap.size) :
  Calls Tryz.prog 53 #[v, lkV l] w fun e w' => ∃ x, e = .returned x /\ w'.ownsRow (w.heap.size + 1) 52 4 x (Zfg ls l).length (flat lkE (Zfg ls l)) /\ Below w.heap.size w w' := by
 obtain ⟨a, cap, rfl⟩ := hv.shape
 have HV := hide hv
 clear hv
 obtain ⟨la, lb, lc, lr⟩ := l
 unfold lkV
 simp only []
 go_enter Tryz.func53, Tryz.ntmps53
 go_wp2
 go_loopw [5, 6] (fun u i wr => ∃ k : Nat, k <= ls.length /\ i = .int .i64 k /\ wr.ownsRow (w.heap.size + 1) 52 4 u ((ls.take k).filter (fun x => Zbw x ⟨la, lb, lc, lr⟩)).length (flat lkE ((ls.take k).filter (fun x => Zbw x ⟨la, lb, lc, lr⟩))) /\ Below w.heap.size w wr /\ wr.heap[w.heap.size]? = some (.cells #[.int .i64 la, .int .i64 lb, .int .i64 lc, .int .i64 lr] 52)) (fun _ i _ => ls.length - (intOf i).toNat)
 case atStart =>
  refine ⟨0, by omega, rfl, ?_, ?_, ?_⟩
  ·have h := World.ownsRow_lit (base := w.heap.size + 1) (e := 52) (size := 4) (w.alloc (.cells #[.int .i64 la, .int .i64 lb, .int .i64 lc, .int .i64 lr] 52)) #[] 0 (by simp) (by decide) rfl
   simpa [flat] using h
  ·exact ((Below.refl _ _).alloc (Nat.le_refl _) _).alloc (by simp) _
  ·rw [Below.heap_alloc _ _ _ (by simp), heap_alloc_new]
 case round =>
  obtain ⟨k, hk, rfl, hown, hb, hx⟩ := hrel
  have hfl := ZfG (fun x => Zbw x ⟨la, lb, lc, lr⟩) ls k
  have hxl := Zab hx
  by_cases hlt : k < ls.length
  ·obtain ⟨x, hl⟩ : ∃ l, ls[k]? = some l := ⟨ls[k], List.getElem?_eq_getElem hlt⟩
   obtain ⟨b, off, cap', hve, hbb, c0, c1, c2, c3⟩ := HV.out.cells k x hl
   cases hve
   have d0 := c0
   have d1 := c1
   have d2 := c2
   have d3 := c3
   rw [<- hb.cell (p := ⟨b, off + k * 4, none⟩) hbb] at c0
   rw [<- hb.cell (p := ⟨b, off + k * 4 + 1, none⟩) hbb] at c1
   rw [<- hb.cell (p := ⟨b, off + k * 4 + 2, none⟩) hbb] at c2
   rw [<- hb.cell (p := ⟨b, off + k * 4 + 3, none⟩) hbb] at c3
   have g0 := Zaa hx 0
   have g1 := Zaa hx 1
   have g2 := Zaa hx 2
   have g3 := Zaa hx 3
   simp at g0 g1 g2 g3
   have hzr := hb.size
   have hbr : b < wr.heap.size := by omega
   have hki : (0 : Int) <= (k : Int) := by omega
   have hkj : (k : Int) < (ls.length : Int) := by omega
   obtain ⟨q, hq⟩ : ∃ q, q = Zbw x ⟨la, lb, lc, lr⟩ := ⟨_, rfl⟩
   have hah := Zfu x ⟨la, lb, lc, lr⟩
   rw [<- hq] at hah
   unfold lkV at hah
   have HAH := hide hah
   have OW := hide hown
   have HX := hide hx
   have HL := hide hl
   have HQ := hide hq
   have D0 := hide d0
   have D1 := hide d1
   have D2 := hide d2
   have D3 := hide d3
   clear hah hown hx hl hq d0 d1 d2 d3
   go_wp2
   go_region_held3 (fun W => W.cell? ⟨b, off + k * 4, none⟩ = some (.int .i64 x.a) /\ W.cell? ⟨b, off + k * 4 + 1, none⟩ = some (.int .i64 x.b) /\ W.cell? ⟨b, off + k * 4 + 2, none⟩ = some (.int .i64 x.c) /\ W.cell? ⟨b, off + k * 4 + 3, none⟩ = some (.int .i64 x.r) /\ W.cell? ⟨w.heap.size, 0, none⟩ = some (.int .i64 la) /\ W.cell? ⟨w.heap.size, 1, none⟩ = some (.int .i64 lb) /\ W.cell? ⟨w.heap.size, 2, none⟩ = some (.int .i64 lc) /\ W.cell? ⟨w.heap.size, 3, none⟩ = some (.int .i64 lr)) (first | go_keep | (refine ⟨?_, ?_, ?_, ?_, ?_, ?_, ?_, ?_⟩ <;> (rw [hbc.cell (by assumption)]; assumption))) (first | (go_at_call 56; refine (HAH.out _).mono ?_; rintro e w1 ⟨rfl, hbc⟩))
   have B1 : Below w.heap.size w w1 := hb.drew.trans (hbc.mono hb.size)
   have hx1 : w1.heap[w.heap.size]? = some (.cells #[.int .i64 la, .int .i64 lb, .int .i64 lc, .int .i64 lr] 52) := by rw [hbc.block _ hxl]; exact HX.out
   have hown1 := Zae OW.out.drew hbc (Nat.le_refl _)
   have c0 := D0.out
   have c1 := D1.out
   have c2 := D2.out
   have c3 := D3.out
   rw [<- B1.cell (p := ⟨b, off + k * 4, none⟩) hbb] at c0
   rw [<- B1.cell (p := ⟨b, off + k * 4 + 1, none⟩) hbb] at c1
   rw [<- B1.cell (p := ⟨b, off + k * 4 + 2, none⟩) hbb] at c2
   rw [<- B1.cell (p := ⟨b, off + k * 4 + 3, none⟩) hbb] at c3
   have hxl1 := Zab hx1
   have HX1 := hide hx1
   have OW1 := hide hown1
   clear hx1 hown1 hbc
   cases q
   ·have hs := Zhy (p := fun x => Zbw x ⟨la, lb, lc, lr⟩) HL.out HQ.out.symm
    have HS := hide hs
    clear hs
    go_wp2
    go_roundw
    case rel => exact ⟨k + 1, by omega, by go_num, by rw [HS.out]; exact OW1.out, B1, HX1.out⟩
    case measure => simp [intOf]; omega
   ·have hs := ZfK (p := fun x => Zbw x ⟨la, lb, lc, lr⟩) HL.out HQ.out.symm
    have HS := hide hs
    clear hs
    go_wp2_with (first
     | (at_builtin; refine Za4 ZhD (by omega) ZjF (by omega) _ rfl _ _ 24 rfl (w.heap.size + 1) 52 Tryz.underlying24 (lkV lk0) rfl Tryz.infoLk u5 _ x rfl (OW1.out.alloc _) ⟨w1.heap.size, 0, none⟩ 1 rfl (Zan (cs := lkE x)) (by omega) (by simp; omega) ?_))
    intro v' w2 l' hl' hown' hgrow
    have B2 : Below w.heap.size w w2 := (B1.alloc B1.size _).grown hgrow (by simp; omega) (fun k hk => by have := (OW1.out.lt k hk).1; omega)
    have hx2 : w2.heap[w.heap.size]? = some (.cells #[.int .i64 la, .int .i64 lb, .int .i64 lc, .int .i64 lr] 52) := by rw [Zbk (OW1.out.alloc _) hgrow (by omega) (by simp; omega), Below.heap_alloc _ _ _ hxl1]; exact HX1.out
    have HX2 := hide hx2
    have OW2 := hide hown'
    clear hx2 hown' hgrow
    go_wp2
    go_roundw
    case rel => exact ⟨k + 1, by omega, by go_num, by rw [HS.out, <- hl'.out]; exact OW2.out, B2, HX2.out⟩
    case measure => simp [intOf]; omega
  ·have hk' : k = ls.length := by omega
   rw [hk', List.take_length] at hown
   have g0 := Zaa hx 0
   have g1 := Zaa hx 1
   have g2 := Zaa hx 2
   have g3 := Zaa hx 3
   simp at g0 g1 g2 g3
   have hzr := hb.size
   have hfl2 : (ls.filter (fun x => Zbw x ⟨la, lb, lc, lr⟩)).length <= ls.length := List.length_filter_le _ _
   have OW := hide hown
   have HX := hide hx
   clear hown hx hk'
   obtain ⟨wo, rfl⟩ : ∃ wo : World, wo = wr := ⟨_, rfl⟩
   go_wp2_with (first
    | (at_builtin; refine Za4 ZhD (by omega) ZjF (by omega) _ rfl _ _ 24 rfl (w.heap.size + 1) 52 Tryz.underlying24 (lkV lk0) rfl Tryz.infoLk u5 _ ⟨la, lb, lc, lr⟩ rfl (OW.out.alloc _) ⟨wo.heap.size, 0, none⟩ 1 rfl (Zan (cs := lkE ⟨la, lb, lc, lr⟩)) (by omega) (by simp; omega) ?_))
   intro v' w2 l' hl' hown' hgrow
   have B2 : Below w.heap.size w w2 := (hb.alloc hb.size _).grown hgrow (by simp; omega) (fun k hk => by have := (OW.out.lt k hk).1; omega)
   have hx2 : w2.heap[w.heap.size]? = some (.cells #[.int .i64 la, .int .i64 lb, .int .i64 lc, .int .i64 lr] 52) := by rw [Zbk (OW.out.alloc _) hgrow (by omega) (by simp; omega), Below.heap_alloc _ _ _ hxl]; exact HX.out
   have hll : l'.length <= ls.length + 1 := by rw [hl'.out]; simp; omega
   have HX2 := hide hx2
   have OW2 := hide hown'
   clear hx2 hown' hgrow hlt
   go_wp2
   go_loopw [5, 7] (fun u i wr => ∃ k : Nat, k <= ls.length /\ i = .int .i64 k /\ wr.ownsRow (w.heap.size + 1) 52 4 u (l' ++ (ls.take k).filter (fun x => Zbw ⟨la, lb, lc, lr⟩ x)).length (flat lkE (l' ++ (ls.take k).filter (fun x => Zbw ⟨la, lb, lc, lr⟩ x))) /\ Below w.heap.size w wr /\ wr.heap[w.heap.size]? = some (.cells #[.int .i64 la, .int .i64 lb, .int .i64 lc, .int .i64 lr] 52)) (fun _ i _ => ls.length - (intOf i).toNat)
   case atStart => exact ⟨0, by omega, rfl, by simpa using OW2.out, B2, HX2.out⟩
   case round =>
    clear OW2 HX2 B2 OW HX hb g0 g1 g2 g3 hzr hxl
    obtain ⟨k, hk, rfl, hown, hb, hx⟩ := hrel
    have hfl := ZfG (fun x => Zbw ⟨la, lb, lc, lr⟩ x) ls k
    have hfl3 : (l' ++ (ls.take k).filter (fun x => Zbw ⟨la, lb, lc, lr⟩ x)).length <= 2 * ls.length + 1 := by rw [List.length_append]; omega
    have hxl := Zab hx
    by_cases hlt : k < ls.length
    ·obtain ⟨x, hl⟩ : ∃ l, ls[k]? = some l := ⟨ls[k], List.getElem?_eq_getElem hlt⟩
     obtain ⟨b, off, cap', hve, hbb, c0, c1, c2, c3⟩ := HV.out.cells k x hl
     cases hve
     have d0 := c0
     have d1 := c1
     have d2 := c2
     have d3 := c3
     rw [<- hb.cell (p := ⟨b, off + k * 4, none⟩) hbb] at c0
     rw [<- hb.cell (p := ⟨b, off + k * 4 + 1, none⟩) hbb] at c1
     rw [<- hb.cell (p := ⟨b, off + k * 4 + 2, none⟩) hbb] at c2
     rw [<- hb.cell (p := ⟨b, off + k * 4 + 3, none⟩) hbb] at c3
     have g0 := Zaa hx 0
     have g1 := Zaa hx 1
     have g2 := Zaa hx 2
     have g3 := Zaa hx 3
     simp at g0 g1 g2 g3
     have hzr := hb.size
     have hbr : b < wr.heap.size := by omega
     have hki : (0 : Int) <= (k : Int) := by omega
     have hkj : (k : Int) < (ls.length : Int) := by omega
     obtain ⟨q, hq⟩ : ∃ q, q = Zbw ⟨la, lb, lc, lr⟩ x := ⟨_, rfl⟩
     have hah := Zfu ⟨la, lb, lc, lr⟩ x
     rw [<- hq] at hah
     unfold lkV at hah
     have HAH := hide hah
     have OW := hide hown
     have HX := hide hx
     have HL := hide hl
     have HQ := hide hq
     have D0 := hide d0
     have D1 := hide d1
     have D2 := hide d2
     have D3 := hide d3
     clear hah hown hx hl hq d0 d1 d2 d3
     go_wp2
     go_region_held3 (fun W => W.cell? ⟨b, off + k * 4, none⟩ = some (.int .i64 x.a) /\ W.cell? ⟨b, off + k * 4 + 1, none⟩ = some (.int .i64 x.b) /\ W.cell? ⟨b, off + k * 4 + 2, none⟩ = some (.int .i64 x.c) /\ W.cell? ⟨b, off + k * 4 + 3, none⟩ = some (.int .i64 x.r) /\ W.cell? ⟨w.heap.size, 0, none⟩ = some (.int .i64 la) /\ W.cell? ⟨w.heap.size, 1, none⟩ = some (.int .i64 lb) /\ W.cell? ⟨w.heap.size, 2, none⟩ = some (.int .i64 lc) /\ W.cell? ⟨w.heap.size, 3, none⟩ = some (.int .i64 lr)) (first | go_keep | (refine ⟨?_, ?_, ?_, ?_, ?_, ?_, ?_, ?_⟩ <;> (rw [hbc.cell (by assumption)]; assumption))) (first | (go_at_call 56; refine (HAH.out _).mono ?_; rintro e w1 ⟨rfl, hbc⟩))
     have B1 : Below w.heap.size w w1 := hb.drew.trans (hbc.mono hb.size)
     have hx1 : w1.heap[w.heap.size]? = some (.cells #[.int .i64 la, .int .i64 lb, .int .i64 lc, .int .i64 lr] 52) := by rw [hbc.block _ hxl]; exact HX.out
     have hown1 := Zae OW.out.drew hbc (Nat.le_refl _)
     have c0 := D0.out
     have c1 := D1.out
     have c2 := D2.out
     have c3 := D3.out
     rw [<- B1.cell (p := ⟨b, off + k * 4, none⟩) hbb] at c0
     rw [<- B1.cell (p := ⟨b, off + k * 4 + 1, none⟩) hbb] at c1
     rw [<- B1.cell (p := ⟨b, off + k * 4 + 2, none⟩) hbb] at c2
     rw [<- B1.cell (p := ⟨b, off + k * 4 + 3, none⟩) hbb] at c3
     have hxl1 := Zab hx1
     have HX1 := hide hx1
     have OW1 := hide hown1
     clear hx1 hown1 hbc
     cases q
     ·have hs := Zhy (p := fun x => Zbw ⟨la, lb, lc, lr⟩ x) HL.out HQ.out.symm
      have HS := hide hs
      clear hs
      go_wp2
      go_roundw
      case rel => exact ⟨k + 1, by omega, by go_num, by rw [HS.out]; exact OW1.out, B1, HX1.out⟩
      case measure => simp [intOf]; omega
     ·have hs := ZfK (p := fun x => Zbw ⟨la, lb, lc, lr⟩ x) HL.out HQ.out.symm
      have HS := hide hs
      clear hs
      go_wp2_with (first
       | (at_builtin; refine Za4 ZhD (by omega) ZjF (by omega) _ rfl _ _ 24 rfl (w.heap.size + 1) 52 Tryz.underlying24 (lkV lk0) rfl Tryz.infoLk u5 _ x rfl (OW1.out.alloc _) ⟨w1.heap.size, 0, none⟩ 1 rfl (Zan (cs := lkE x)) (by omega) (by simp; omega) ?_))
      intro v' w2 l2 hl2 hown' hgrow
      have B2 : Below w.heap.size w w2 := (B1.alloc B1.size _).grown hgrow (by simp; omega) (fun k hk => by have := (OW1.out.lt k hk).1; omega)
      have hx2 : w2.heap[w.heap.size]? = some (.cells #[.int .i64 la, .int .i64 lb, .int .i64 lc, .int .i64 lr] 52) := by rw [Zbk (OW1.out.alloc _) hgrow (by omega) (by simp; omega), Below.heap_alloc _ _ _ hxl1]; exact HX1.out
      have HX2 := hide hx2
      have OW2 := hide hown'
      clear hx2 hown' hgrow
      go_wp2
      go_roundw
      case rel => exact ⟨k + 1, by omega, by go_num, by rw [HS.out]; first | (rw [<- hl2.out]; exact OW2.out) | (rw [<- List.append_assoc, <- hl2.out]; exact OW2.out), B2, HX2.out⟩
      case measure => simp [intOf]; omega
    ·have hk' : k = ls.length := by omega
     rw [hk', List.take_length] at hown
     have OW := hide hown
     clear hown hk'
     go_wp2
     go_ret
     exact ⟨_, rfl, by unfold Zfg; rw [<- hl'.out]; exact OW.out, hb⟩
theorem Zjy (l : Th) : ∀ u ∈ thE l, u.oneCell' = true := by
 intro u hu
 simp only [thE, List.mem_cons, List.not_mem_nil, or_false] at hu
 rcases hu with rfl | rfl | rfl | rfl <;> rfl
def putT (ls : List Th) (l : Th) : List Th := ls.filter (fun x => Zbu x l) ++ [l] ++ ls.filter (fun x => Zbu l x)
theorem ZmG (v : Value) (ls : List Th) (l : Th) (w : World) (hls : ls.length <= 1000) (hv : ZbK w v ls w.heap.size) :
  Calls Tryz.prog 54 #[v, thV l] w fun e w' => ∃ x, e = .returned x /\ w'.ownsRow (w.heap.size + 1) 56 4 x (putT ls l).length (flat thE (putT ls l)) /\ Below w.heap.size w w' := by
 obtain ⟨a, cap, rfl⟩ := hv.shape
 have HV := hide hv
 clear hv
 obtain ⟨la, lb, lc, lr⟩ := l
 unfold thV
 simp only []
 go_enter Tryz.func54, Tryz.ntmps54
 go_wp2
 go_loopw [5, 6] (fun u i wr => ∃ k : Nat, k <= ls.length /\ i = .int .i64 k /\ wr.ownsRow (w.heap.size + 1) 56 4 u ((ls.take k).filter (fun x => Zbu x ⟨la, lb, lc, lr⟩)).length (flat thE ((ls.take k).filter (fun x => Zbu x ⟨la, lb, lc, lr⟩))) /\ Below w.heap.size w wr /\ wr.heap[w.heap.size]? = some (.cells #[.int .i64 la, .int .i64 lb, .int .i64 lc, .bool lr] 56)) (fun _ i _ => ls.length - (intOf i).toNat)
 case atStart =>
  refine ⟨0, by omega, rfl, ?_, ?_, ?_⟩
  ·have h := World.ownsRow_lit (base := w.heap.size + 1) (e := 56) (size := 4) (w.alloc (.cells #[.int .i64 la, .int .i64 lb, .int .i64 lc, .bool lr] 56)) #[] 0 (by simp) (by decide) rfl
   simpa [flat] using h
  ·exact ((Below.refl _ _).alloc (Nat.le_refl _) _).alloc (by simp) _
  ·rw [Below.heap_alloc _ _ _ (by simp), heap_alloc_new]
 case round =>
  obtain ⟨k, hk, rfl, hown, hb, hx⟩ := hrel
  have hfl := ZfG (fun x => Zbu x ⟨la, lb, lc, lr⟩) ls k
  have hxl := Zab hx
  by_cases hlt : k < ls.length
  ·obtain ⟨x, hl⟩ : ∃ l, ls[k]? = some l := ⟨ls[k], List.getElem?_eq_getElem hlt⟩
   obtain ⟨b, off, cap', hve, hbb, c0, c1, c2, c3⟩ := HV.out.cells k x hl
   cases hve
   have d0 := c0
   have d1 := c1
   have d2 := c2
   have d3 := c3
   rw [<- hb.cell (p := ⟨b, off + k * 4, none⟩) hbb] at c0
   rw [<- hb.cell (p := ⟨b, off + k * 4 + 1, none⟩) hbb] at c1
   rw [<- hb.cell (p := ⟨b, off + k * 4 + 2, none⟩) hbb] at c2
   rw [<- hb.cell (p := ⟨b, off + k * 4 + 3, none⟩) hbb] at c3
   have g0 := Zaa hx 0
   have g1 := Zaa hx 1
   have g2 := Zaa hx 2
   have g3 := Zaa hx 3
   simp at g0 g1 g2 g3
   have hzr := hb.size
   have hbr : b < wr.heap.size := by omega
   have hki : (0 : Int) <= (k : Int) := by omega
   have hkj : (k : Int) < (ls.length : Int) := by omega
   obtain ⟨q, hq⟩ : ∃ q, q = Zbu x ⟨la, lb, lc, lr⟩ := ⟨_, rfl⟩
   have hah := Zfc x ⟨la, lb, lc, lr⟩
   rw [<- hq] at hah
   unfold thV at hah
   have HAH := hide hah
   have OW := hide hown
   have HX := hide hx
   have HL := hide hl
   have HQ := hide hq
   have D0 := hide d0
   have D1 := hide d1
   have D2 := hide d2
   have D3 := hide d3
   clear hah hown hx hl hq d0 d1 d2 d3
   go_wp2
   go_region_held3 (fun W => W.cell? ⟨b, off + k * 4, none⟩ = some (.int .i64 x.o) /\ W.cell? ⟨b, off + k * 4 + 1, none⟩ = some (.int .i64 x.k) /\ W.cell? ⟨b, off + k * 4 + 2, none⟩ = some (.int .i64 x.c) /\ W.cell? ⟨b, off + k * 4 + 3, none⟩ = some (.bool x.f) /\ W.cell? ⟨w.heap.size, 0, none⟩ = some (.int .i64 la) /\ W.cell? ⟨w.heap.size, 1, none⟩ = some (.int .i64 lb) /\ W.cell? ⟨w.heap.size, 2, none⟩ = some (.int .i64 lc) /\ W.cell? ⟨w.heap.size, 3, none⟩ = some (.bool lr)) (first | go_keep | (refine ⟨?_, ?_, ?_, ?_, ?_, ?_, ?_, ?_⟩ <;> (rw [hbc.cell (by assumption)]; assumption))) (first | (go_at_call 57; refine (HAH.out _).mono ?_; rintro e w1 ⟨rfl, hbc⟩))
   have B1 : Below w.heap.size w w1 := hb.drew.trans (hbc.mono hb.size)
   have hx1 : w1.heap[w.heap.size]? = some (.cells #[.int .i64 la, .int .i64 lb, .int .i64 lc, .bool lr] 56) := by rw [hbc.block _ hxl]; exact HX.out
   have hown1 := Zae OW.out.drew hbc (Nat.le_refl _)
   have c0 := D0.out
   have c1 := D1.out
   have c2 := D2.out
   have c3 := D3.out
   rw [<- B1.cell (p := ⟨b, off + k * 4, none⟩) hbb] at c0
   rw [<- B1.cell (p := ⟨b, off + k * 4 + 1, none⟩) hbb] at c1
   rw [<- B1.cell (p := ⟨b, off + k * 4 + 2, none⟩) hbb] at c2
   rw [<- B1.cell (p := ⟨b, off + k * 4 + 3, none⟩) hbb] at c3
   have hxl1 := Zab hx1
   have HX1 := hide hx1
   have OW1 := hide hown1
   clear hx1 hown1 hbc
   cases q
   ·have hs := Zhy (p := fun x => Zbu x ⟨la, lb, lc, lr⟩) HL.out HQ.out.symm
    have HS := hide hs
    clear hs
    go_wp2
    go_roundw
    case rel => exact ⟨k + 1, by omega, by go_num, by rw [HS.out]; exact OW1.out, B1, HX1.out⟩
    case measure => simp [intOf]; omega
   ·have hs := ZfK (p := fun x => Zbu x ⟨la, lb, lc, lr⟩) HL.out HQ.out.symm
    have HS := hide hs
    clear hs
    go_wp2_with (first
     | (at_builtin; refine Za4 Zht (by omega) Zjy (by omega) _ rfl _ _ 25 rfl (w.heap.size + 1) 56 Tryz.underlying25 (thV th0) rfl Tryz.infoTh u5 _ x rfl (OW1.out.alloc _) ⟨w1.heap.size, 0, none⟩ 1 rfl (Zan (cs := thE x)) (by omega) (by simp; omega) ?_))
    intro v' w2 l' hl' hown' hgrow
    have B2 : Below w.heap.size w w2 := (B1.alloc B1.size _).grown hgrow (by simp; omega) (fun k hk => by have := (OW1.out.lt k hk).1; omega)
    have hx2 : w2.heap[w.heap.size]? = some (.cells #[.int .i64 la, .int .i64 lb, .int .i64 lc, .bool lr] 56) := by rw [Zbk (OW1.out.alloc _) hgrow (by omega) (by simp; omega), Below.heap_alloc _ _ _ hxl1]; exact HX1.out
    have HX2 := hide hx2
    have OW2 := hide hown'
    clear hx2 hown' hgrow
    go_wp2
    go_roundw
    case rel => exact ⟨k + 1, by omega, by go_num, by rw [HS.out, <- hl'.out]; exact OW2.out, B2, HX2.out⟩
    case measure => simp [intOf]; omega
  ·have hk' : k = ls.length := by omega
   rw [hk', List.take_length] at hown
   have g0 := Zaa hx 0
   have g1 := Zaa hx 1
   have g2 := Zaa hx 2
   have g3 := Zaa hx 3
   simp at g0 g1 g2 g3
   have hzr := hb.size
   have hfl2 : (ls.filter (fun x => Zbu x ⟨la, lb, lc, lr⟩)).length <= ls.length := List.length_filter_le _ _
   have OW := hide hown
   have HX := hide hx
   clear hown hx hk'
   obtain ⟨wo, rfl⟩ : ∃ wo : World, wo = wr := ⟨_, rfl⟩
   go_wp2_with (first
    | (at_builtin; refine Za4 Zht (by omega) Zjy (by omega) _ rfl _ _ 25 rfl (w.heap.size + 1) 56 Tryz.underlying25 (thV th0) rfl Tryz.infoTh u5 _ ⟨la, lb, lc, lr⟩ rfl (OW.out.alloc _) ⟨wo.heap.size, 0, none⟩ 1 rfl (Zan (cs := thE ⟨la, lb, lc, lr⟩)) (by omega) (by simp; omega) ?_))
   intro v' w2 l' hl' hown' hgrow
   have B2 : Below w.heap.size w w2 := (hb.alloc hb.size _).grown hgrow (by simp; omega) (fun k hk => by have := (OW.out.lt k hk).1; omega)
   have hx2 : w2.heap[w.heap.size]? = some (.cells #[.int .i64 la, .int .i64 lb, .int .i64 lc, .bool lr] 56) := by rw [Zbk (OW.out.alloc _) hgrow (by omega) (by simp; omega), Below.heap_alloc _ _ _ hxl]; exact HX.out
   have hll : l'.length <= ls.length + 1 := by rw [hl'.out]; simp; omega
   have HX2 := hide hx2
   have OW2 := hide hown'
   clear hx2 hown' hgrow hlt
   go_wp2
   go_loopw [5, 7] (fun u i wr => ∃ k : Nat, k <= ls.length /\ i = .int .i64 k /\ wr.ownsRow (w.heap.size + 1) 56 4 u (l' ++ (ls.take k).filter (fun x => Zbu ⟨la, lb, lc, lr⟩ x)).length (flat thE (l' ++ (ls.take k).filter (fun x => Zbu ⟨la, lb, lc, lr⟩ x))) /\ Below w.heap.size w wr /\ wr.heap[w.heap.size]? = some (.cells #[.int .i64 la, .int .i64 lb, .int .i64 lc, .bool lr] 56)) (fun _ i _ => ls.length - (intOf i).toNat)
   case atStart => exact ⟨0, by omega, rfl, by simpa using OW2.out, B2, HX2.out⟩
   case round =>
    clear OW2 HX2 B2 OW HX hb g0 g1 g2 g3 hzr hxl
    obtain ⟨k, hk, rfl, hown, hb, hx⟩ := hrel
    have hfl := ZfG (fun x => Zbu ⟨la, lb, lc, lr⟩ x) ls k
    have hfl3 : (l' ++ (ls.take k).filter (fun x => Zbu ⟨la, lb, lc, lr⟩ x)).length <= 2 * ls.length + 1 := by rw [List.length_append]; omega
    have hxl := Zab hx
    by_cases hlt : k < ls.length
    ·obtain ⟨x, hl⟩ : ∃ l, ls[k]? = some l := ⟨ls[k], List.getElem?_eq_getElem hlt⟩
     obtain ⟨b, off, cap', hve, hbb, c0, c1, c2, c3⟩ := HV.out.cells k x hl
     cases hve
     have d0 := c0
     have d1 := c1
     have d2 := c2
     have d3 := c3
     rw [<- hb.cell (p := ⟨b, off + k * 4, none⟩) hbb] at c0
     rw [<- hb.cell (p := ⟨b, off + k * 4 + 1, none⟩) hbb] at c1
     rw [<- hb.cell (p := ⟨b, off + k * 4 + 2, none⟩) hbb] at c2
     rw [<- hb.cell (p := ⟨b, off + k * 4 + 3, none⟩) hbb] at c3
     have g0 := Zaa hx 0
     have g1 := Zaa hx 1
     have g2 := Zaa hx 2
     have g3 := Zaa hx 3
     simp at g0 g1 g2 g3
     have hzr := hb.size
     have hbr : b < wr.heap.size := by omega
     have hki : (0 : Int) <= (k : Int) := by omega
     have hkj : (k : Int) < (ls.length : Int) := by omega
     obtain ⟨q, hq⟩ : ∃ q, q = Zbu ⟨la, lb, lc, lr⟩ x := ⟨_, rfl⟩
     have hah := Zfc ⟨la, lb, lc, lr⟩ x
     rw [<- hq] at hah
     unfold thV at hah
     have HAH := hide hah
     have OW := hide hown
     have HX := hide hx
     have HL := hide hl
     have HQ := hide hq
     have D0 := hide d0
     have D1 := hide d1
     have D2 := hide d2
     have D3 := hide d3
     clear hah hown hx hl hq d0 d1 d2 d3
     go_wp2
     go_region_held3 (fun W => W.cell? ⟨b, off + k * 4, none⟩ = some (.int .i64 x.o) /\ W.cell? ⟨b, off + k * 4 + 1, none⟩ = some (.int .i64 x.k) /\ W.cell? ⟨b, off + k * 4 + 2, none⟩ = some (.int .i64 x.c) /\ W.cell? ⟨b, off + k * 4 + 3, none⟩ = some (.bool x.f) /\ W.cell? ⟨w.heap.size, 0, none⟩ = some (.int .i64 la) /\ W.cell? ⟨w.heap.size, 1, none⟩ = some (.int .i64 lb) /\ W.cell? ⟨w.heap.size, 2, none⟩ = some (.int .i64 lc) /\ W.cell? ⟨w.heap.size, 3, none⟩ = some (.bool lr)) (first | go_keep | (refine ⟨?_, ?_, ?_, ?_, ?_, ?_, ?_, ?_⟩ <;> (rw [hbc.cell (by assumption)]; assumption))) (first | (go_at_call 57; refine (HAH.out _).mono ?_; rintro e w1 ⟨rfl, hbc⟩))
     have B1 : Below w.heap.size w w1 := hb.drew.trans (hbc.mono hb.size)
     have hx1 : w1.heap[w.heap.size]? = some (.cells #[.int .i64 la, .int .i64 lb, .int .i64 lc, .bool lr] 56) := by rw [hbc.block _ hxl]; exact HX.out
     have hown1 := Zae OW.out.drew hbc (Nat.le_refl _)
     have c0 := D0.out
     have c1 := D1.out
     have c2 := D2.out
     have c3 := D3.out
     rw [<- B1.cell (p := ⟨b, off + k * 4, none⟩) hbb] at c0
     rw [<- B1.cell (p := ⟨b, off + k * 4 + 1, none⟩) hbb] at c1
     rw [<- B1.cell (p := ⟨b, off + k * 4 + 2, none⟩) hbb] at c2
     rw [<- B1.cell (p := ⟨b, off + k * 4 + 3, none⟩) hbb] at c3
     have hxl1 := Zab hx1
     have HX1 := hide hx1
     have OW1 := hide hown1
     clear hx1 hown1 hbc
     cases q
     ·have hs := Zhy (p := fun x => Zbu ⟨la, lb, lc, lr⟩ x) HL.out HQ.out.symm
      have HS := hide hs
      clear hs
      go_wp2
      go_roundw
      case rel => exact ⟨k + 1, by omega, by go_num, by rw [HS.out]; exact OW1.out, B1, HX1.out⟩
      case measure => simp [intOf]; omega
     ·have hs := ZfK (p := fun x => Zbu ⟨la, lb, lc, lr⟩ x) HL.out HQ.out.symm
      have HS := hide hs
      clear hs
      go_wp2_with (first
       | (at_builtin; refine Za4 Zht (by omega) Zjy (by omega) _ rfl _ _ 25 rfl (w.heap.size + 1) 56 Tryz.underlying25 (thV th0) rfl Tryz.infoTh u5 _ x rfl (OW1.out.alloc _) ⟨w1.heap.size, 0, none⟩ 1 rfl (Zan (cs := thE x)) (by omega) (by simp; omega) ?_))
      intro v' w2 l2 hl2 hown' hgrow
      have B2 : Below w.heap.size w w2 := (B1.alloc B1.size _).grown hgrow (by simp; omega) (fun k hk => by have := (OW1.out.lt k hk).1; omega)
      have hx2 : w2.heap[w.heap.size]? = some (.cells #[.int .i64 la, .int .i64 lb, .int .i64 lc, .bool lr] 56) := by rw [Zbk (OW1.out.alloc _) hgrow (by omega) (by simp; omega), Below.heap_alloc _ _ _ hxl1]; exact HX1.out
      have HX2 := hide hx2
      have OW2 := hide hown'
      clear hx2 hown' hgrow
      go_wp2
      go_roundw
      case rel => exact ⟨k + 1, by omega, by go_num, by rw [HS.out]; first | (rw [<- hl2.out]; exact OW2.out) | (rw [<- List.append_assoc, <- hl2.out]; exact OW2.out), B2, HX2.out⟩
      case measure => simp [intOf]; omega
    ·have hk' : k = ls.length := by omega
     rw [hk', List.take_length] at hown
     have OW := hide hown
     clear hown hk'
     go_wp2
     go_ret
     exact ⟨_, rfl, by unfold putT; rw [<- hl'.out]; exact OW.out, hb⟩
def Code (w : World) (a : Option Addr) (len p : Nat) : Prop :=
 len <= 1048576 /\ (len = 0 \/ ∃ b off, a = some ⟨b, off, none⟩ /\ b < p /\ ∀ i, i < len -> ∃ x : Nat, x < 256 /\ w.cell? ⟨b, off + i, none⟩ = some (.int .u8 (x : Int)))
def Cur (w : World) (p : Nat) (a : Option Addr) (len cap : Nat) : Prop :=
 (∃ (i : Nat) (h : Int), i <= len /\ w.heap[p]? = some (.cells #[.slice a len cap, .int .i64 (i : Int), .int .i64 h] 93 (0, 0))) /\ Code w a len p
theorem ZnR (n : Int) : 0 <= bits .and .i64 n 255 /\ bits .and .i64 n 255 <= 255 := by
 have key : (BitVec.ofInt 64 n &&& BitVec.ofInt 64 255).toNat <= 255 := by
  rw [BitVec.toNat_and]
  exact Nat.le_trans Nat.and_le_right (by decide)
 have e : bits .and .i64 n 255 = IntKind.i64.wrap ((BitVec.ofInt 64 n &&& BitVec.ofInt 64 255).toNat : Nat) := rfl
 rw [e, IntKind.wrap_i64]
 omega
theorem Code.grown {w w' : World} {a : Option Addr} {len p : Nat} {row : Option Nat} (h : Code w a len p) (hg : w.grownBy w' row) (hr : ∀ b, b < p -> some b ≠ row) : Code w' a len p := by
 refine ⟨h.1, ?_⟩
 rcases h.2 with h0 | ⟨b, off, ha, hb, hx⟩
 ·exact .inl h0
 ·refine .inr ⟨b, off, ha, hb, fun i hi => ?_⟩
  obtain ⟨x, h1, h2⟩ := hx i hi
  exact ⟨x, h1, hg.cell h2 (hr b hb)⟩
theorem Cur.grown {w w' : World} {p : Nat} {a : Option Addr} {len cap : Nat} {row : Option Nat} (h : Cur w p a len cap) (hg : w.grownBy w' row) (hr : ∀ b, b <= p -> some b ≠ row) : Cur w' p a len cap := by
 obtain ⟨⟨i, hh, hi, e⟩, hc⟩ := h
 refine ⟨⟨i, hh, hi, ?_⟩, hc.grown hg (fun b hb => hr b (by omega))⟩
 have hlt : p < w.heap.size := by
  rcases Nat.lt_or_ge p w.heap.size with hl | hl
  ·exact hl
  ·rw [Array.getElem?_eq_none hl] at e; cases e
 rw [hg.block p hlt (hr p (Nat.le_refl _))]
 exact e
theorem Cur.end {w W2 : World} {p : Nat} {a : Option Addr} {len cap : Nat} (hc : Code w a len p) (hg : w.grownBy W2 (some p)) (i : Nat) (h : Int) (hi : i <= len)
  (hh : W2.heap[p]? = some (.cells #[.slice a len cap, .int .i64 (i : Int), .int .i64 h] 93 (0, 0))) : Cur W2 p a len cap /\ w.grownBy W2 (some p) :=
 ⟨⟨⟨i, h, hi, hh⟩, hc.grown hg (fun b hb => by simp; omega)⟩, hg⟩
theorem ZeC (p : Nat) (a : Option Addr) (len cap : Nat) (w : World) (hc : Cur w p a len cap) :
  Calls Tryz.prog 92 #[.pointer (some ⟨p, 0, none⟩)] w fun e w' => ∃ x : Int, e = .returned (.int .i64 x) /\ 0 <= x /\ x <= 255 /\ Cur w' p a len cap /\ w.grownBy w' (some p) := by
 obtain ⟨⟨i, h, hi, hh⟩, hlen, hcode⟩ := hc
 have c0 := Zaa hh 0
 have c1 := Zaa hh 1
 have c2 := Zaa hh 2
 have f1 := Zaf hh 1
 have f2 := Zaf hh 2
 simp at c0 c1 c2
 have HH := hide hh
 have HC := hide hcode
 clear hh hcode
 go_enter Tryz.func92, Tryz.ntmps92
 go_wp2
 generalize wrap64 (wrap64 (h * 6364136223846793005) + 1442695040888963407) = h2
 have hh2 : (w.setCell ⟨p, 2, none⟩ (.int .i64 h2)).heap[p]? = some (.cells #[.slice a len cap, .int .i64 (i : Int), .int .i64 h2] 93 (0, 0)) := by
  rw [heap_setCell_same w p 2 _ _ _ HH.out]; rfl
 have hg1 : w.grownBy (w.setCell ⟨p, 2, none⟩ (.int .i64 h2)) (some p) := ⟨rfl, rfl, rfl, by simp, fun k _ hk => heap_setCell_other w ⟨p, 2, none⟩ k _ (fun e => hk (by simp [e]))⟩
 generalize w.setCell ⟨p, 2, none⟩ (.int .i64 h2) = W1 at hh2 hg1 |-
 have d0 := Zaa hh2 0
 have d1 := Zaa hh2 1
 have d2 := Zaa hh2 2
 have e1 := Zaf hh2 1
 simp at d0 d1 d2
 have HH2 := hide hh2
 clear hh2 c0 c1 c2 f1 f2
 have hbx := ZnR (bits .xor .i64 (h2 / 8589934592) (h2 / 35184372088832))
 by_cases hil : i < len
 ·have hil2 : (i : Int) < (len : Int) := by omega
  have hcell : ∃ b off, a = some ⟨b, off, none⟩ /\ b ≠ p /\ ∃ x : Nat, x < 256 /\ W1.cell? ⟨b, off + i, none⟩ = some (.int .u8 (x : Int)) := by
   rcases HC.out with h0 | ⟨b, off, ha, hb, hx⟩
   ·omega
   ·obtain ⟨x, hx1, hx2⟩ := hx i hil
    exact ⟨b, off, ha, by omega, x, hx1, hg1.cell hx2 (by simp; omega)⟩
  obtain ⟨b, off, ha, hbp, x, hx, d3⟩ := hcell
  subst ha
  go_quiet (fail)
  go_wp2
  generalize bits .and .i64 (bits .xor .i64 (h2 / 8589934592) (h2 / 35184372088832)) 255 = x0 at hbx |-
  obtain ⟨hb0, hb1⟩ := hbx
  go_quiet (fail)
  go_wp2
  go_quiet (fail)
  go_wp2
  go_ret
  have hbz := ZnR (x0 + (x : Int))
  exact ⟨_, rfl, hbz.1, hbz.2, Cur.end ⟨hlen, HC.out⟩ (Zal hg1 (Zal (Zep W1 _ _) (Zam _ p 1 _))) (i + 1) h2 (by omega) (heap_setCell_same (W1.drewN _) p 1 _ _ _ HH2.out)⟩
 ·have hil2 : ¬ (i : Int) < (len : Int) := by omega
  go_quiet (fail)
  go_wp2
  generalize bits .and .i64 (bits .xor .i64 (h2 / 8589934592) (h2 / 35184372088832)) 255 = x0 at hbx |-
  obtain ⟨hb0, hb1⟩ := hbx
  go_quiet (fail)
  go_wp2
  go_ret
  exact ⟨_, rfl, hb0, hb1, Cur.end ⟨hlen, HC.out⟩ (Zal hg1 (Zal (Zep W1 _ _) (Zep _ _ _))) i h2 hi HH2.out⟩
theorem Zbq (p : Nat) (a : Option Addr) (len cap : Nat) (n : Int) (w : World) (hc : Cur w p a len cap) (hn : 0 < n) (hn2 : n <= 1000000000000) :
  Calls Tryz.prog 51 #[.pointer (some ⟨p, 0, none⟩), .int .i64 n] w fun e w' => ∃ x : Int, e = .returned (.int .i64 x) /\ 0 <= x /\ x < n /\ Cur w' p a len cap /\ w.grownBy w' (some p) := by
 by_cases h256 : n <= 256
 ·go_enter Tryz.func51, Tryz.ntmps51
  go_wp2_with fail
  refine (ZeC p a len cap _ hc).mono ?_
  rintro e w1 ⟨x, rfl, h0, h1, hc1, hg1⟩
  have hr0 := Int.emod_nonneg x (show n ≠ 0 by omega)
  have hr1 := Int.emod_lt_of_pos x hn
  have htm : x.tmod n = x % n := Int.tmod_eq_emod_of_nonneg h0
  have HG := hide hg1
  have HC := hide hc1
  clear hc1 hg1 hc
  go_wp2
  go_ret
  exact ⟨_, rfl, hr0, hr1, HC.out, HG.out⟩
 ·go_enter Tryz.func51, Tryz.ntmps51
  go_wp2_with fail
  refine (ZeC p a len cap _ hc).mono ?_
  rintro e w1 ⟨x, rfl, hx0, hx1, hc1, hg1⟩
  have HG1 := hide hg1
  clear hc hg1
  go_wp2_with fail
  refine (ZeC p a len cap _ hc1).mono ?_
  rintro e w2 ⟨y, rfl, hy0, hy1, hc2, hg2⟩
  have HG2 := hide hg2
  clear hc1 hg2
  go_wp2_with fail
  refine (ZeC p a len cap _ hc2).mono ?_
  rintro e w3 ⟨z, rfl, hz0, hz1, hc3, hg3⟩
  have HG3 := hide hg3
  clear hc2 hg3
  go_wp2_with fail
  refine (ZeC p a len cap _ hc3).mono ?_
  rintro e w4 ⟨u, rfl, hu0, hu1, hc4, hg4⟩
  have HG4 := hide hg4
  have HC4 := hide hc4
  clear hc3 hg4 hc4
  have hr0 := Int.emod_nonneg (x * 16777216 + y * 65536 + z * 256 + u) (show n ≠ 0 by omega)
  have hr1 := Int.emod_lt_of_pos (x * 16777216 + y * 65536 + z * 256 + u) hn
  have htm : (x * 16777216 + y * 65536 + z * 256 + u).tmod n = (x * 16777216 + y * 65536 + z * 256 + u) % n := Int.tmod_eq_emod_of_nonneg (by omega)
  go_wp2
  go_ret
  exact ⟨_, rfl, hr0, hr1, HC4.out, Zal HG1.out (Zal HG2.out (Zal HG3.out HG4.out))⟩
theorem Zb2 {w : World} {p : Nat} {a : Option Addr} {len cap : Nat} (h : Cur w p a len cap) : p < w.heap.size := by
 obtain ⟨⟨i, hh, hi, e⟩, _⟩ := h
 rcases Nat.lt_or_ge p w.heap.size with hl | hl
 ·exact hl
 ·rw [Array.getElem?_eq_none hl] at e; cases e
theorem Zog (a : Option Addr) (len cap : Nat) (w : World) (hc : Code w a len w.heap.size) :
  Calls Tryz.prog 20 #[.slice a len cap] w fun e w' => e = .returned (.pointer (some ⟨w.heap.size, 0, none⟩)) /\ Cur w' w.heap.size a len cap /\ Below w.heap.size w w' := by
 have hlen := hc.1
 have HC := hide hc
 clear hc
 have fin : ∀ h : Int, Cur (w.alloc (.cells #[.slice a len cap, .int .i64 0, .int .i64 h] 93)) w.heap.size a len cap := fun h =>
  ⟨⟨0, h, by omega, heap_alloc_new w _⟩, HC.out.grown (row := none) ⟨rfl, rfl, rfl, by simp, fun k hk _ => Below.heap_alloc _ _ _ hk⟩ (fun b _ => by simp)⟩
 have FIN := hide fin
 clear fin
 by_cases h0 : len = 0
 ·subst h0
  go_enter Tryz.func20, Tryz.ntmps20
  go_wp2
  refine wp_loop_rounds 1 ?_
  rw [rounds_succ]
  go_wp2
  go_ret
  exact ⟨rfl, FIN.out _, (Below.refl _ _).alloc (Nat.le_refl _) _⟩
 ·obtain ⟨b, off, ha, hb, hx⟩ : ∃ b off, a = some ⟨b, off, none⟩ /\ b < w.heap.size /\ ∀ i, i < len -> ∃ x : Nat, x < 256 /\ w.cell? ⟨b, off + i, none⟩ = some (.int .u8 (x : Int)) := by
   rcases HC.out.2 with h | h
   ·exact absurd h h0
   ·exact h
  subst ha
  have HX := hide hx
  clear hx
  go_enter Tryz.func20, Tryz.ntmps20
  go_wp2
  go_loop [3, 4] (fun h i => ∃ (k : Nat) (z : Int), k <= len /\ i = .int .i64 k /\ h = .int .i64 z) (fun _ i => len - (intOf i).toNat)
  case atStart => exact ⟨0, _, by omega, rfl, rfl⟩
  case round =>
   obtain ⟨k, z, hk, rfl, rfl⟩ := hrel
   by_cases hlt : k < len
   ·obtain ⟨x, hx1, hx2⟩ := HX.out k hlt
    have hki : (k : Int) < (len : Int) := by omega
    by_cases h4 : (k : Int) < 4000
    ·go_wp2
     go_round
     case rel => exact ⟨k + 1, _, by omega, by go_num, rfl⟩
     case measure => simp [intOf]; omega
    ·go_wp2
     go_ret
     exact ⟨rfl, FIN.out _, (Below.refl _ _).alloc (Nat.le_refl _) _⟩
   ·go_wp2
    go_ret
    exact ⟨rfl, FIN.out _, (Below.refl _ _).alloc (Nat.le_refl _) _⟩
theorem Zb1 {w : World} {p : Nat} {a : Option Addr} {len cap : Nat} (h : Cur w p a len cap) (o : Obj) : Cur (w.alloc o) p a len cap :=
 h.grown (row := none) ⟨rfl, rfl, rfl, by simp, fun k hk _ => Below.heap_alloc _ _ _ hk⟩ (fun b _ => by simp)
theorem ZlX (a : Option Addr) (len cap : Nat) (w : World) : Calls Tryz.prog 5 #[.slice a len cap] w fun e w' => e = .returned (.bool (decide ((1048576 : Int) < (len : Int)))) /\ w = w' := by
 go_enter Tryz.func5, Tryz.ntmps5
 go_wp2
 go_ret
 exact ⟨rfl, rfl⟩
theorem Zkt {w w' : World} {a : Option Addr} {len : Nat} (h : Code w a len w.heap.size) (hb : Below w.heap.size w w') : Code w' a len w'.heap.size := by
 refine ⟨h.1, ?_⟩
 rcases h.2 with h0 | ⟨b, off, ha, hb1, hx⟩
 ·exact .inl h0
 ·refine .inr ⟨b, off, ha, by have := hb.size; omega, fun i hi => ?_⟩
  obtain ⟨x, h1, h2⟩ := hx i hi
  exact ⟨x, h1, by rw [hb.cell (p := ⟨b, off + i, none⟩) hb1]; exact h2⟩
theorem ZhA (p : Nat) (a : Option Addr) (len cap : Nat) (n : Int) (w : World) (hc : Cur w p a len cap) (hn : 0 < n) (hn2 : n <= 1000000000000) :
  Calls Tryz.prog 22 #[.pointer (some ⟨p, 0, none⟩), .int .i64 n] w fun e w' => ∃ x : Bool, e = .returned (.bool x) /\ Cur w' p a len cap /\ w.grownBy w' (some p) := by
 go_enter Tryz.func22, Tryz.ntmps22
 go_wp2_with fail
 refine (Zbq p a len cap n _ hc hn hn2).mono ?_
 rintro e w1 ⟨x, rfl, h0, h1, hc1, hg1⟩
 have HG := hide hg1
 have HC := hide hc1
 clear hc1 hg1 hc
 go_wp2
 go_ret
 exact ⟨_, rfl, HC.out, HG.out⟩
theorem ZdQ (R : Int -> Prop) (p : Nat) (a : Option Addr) (len cap : Nat) (g n : Nat) (w : World) (hc : Cur w p a len cap) (hn : 0 < n) (hn2 : n <= 1000) (hg : g ≠ p) (hz : ∀ k, k < n -> ∃ z : Int, R z /\ w.cell? ⟨g, k, none⟩ = some (.int .i64 z)) :
  Calls Tryz.prog 52 #[.pointer (some ⟨p, 0, none⟩), .slice (some ⟨g, 0, none⟩) n n] w fun e w' => ∃ x : Int, e = .returned (.int .i64 x) /\ R x /\ Cur w' p a len cap /\ w.grownBy w' (some p) := by
 have HZ := hide hz
 have HC := hide hc
 clear hz hc
 go_enter Tryz.func52, Tryz.ntmps52
 go_wp2_with fail
 refine (Zbq p a len cap _ _ HC.out (by omega) (by omega)).mono ?_
 rintro e w1 ⟨x, rfl, h0, h1, hc1, hg1⟩
 obtain ⟨z, hR, hz⟩ := HZ.out x.toNat (by omega)
 have hz1 := hg1.cell hz (by simp; exact hg)
 have hxn : x < (n : Int) := h1
 have HR := hide hR
 have HG := hide hg1
 have HC1 := hide hc1
 clear hg1 hc1 hz hR
 go_wp2
 go_ret
 exact ⟨_, rfl, HR.out, HC1.out, HG.out⟩
end Go.Proofs.YtakiifededfjlaaGreat
