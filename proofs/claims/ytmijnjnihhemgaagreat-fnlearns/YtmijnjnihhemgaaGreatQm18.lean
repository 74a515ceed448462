/-
  Records put into a store in any order: the plain mathematics.
  spec.Newer, impl.Newer: their contracts.
  impl.Newer: its contract.
  spec.Scope, impl.Scope: their contracts.
  Two stores merged: the plain mathematics.
  spec.l05Store, DrawStores: right stores.
  spec.l13Open: its contract.
  spec.NextTo, spec.AreasOf, spec.Border: their contracts.
  spec.l08With: its contract.
  The search for shortest ways, as values: what holds while nodes are gone on from one by one, the cheapest first; that its end tells costs and hops which are determined by the links alone.
-/
import Derived.Test.YtmijnjnihhemgaaGreatQm17
import Derived.Test.YtmijnjnihhemgaaGreatQm7
import Derived.Test.YtmijnjnihhemgaaGreatQm6
import Derived.Test.YtmijnjnihhemgaaGreatQm14
import Derived.Test.YtmijnjnihhemgaaGreatQm1
import Derived.Test.YtmijnjnihhemgaaGreatQm5
import Derived.Test.YtmijnjnihhemgaaGreatQm16
namespace Go.Proofs.YtmijnjnihhemgaaGreat
open Go.RowKit
set_option linter.unusedSimpArgs false
set_option linter.unusedVariables false
set_option maxRecDepth 100000
set_option maxHeartbeats 8000000
theorem same_symm {x y : RecD} (h : sameKeyB x y = true) : sameKeyB y x = true := by
 unfold sameKeyB at *
 simp only [Bool.and_eq_true, beq_iff_eq] at *
 omega
theorem same_trans {x y z : RecD} (h : sameKeyB x y = true) (h2 : sameKeyB y z = true) : sameKeyB x z = true := by
 unfold sameKeyB at *
 simp only [Bool.and_eq_true, beq_iff_eq] at *
 omega
theorem same_refl (x : RecD) : sameKeyB x x = true := by simp [sameKeyB]
theorem bef_not_same {x y : RecD} (h : beforeB x y = true) : sameKeyB x y = false := by
 cases hs : sameKeyB x y with
 | false => rfl
 | true => rw [(bef_irrefl_same hs).1] at h; cases h
theorem asc_uniq {xs : List RecD} (h : Asc xs) {x y : RecD} (hx : x ∈ xs) (hy : y ∈ xs) (hs : sameKeyB x y = true) : x = y := by
 unfold Asc at h
 rw [List.pairwise_iff_getElem] at h
 obtain ⟨i, hi, ei⟩ := List.getElem_of_mem hx
 obtain ⟨j, hj, ej⟩ := List.getElem_of_mem hy
 rcases Nat.lt_trichotomy i j with hij | hij | hij
 ·have h1 := h i j hi hj hij
  rw [ei, ej] at h1
  rw [bef_not_same h1] at hs
  cases hs
 ·subst hij
  rw [← ei, ← ej]
 ·have h1 := h j i hj hi hij
  rw [ei, ej] at h1
  have h2 := bef_not_same h1
  rw [same_symm hs] at h2
  cases h2
theorem atZ_neg {xs : List RecD} {r : RecD} (h : atZ xs r = -1) : ∀ x ∈ xs, sameKeyB x r = false := by
 intro x hx
 unfold atZ at h
 cases e : xs.findIdx? (fun x => sameKeyB x r) with
 | none =>
  rw [List.findIdx?_eq_none_iff] at e
  simpa using e x hx
 | some i => rw [e] at h; simp only [] at h; omega
theorem takes_seq {xs : List RecD} {r x : RecD} (ha : Asc xs) (h : takesB xs r = true) (hx : x ∈ xs) (hs : sameKeyB x r = true) : x.seq < r.seq := by
 rcases atZ_cases xs r with hz | ⟨j, y, hz, hy, hys⟩
 ·rw [atZ_neg hz x hx] at hs; cases hs
 ·rw [takes_at (takes_ok h) hz hy] at h
  have e : x = y := asc_uniq ha hx (List.mem_of_getElem? hy) (same_trans hs (same_symm hys))
  rw [e]
  simpa using h
theorem takes_not {xs : List RecD} {r : RecD} (hr : recOkB r = true) (hl : xs.length < 150) (h : takesB xs r = false) : ∃ x ∈ xs, sameKeyB x r = true ∧ r.seq ≤ x.seq := by
 rcases atZ_cases xs r with hz | ⟨j, y, hz, hy, hys⟩
 ·rw [takes_none hr hz, decide_eq_true hl] at h; cases h
 ·rw [takes_at hr hz hy] at h
  exact ⟨y, List.mem_of_getElem? hy, hys, by simpa using h⟩
theorem mem_putD {xs : List RecD} {r x : RecD} : x ∈ putD xs r ↔ (x ∈ xs ∧ beforeB x r = true) ∨ x = r ∨ (x ∈ xs ∧ beforeB r x = true) := by
 unfold putD
 simp
theorem two_filters (f g : RecD → Bool) (hfg : ∀ x, f x = true → g x = false) (xs : List RecD) : (xs.filter f).length + (xs.filter g).length ≤ xs.length := by
 induction xs with
 | nil => simp
 | cons x xs ih =>
  rw [List.filter_cons, List.filter_cons, List.length_cons]
  cases hf : f x with
  | true => rw [hfg x hf]; simp; omega
  | false =>
   cases g x with
   | true => simp; omega
   | false => simp; omega
theorem len_instD (xs : List RecD) (r : RecD) : (instD xs r).length ≤ xs.length + 1 := by
 unfold instD
 split
 ·unfold putD
  have h := two_filters (fun x => beforeB x r) (fun x => beforeB r x) (fun x h => before_asym h) xs
  simp only [List.length_append, List.length_cons, List.length_nil]
  omega
 ·omega
structure Made (ls a : List RecD) : Prop where
 asc : Asc a
 sub : ∀ x ∈ a, x ∈ ls
 all : ∀ y ∈ ls, ∃ x ∈ a, sameKeyB x y = true ∧ y.seq ≤ x.seq
theorem Made.nil : Made [] [] := ⟨List.Pairwise.nil, by simp, by simp⟩
theorem Made.step {ls a : List RecD} {r : RecD} (h : Made ls a) (hr : recOkB r = true) (hl : a.length < 150) : Made (ls ++ [r]) (instD a r) := by
 cases ht : takesB a r with
 | false =>
  have e : instD a r = a := by unfold instD; rw [ht]; rfl
  rw [e]
  refine ⟨h.asc, fun x hx => List.mem_append_left _ (h.sub x hx), ?_⟩
  intro y hy
  rcases List.mem_append.1 hy with h1 | h1
  ·exact h.all y h1
  ·have : y = r := by simpa using h1
   subst this
   exact takes_not hr hl ht
 | true =>
  have e : instD a r = putD a r := by unfold instD; rw [ht]; rfl
  rw [e]
  refine ⟨asc_putD h.asc r, ?_, ?_⟩
  ·intro x hx
   rcases mem_putD.1 hx with h1 | h1 | h1
   ·exact List.mem_append_left _ (h.sub x h1.1)
   ·rw [h1]; simp
   ·exact List.mem_append_left _ (h.sub x h1.1)
  ·intro y hy
   rcases List.mem_append.1 hy with h1 | h1
   ·obtain ⟨x, hx, hs, hq⟩ := h.all y h1
    rcases bef_tri x r with h2 | h2 | h2
    ·exact ⟨x, mem_putD.2 (.inl ⟨hx, h2⟩), hs, hq⟩
    ·have h3 := takes_seq h.asc ht hx h2
     exact ⟨r, mem_putD.2 (.inr (.inl rfl)), same_trans (same_symm h2) hs, by omega⟩
    ·exact ⟨x, mem_putD.2 (.inr (.inr ⟨hx, h2⟩)), hs, hq⟩
   ·have : y = r := by simpa using h1
    subst this
    exact ⟨y, mem_putD.2 (.inr (.inl rfl)), same_refl y, Int.le_refl _⟩
theorem Made.store {ls a : List RecD} (h : Made ls a) (hok : ∀ x ∈ ls, recOkB x = true) (hl : a.length ≤ 150) : storeB a = true := by
 unfold storeB
 rw [decide_eq_true hl, asc_back h.asc]
 have e : allOk recOkB a = true := all_true fun j hj => by
  unfold okAt
  rw [List.getElem?_eq_getElem hj]
  exact hok _ (h.sub _ (List.getElem_mem hj))
 rw [e]
 rfl
theorem newest_gen (r : RecD) : ∀ (xs : List RecD) (m : Int), m ≤ xs.foldl (newStep r) m ∧ (∀ x ∈ xs, sameKeyB x r = true → x.seq ≤ xs.foldl (newStep r) m) ∧ (xs.foldl (newStep r) m = m ∨ ∃ x ∈ xs, sameKeyB x r = true ∧ x.seq = xs.foldl (newStep r) m) := by
 intro xs
 induction xs with
 | nil => intro m; simp
 | cons y xs ih =>
  intro m
  rw [List.foldl_cons]
  obtain ⟨h1, h2, h3⟩ := ih (newStep r m y)
  cases hs : sameKeyB y r with
  | false =>
   rw [newStep_no hs] at *
   refine ⟨h1, ?_, ?_⟩
   ·intro x hx hk
    rcases List.mem_cons.1 hx with rfl | h4
    ·rw [hs] at hk; cases hk
    ·exact h2 x h4 hk
   ·rcases h3 with h3 | ⟨x, hx, h4⟩
    ·exact .inl h3
    ·exact .inr ⟨x, List.mem_cons_of_mem _ hx, h4⟩
  | true =>
   by_cases hm : m < y.seq
   ·rw [newStep_new hs hm] at *
    refine ⟨by omega, ?_, ?_⟩
    ·intro x hx hk
     rcases List.mem_cons.1 hx with rfl | h4
     ·exact h1
     ·exact h2 x h4 hk
    ·rcases h3 with h3 | ⟨x, hx, h4⟩
     ·exact .inr ⟨y, List.mem_cons_self .., hs, h3.symm⟩
     ·exact .inr ⟨x, List.mem_cons_of_mem _ hx, h4⟩
   ·rw [newStep_old hm] at *
    refine ⟨h1, ?_, ?_⟩
    ·intro x hx hk
     rcases List.mem_cons.1 hx with rfl | h4
     ·omega
     ·exact h2 x h4 hk
    ·rcases h3 with h3 | ⟨x, hx, h4⟩
     ·exact .inl h3
     ·exact .inr ⟨x, List.mem_cons_of_mem _ hx, h4⟩
theorem newest_eq {xs : List RecD} {r x : RecD} (hx : x ∈ xs) (hs : sameKeyB x r = true) (h0 : 0 ≤ x.seq) (hall : ∀ y ∈ xs, sameKeyB y r = true → y.seq ≤ x.seq) : newestD xs r = x.seq := by
 obtain ⟨h1, h2, h3⟩ := newest_gen r xs 0
 unfold newestD
 have h4 := h2 x hx hs
 rcases h3 with h3 | ⟨y, hy, hk, e⟩
 ·omega
 ·have := hall y hy hk; omega
theorem ok_seq {x : RecD} (h : recOkB x = true) : 1 ≤ x.seq := by
 unfold recOkB inB at h
 simp only [Bool.and_eq_true, decide_eq_true_eq] at h
 omega



structure Merged (A B M : List RecD) : Prop where
 made : Made (A ++ B) M
 sto : storeB M = true
 okA : storeB A = true
 okB : storeB B = true
 lenM : M.length ≤ 60
theorem made_self {A : List RecD} (h : Asc A) : Made A A := ⟨h, fun _ hx => hx, fun y hy => ⟨y, hy, same_refl y, Int.le_refl _⟩⟩
theorem newest_le {xs : List RecD} {r : RecD} {s : Int} (h0 : 0 ≤ s) (h : ∀ z ∈ xs, sameKeyB z r = true → z.seq ≤ s) : newestD xs r ≤ s := by
 obtain ⟨h1, h2, h3⟩ := newest_gen r xs 0
 unfold newestD
 rcases h3 with h3 | ⟨x, hx, hk, e⟩
 ·omega
 ·have := h x hx hk; omega
theorem Merged.ok {A B M : List RecD} (h : Merged A B M) : ∀ x ∈ A ++ B, recOkB x = true := by
 intro x hx
 rcases List.mem_append.1 hx with h1 | h1
 ·exact (store_ok h.okA).2.1 x h1
 ·exact (store_ok h.okB).2.1 x h1
theorem Merged.le {A B M : List RecD} (h : Merged A B M) {y z : RecD} (hy : y ∈ M) (hz : z ∈ A ++ B) (hs : sameKeyB z y = true) : z.seq ≤ y.seq := by
 obtain ⟨x, hx, h1, h2⟩ := h.made.all z hz
 rw [asc_uniq h.made.asc hx hy (same_trans h1 hs)] at h2
 exact h2
theorem Merged.most {A B M : List RecD} (h : Merged A B M) {y : RecD} (hy : y ∈ M) : (if newestD A y < newestD B y then newestD B y else newestD A y) = y.seq := by
 have h0 := ok_seq (h.ok y (h.made.sub y hy))
 have hA : newestD A y ≤ y.seq := newest_le (by omega) (fun z hz hs => h.le hy (List.mem_append_left _ hz) hs)
 have hB : newestD B y ≤ y.seq := newest_le (by omega) (fun z hz hs => h.le hy (List.mem_append_right _ hz) hs)
 rcases List.mem_append.1 (h.made.sub y hy) with h1 | h1
 ·have e := newest_eq h1 (same_refl y) (by omega) (fun z hz hs => h.le hy (List.mem_append_left _ hz) hs)
  split <;> omega
 ·have e := newest_eq h1 (same_refl y) (by omega) (fun z hz hs => h.le hy (List.mem_append_right _ hz) hs)
  split <;> omega
theorem takes_stale {M : List RecD} {x y : RecD} (hM : Asc M) (hy : y ∈ M) (hs : sameKeyB y x = true) (hq : x.seq ≤ y.seq) : takesB M x = false := by
 cases h : takesB M x with
 | false => rfl
 | true => have := takes_seq hM h hy hs; omega
theorem Merged.again {A B M : List RecD} (h : Merged A B M) : mergeD M B = M := by
 have key : ∀ (xs : List RecD), (∀ x ∈ xs, x ∈ B) → xs.foldl instD M = M := by
  intro xs
  induction xs with
  | nil => intro _; rfl
  | cons x xs ih =>
   intro hx
   obtain ⟨y, hy, hs, hq⟩ := h.made.all x (List.mem_append_right _ (hx x (List.mem_cons_self ..)))
   have e : instD M x = M := by unfold instD; rw [takes_stale h.made.asc hy hs hq]; rfl
   rw [List.foldl_cons, e]
   exact ih (fun z hz => hx z (List.mem_cons_of_mem _ hz))
 unfold mergeD
 rw [h.sto]
 exact key B (fun x hx => hx)
theorem store_instD {xs : List RecD} {r : RecD} (h : storeB xs = true) (hr : recOkB r = true) (hl : xs.length < 150) : storeB (instD xs r) = true := by
 have h3 := store_ok h
 have hm := (made_self h3.2.2).step hr hl
 refine hm.store ?_ (by have := len_instD xs r; omega)
 intro x hx
 rcases List.mem_append.1 hx with h1 | h1
 ·exact h3.2.1 x h1
 ·have : x = r := by simpa using h1
  subst this
  exact hr
theorem cur_ne {W : World} {p base size n : Nat} {e : TypeId} {v : Value} {xs : List Value} {a : Option Addr} {len cap : Nat} (hc : Cur W p a len cap) (h : W.ownsRow base e size v n xs) (he : e ≠ 145) (k : Nat) (hk : v.ownBlock = some k) : some k ≠ some p := by
 obtain ⟨⟨i, hh, _, hb⟩, _⟩ := hc
 rcases h.2 with ⟨h0, _⟩ | ⟨g, cp, cur, hv, _, hg, _⟩
 ·rw [h0] at hk; simp [Value.ownBlock] at hk
 ·rw [hv] at hk
  simp [Value.ownBlock] at hk
  subst hk
  intro e2
  simp at e2
  subst e2
  rw [hg] at hb
  simp at hb
  exact he hb.2
theorem RecsIn.cur {W W' : World} {hi p : Nat} {v : Value} {ps : List RP} {a : Option Addr} {len cap : Nat} (h : RecsIn W hi v ps) (hc : Cur W p a len cap) (hg : W.grownBy W' (some p)) : RecsIn W' hi v ps where
 row := owns_keepB h.row (fun k e => hg.block k (h.row.lt k e).2 (cur_ne hc h.row (by decide) k e))
 top := h.top
 nears := fun q hq => ⟨owns_keepB (h.nears q hq).1 (fun k e => hg.block k ((h.nears q hq).1.lt k e).2 (cur_ne hc (h.nears q hq).1 (by decide) k e)), (h.nears q hq).2⟩
theorem recs_litIn (W : World) : RecsIn (W.alloc (.cells #[] 39)) (W.alloc (.cells #[] 39)).heap.size (.slice (some ⟨W.heap.size, 0, none⟩) 0 0) [] := (recs_lit W 0 (Nat.zero_le _)).in
theorem drawStore_any (p : Nat) (a : Option Addr) (len cap : Nat) (w : World) (hc : Cur w p a len cap) :
  Calls Tryz.prog 119 #[.pointer (some ⟨p, 0, none⟩)] w fun e w' => ∃ (v : Value) (qs : List RP), e = .returned v ∧ RecsIn w' w'.heap.size v qs ∧ storeB (fsts qs) = true ∧ qs.length ≤ 12 ∧ Cur w' p a len cap ∧ w.grownBy w' (some p) := by
 have hp := lt_of_cur hc
 have C0 := hide (cur_alloc hc (.cells #[] 39))
 have R0 := hide (recs_litIn w)
 have G0 := hide (gro_alloc (gro_refl w (some p)) (.cells #[] 39))
 clear hc
 go_enter Tryz.func119, Tryz.ntmps119
 go_wp2
 generalize w.alloc (.cells #[] 39) = w0 at *
 go_loopw [4, 3] (fun i o wr => ∃ (k : Nat) (qs : List RP) (u : Value), k ≤ 12 ∧ i = .int .i64 k ∧ o = u ∧ Hid (qs.length ≤ k) ∧ Hid (storeB (fsts qs) = true) ∧ RecsIn wr wr.heap.size u qs ∧ Cur wr p a len cap ∧ w.grownBy wr (some p)) (fun i _ _ => 13 - (intOf i).toNat)
 case atStart => exact ⟨0, [], _, by omega, rfl, rfl, hide (by simp), hide (by decide), R0.out, C0.out, G0.out⟩
 case round =>
  obtain ⟨k, qs, u, hk, rfl, rfl, HQL, HST, hown, hcr, hgr⟩ := hrel
  obtain ⟨ua, uc, rfl⟩ := owns_lenS hown.row
  have OW := hide hown
  have HCR := hide hcr
  have HGR := hide hgr
  clear hown hcr hgr
  go_wp2_with fail
  refine (below_any p a len cap 12 _ HCR.out (by omega) (by omega)).mono ?_
  rintro e w3 ⟨y, rfl, hy0, hy1, hc3, hg3⟩
  have OW3 := hide ((OW.out.cur HCR.out hg3).wide hg3.size)
  have G3 := hide (gro_same HGR.out hg3)
  have C3 := hide hc3
  clear hc3 hg3 OW HCR HGR
  by_cases hlt : (k : Int) < y
  ·go_wp2_with fail
   refine (recR_any p a len cap _ C3.out).mono ?_
   rintro e w4 ⟨x, n1, rfl, ho4, hl4, hok4, hc4, hg4⟩
   have OW4 := (OW3.out.cur C3.out hg4).wide hg4.size
   have hst := store_ok HST.out
   have hq := HQL.out
   have hfl : (fsts qs).length = qs.length := by simp [fsts]
   have htq : tot qs ≤ 1048576 := by rw [tot_D]; have := store_tot HST.out; omega
   have HIN := sinst_any (.slice ua qs.length uc) qs w4.heap.size (x, n1) w4 OW4 (Nat.le_refl _) htq ⟨owns_baseS ho4 (Nat.zero_le _), fun k hk => (ho4.lt k hk).2⟩ (by show x.near.length ≤ 1048576; omega)
   have HN := hide (show storeB (fsts (instL qs (x, n1))) = true by rw [instL_fsts]; exact store_instD HST.out hok4 (by omega))
   have HLn := hide (show (instL qs (x, n1)).length ≤ k + 1 by
    have e1 : (fsts (instL qs (x, n1))).length = (instL qs (x, n1)).length := by simp [fsts]
    rw [instL_fsts] at e1
    have h5 := len_instD (fsts qs) x
    simp only [] at e1
    omega)
   have G4 := gro_same G3.out hg4
   obtain ⟨na, nc, rfl⟩ := owns_lenS ho4
   generalize instL qs (x, Value.slice na x.near.length nc) = qn at *
   obtain ⟨TT, hTT⟩ : ∃ T, T = takesB (fsts qs) (x, Value.slice na x.near.length nc).1 := ⟨_, rfl⟩
   rw [← hTT] at HIN
   have HI := hide HIN
   have HC4 := hide hc4
   have HG4 := hide G4
   clear HIN hst hok4 ho4 hc4 hg4 G4 OW4 OW3 G3 C3 HST HQL htq hfl hq hTT
   unfold recC at *
   go_wp2_with fail
   refine HI.out.mono ?_
   rintro e w5 ⟨x5, rfl, o5, b5⟩
   obtain ⟨x5a, x5c, rfl⟩ := owns_lenS o5.row
   have O5 := hide o5
   have C5 := hide (HC4.out.grown (grown_of_below b5) (fun b _ => by simp))
   have G5 := hide (gro_step HG4.out (grown_of_below b5) (fun k e => by cases e))
   clear o5 b5 HC4 HG4 HI
   go_wp2
   go_roundw
   case rel => exact ⟨k + 1, qn, _, by omega, by go_num, rfl, HLn, HN, O5.out, C5.out, G5.out⟩
   case measure => simp [intOf]; omega
  ·go_wp2
   go_ret
   first
    | exact ⟨_, qs, rfl, OW3.out, HST.out, by have := HQL.out; omega, C3.out, G3.out⟩
    | exact ⟨_, rfl, qs, OW3.out, HST.out, by have := HQL.out; omega, C3.out, G3.out⟩
def opHit (f t r : Int) (p : Lk × Bool) : Bool := p.2 && lkHit f t r p.1
def openN (ls : List Lk) (bs : List Bool) (f t r : Int) : Int := (((ls.zip bs).find? (opHit f t r)).map (·.1.c)).getD 0
theorem zip_at {ls : List Lk} {bs : List Bool} {k : Nat} {l : Lk} {b : Bool} (h : ls[k]? = some l) (hb : bs[k]? = some b) : (ls.zip bs)[k]? = some (l, b) := by
 rw [List.getElem?_zip_eq_some]; exact ⟨h, hb⟩
theorem open_hit {ls : List Lk} {bs : List Bool} {f t r : Int} {k : Nat} {l : Lk} {b : Bool} (h : ∀ j, j < k → ∀ x, (ls.zip bs)[j]? = some x → opHit f t r x = false) (hl : (ls.zip bs)[k]? = some (l, b)) (hp : opHit f t r (l, b) = true) : openN ls bs f t r = l.c := by
 unfold openN; rw [find_first _ _ k _ h hl hp]; rfl
theorem open_none {ls : List Lk} {bs : List Bool} {f t r : Int} {k : Nat} (h : ∀ j, j < k → ∀ x, (ls.zip bs)[j]? = some x → opHit f t r x = false) (hk : k = ls.length) : openN ls bs f t r = 0 := by
 unfold openN
 rw [find_noneL _ _ (fun j hj => h j (by rw [List.length_zip] at hj; omega))]; rfl
def NoHit (ls : List Lk) (bs : List Bool) (f t r : Int) (k : Nat) : Prop := ∀ j, j < k → ∀ x, (ls.zip bs)[j]? = some x → opHit f t r x = false
theorem sopen_any (n : Value) (v tv y : Value) (ls : List Lk) (bs : List Bool) (f t r : Int) (w : World) (hls : ls.length ≤ 1048576) (hbs : bs.length = ls.length) (hv : LinksAt w v ls w.heap.size) (hy : BoolsAt w y bs w.heap.size) :
  Calls Tryz.prog 95 #[.agg #[n, v, tv], y, .int .i64 f, .int .i64 t, .int .i64 r] w fun e w' => e = .returned (.int .i64 (openN ls bs f t r)) ∧ Below w.heap.size w w' := by
 obtain ⟨a, cap, rfl⟩ : ∃ a cap, v = .slice a ls.length cap := by obtain ⟨a, cap, h, _⟩ := hv; exact ⟨a, cap, h⟩
 obtain ⟨a2, cap2, rfl⟩ := hy.shape
 have HV := hide hv
 have HY := hide hy
 have HBS := hide hbs
 clear hv hy hbs
 go_enter Tryz.func95, Tryz.ntmps95
 go_wp2
 go_loopw [11] (fun i wr => ∃ k : Nat, k ≤ ls.length ∧ i = .int .i64 k ∧ NoHit ls bs f t r k ∧ Below w.heap.size w wr ∧ wr.heap[w.heap.size]? = some (.cells #[n, .slice a ls.length cap, tv] 27)) (fun i _ => ls.length - (intOf i).toNat)
 case atStart => exact ⟨0, by omega, rfl, fun j hj => absurd hj (Nat.not_lt_zero _), (Below.refl _ _).alloc (Nat.le_refl _) _, heap_alloc_new w _⟩
 case round =>
  obtain ⟨k, hk, rfl, hno, hb, hx⟩ := hrel
  have hx1 : wr.cell? ⟨w.heap.size, 1, none⟩ = some (.slice a ls.length cap) := by rw [cells_at hx]; rfl
  have HX := hide hx
  have HNO := hide hno
  clear hx hno
  by_cases hlt : k < ls.length
  ·obtain ⟨l, hl⟩ : ∃ l, ls[k]? = some l := ⟨ls[k], List.getElem?_eq_getElem hlt⟩
   have hltb : k < bs.length := by have := HBS.out; omega
   obtain ⟨b1, hb1⟩ : ∃ b, bs[k]? = some b := ⟨bs[k], List.getElem?_eq_getElem hltb⟩
   obtain ⟨b, off, cap', hve, hbb, c0, c1, c2, c3⟩ := HV.out.cells k l hl
   cases hve
   obtain ⟨g, off2, cap2', hve2, hgg, d0⟩ := HY.out.cell k b1 hb1
   cases hve2
   rw [← hb.cell (p := ⟨b, off + k * 4, none⟩) hbb] at c0
   rw [← hb.cell (p := ⟨b, off + k * 4 + 1, none⟩) hbb] at c1
   rw [← hb.cell (p := ⟨b, off + k * 4 + 2, none⟩) hbb] at c2
   rw [← hb.cell (p := ⟨b, off + k * 4 + 3, none⟩) hbb] at c3
   rw [← hb.cell (p := ⟨g, off2 + k, none⟩) hgg] at d0
   have HL := hide (zip_at hl hb1)
   have hlb : (k : Int) < (bs.length : Int) := by omega
   have hgw : g < wr.heap.size := by have := hb.size; omega
   clear hl hb1 hgg
   obtain ⟨la, lb, lc, lr⟩ := l
   cases b1
   all_goals go_wp2
   all_goals first
    | (go_ret
       refine ⟨ret_int (open_hit HNO.out HL.out ?_).symm, hb.alloc hb.size _⟩
       clear HV HX HL HNO hb hx1 c0 c1 c2 c3 d0 HY
       simp only [opHit, lkHit]
       grind)
    | (refine ⟨⟨k + 1, by omega, by go_num, no_next HNO.out HL.out ?_, hb.alloc hb.size _, ?_⟩, by simp [intOf]; omega⟩
       ·clear HV HX HL HNO hb hx1 c0 c1 c2 c3 d0 HY
        simp only [opHit, lkHit]
        grind
       ·rw [Below.heap_alloc _ _ _ (lt_of_heap HX.out)]; exact HX.out)
    | (subst_vars
       refine ⟨⟨k + 1, by omega, by go_num, no_next HNO.out HL.out ?_, hb.alloc hb.size _, ?_⟩, by simp [intOf]; omega⟩
       ·clear HV HX HL HNO hb hx1 c0 c1 c2 c3 d0 HY
        simp only [opHit, lkHit]
        grind
       ·rw [Below.heap_alloc _ _ _ (lt_of_heap HX.out)]; exact HX.out)
  ·have hk' : k = ls.length := by omega
   have HK := hide hk'
   clear hk'
   go_wp2
   go_ret
   exact ⟨ret_int (open_none HNO.out HK.out).symm, hb⟩
def nextL (ls : List Lk) (v r : Int) : List Int := ([1, 2, 3, 4, 5, 6] : List Int).filter fun u => decide (0 < costN ls v u r)
def areasL (ls : List Lk) (v : Int) : List Int := ([0, 1, 2] : List Int).filter fun r => decide (0 < (nextL ls v r).length)
def bordB (ls : List Lk) (v : Int) : Bool := decide (1 < (areasL ls v).length) && ((areasL ls v).head? == some 0)
def passed (p : Int → Bool) (s : Int) : Nat → List Int
 | 0 => []
 | k + 1 => passed p s k ++ (if p (s + (k : Int)) then [s + (k : Int)] else [])
theorem passed_len (p : Int → Bool) (s : Int) : ∀ k, (passed p s k).length ≤ k
 | 0 => by simp [passed]
 | k + 1 => by
  have := passed_len p s k
  simp only [passed]
  split <;> simp <;> omega
theorem next_passed (ls : List Lk) (v r : Int) : nextL ls v r = passed (fun u => decide (0 < costN ls v u r)) 1 6 := by
 simp [nextL, passed, List.filter_cons]
 repeat' split
 all_goals simp
theorem snext_any (n : Value) (v tv : Value) (ls : List Lk) (f r : Int) (w : World) (hls : ls.length ≤ 1048576) (hv : LinksAt w v ls w.heap.size) :
  Calls Tryz.prog 71 #[.agg #[n, v, tv], .int .i64 f, .int .i64 r] w fun e w' => ∃ x, e = .returned x ∧ w'.ownsRow w.heap.size 3 1 x (nextL ls f r).length (intsOf (nextL ls f r)) ∧ Below w.heap.size w w' := by
 have HV := hide hv
 clear hv
 rw [next_passed]
 go_enter Tryz.func71, Tryz.ntmps71
 go_wp2
 go_loopw [7, 8] (fun x i wr => ∃ k : Nat, k ≤ 6 ∧ i = .int .i64 (1 + (k : Int)) ∧ Below w.heap.size w wr ∧ wr.heap[w.heap.size]? = some (.cells #[n, v, tv] 27) ∧ wr.ownsRow (w.heap.size + 1) 3 1 x (passed (fun u => decide (0 < costN ls f u r)) 1 k).length (intsOf (passed (fun u => decide (0 < costN ls f u r)) 1 k))) (fun _ i _ => 8 - (intOf i).toNat)
 case atStart =>
  refine ⟨0, by omega, rfl, below_two _ _, ?_, ?_⟩
  ·rw [Below.heap_alloc _ _ _ (show w.heap.size < (w.alloc (.cells #[n, v, tv] 27)).heap.size by simp), heap_alloc_new]
  ·have h0 := World.ownsRow_lit (base := w.heap.size + 1) (w.alloc (.cells #[n, v, tv] 27)) (#[] : Array Value) 0 (by simp) (by decide) (e := 3) (size := 1) rfl
   simpa [passed, intsOf] using h0
 case round =>
  obtain ⟨k, hk, rfl, hb, hx, hown⟩ := hrel
  have c0 : wr.cell? ⟨w.heap.size, 0, none⟩ = some n := by rw [cells_at hx]; rfl
  have c1 : wr.cell? ⟨w.heap.size, 1, none⟩ = some v := by rw [cells_at hx]; rfl
  have c2 : wr.cell? ⟨w.heap.size, 2, none⟩ = some tv := by rw [cells_at hx]; rfl
  have hxl := lt_of_heap hx
  have HX := hide hx
  have OW := hide hown
  clear hx hown
  by_cases hlt : k < 6
  ·go_wp2_with fail
   refine (scost_any n v tv ls f (1 + (k : Int)) r wr hls (HV.out.then hb)).mono ?_
   rintro e w1 ⟨rfl, b1⟩
   have hown1 := owns_below OW.out b1 (Nat.le_refl _)
   have hx1 : w1.heap[w.heap.size]? = some (.cells #[n, v, tv] 27) := by rw [b1.block _ hxl]; exact HX.out
   have hb1 : Below w.heap.size w w1 := hb.trans (b1.mono hb.size)
   have hz1 := b1.size
   have hpl := passed_len (fun u => decide (0 < costN ls f u r)) 1 k
   have HX1 := hide hx1
   obtain ⟨l2, hl20⟩ : ∃ l2, l2 = passed (fun u => decide (0 < costN ls f u r)) 1 (k + 1) := ⟨_, rfl⟩
   have HL20 := hide hl20
   have hps : Hid (l2 = passed (fun u => decide (0 < costN ls f u r)) 1 k ++ (if decide (0 < costN ls f (1 + (k : Int)) r) then [1 + (k : Int)] else [])) := hl20
   clear hl20
   clear b1 hx1 c0 c1 c2 OW HX
   generalize passed (fun u => decide (0 < costN ls f u r)) 1 k = l at hown1 hpl hps
   generalize costN ls f (1 + (k : Int)) r = c at hps ⊢
   by_cases hc : 0 < c
   ·have hl2 : l2 = l ++ [1 + (k : Int)] := by rw [hps.out]; simp [hc]
    have HL2 := hide hl2
    clear hl2 hps
    go_wp2_with (first
     | (at_builtin; refine wpList_append_int _ rfl _ _ 28 rfl (w.heap.size + 1) 3 Tryz.underlying28 Tryz.info3 u7 l (1 + (k : Int)) rfl (hown1.alloc _) ⟨w1.heap.size, 0, none⟩ 1 rfl ?_ (by omega) (by simp; omega) ?_))
    ·rw [add_zero', World.cell?_alloc_at _ _ _ _ rfl]; rfl
    intro v' w4 l' hl' hown' hgrow
    have hb4 : Below w.heap.size w w4 := (hb1.alloc (by omega) _).grown hgrow (by simp; omega) (fun k hk => by have := (hown1.lt k hk).1; omega)
    have hx4 : w4.heap[w.heap.size]? = some (.cells #[n, v, tv] 27) := by
     rw [hgrow.block _ (by simp; omega) (fun h => by have := (hown1.lt _ h.symm).1; omega), Below.heap_alloc _ _ _ (by omega)]
     exact HX1.out
    have e : l' = l2 := by rw [hl'.out, HL2.out]
    subst e
    have OW2 := hide hown'
    have HX4 := hide hx4
    clear hgrow hown' hx4 hown1
    go_wp2
    go_roundw
    case rel => exact ⟨k + 1, by omega, by go_num, hb4, HX4.out, by rw [← HL20.out]; exact OW2.out⟩
    case measure => simp [intOf]; omega
   ·have hl2 : l2 = l := by rw [hps.out]; simp [hc]
    subst hl2
    have OW2 := hide hown1
    clear hown1 hps
    go_wp2
    go_roundw
    case rel => exact ⟨k + 1, by omega, by go_num, hb1, HX1.out, by rw [← HL20.out]; exact OW2.out⟩
    case measure => simp [intOf]; omega
  ·have hk' : k = 6 := by omega
   subst hk'
   go_wp2
   go_ret
   exact ⟨_, rfl, owns_base OW.out (by omega), hb⟩
def seq1 (r : RecD) : RecD := if r.seq = 0 then { r with seq := 1 } else r
def withD (xs ts : List RecD) : List RecD := ts.foldl (fun a r => putD a (seq1 r)) xs
theorem withD_step {xs ts : List RecD} {k : Nat} {r : RecD} (h : ts[k]? = some r) : withD xs (ts.take (k + 1)) = putD (withD xs (ts.take k)) (seq1 r) := by
 obtain ⟨hk, e⟩ := List.getElem?_eq_some_iff.1 h
 unfold withD
 rw [List.take_succ_eq_append_getElem hk, e, List.foldl_append]
 rfl
theorem tot_takeK {ts : List RP} {k : Nat} {p : RP} (h : ts[k]? = some p) : tot (ts.take (k + 1)) = tot (ts.take k) + (1 + p.1.near.length) := by
 obtain ⟨hk, e⟩ := List.getElem?_eq_some_iff.1 h
 rw [List.take_succ_eq_append_getElem hk, tot_append, e]
 simp [tot]
theorem tot_takeL (ts : List RP) (k : Nat) : tot (ts.take k) ≤ tot ts := by
 have h := tot_append (ts.take k) (ts.drop k)
 rw [List.take_append_drop] at h
 omega
theorem with_any (v v2 : Value) (ps ts : List RP) (hi : Nat) (w : World) (hv : RecsIn w hi v ps) (ht : RecsIn w hi v2 ts) (hhi : hi ≤ w.heap.size) (hn : tot ps + tot ts ≤ 1048576) :
  Calls Tryz.prog 63 #[v, v2] w fun e w' => ∃ x qs, e = .returned x ∧ fsts qs = withD (fsts ps) (fsts ts) ∧ RecsIn w' w'.heap.size x qs ∧ tot qs ≤ tot ps + tot ts ∧ Below w.heap.size w w' := by
 have htl := tot_len ts
 obtain ⟨a1, c1, rfl⟩ := owns_lenS hv.row
 obtain ⟨a2, c2, rfl⟩ := owns_lenS ht.row
 have HT := hide ht
 have HV0 := hide (hv.wide hhi)
 clear hv ht
 go_enter Tryz.func63, Tryz.ntmps63
 go_wp2
 go_loopw [6, 5] (fun i o wr => ∃ (k : Nat) (x : Value) (qs : List RP), k ≤ ts.length ∧ i = .int .i64 (k : Int) ∧ o = x ∧ RecsIn wr wr.heap.size x qs ∧ Hid (fsts qs = withD (fsts ps) ((fsts ts).take k)) ∧ tot qs ≤ tot ps + tot (ts.take k) ∧ Below w.heap.size w wr) (fun i _ _ => ts.length - (intOf i).toNat)
 case atStart => exact ⟨0, _, ps, by omega, rfl, rfl, HV0.out, hide (by simp [withD]), by omega, Below.refl _ _⟩
 case round =>
  obtain ⟨k, x, qs, hk, rfl, rfl, hin, HF, htq, hnx⟩ := hrel
  clear HV0
  obtain ⟨xa, xc, rfl⟩ := owns_lenS hin.row
  have hsz := hnx.size
  by_cases hlt : k < ts.length
  ·obtain ⟨p, hp⟩ : ∃ p, ts[k]? = some p := ⟨ts[k], List.getElem?_eq_getElem hlt⟩
   obtain ⟨bb, off, cap', hve, hbb, c0, c1, c2, c3, c4, c5, c6, c7, hnr⟩ := HT.out.at.cells k p hp
   cases hve
   obtain ⟨pa, pc, hpn⟩ := NearsAt.shape hnr
   rw [hpn] at c5
   rw [← hnx.cell (p := ⟨bb, off + k * 8, none⟩) (Nat.lt_of_lt_of_le hbb hhi)] at c0
   rw [← hnx.cell (p := ⟨bb, off + k * 8 + 1, none⟩) (Nat.lt_of_lt_of_le hbb hhi)] at c1
   rw [← hnx.cell (p := ⟨bb, off + k * 8 + 2, none⟩) (Nat.lt_of_lt_of_le hbb hhi)] at c2
   rw [← hnx.cell (p := ⟨bb, off + k * 8 + 3, none⟩) (Nat.lt_of_lt_of_le hbb hhi)] at c3
   rw [← hnx.cell (p := ⟨bb, off + k * 8 + 4, none⟩) (Nat.lt_of_lt_of_le hbb hhi)] at c4
   rw [← hnx.cell (p := ⟨bb, off + k * 8 + 5, none⟩) (Nat.lt_of_lt_of_le hbb hhi)] at c5
   rw [← hnx.cell (p := ⟨bb, off + k * 8 + 6, none⟩) (Nat.lt_of_lt_of_le hbb hhi)] at c6
   rw [← hnx.cell (p := ⟨bb, off + k * 8 + 7, none⟩) (Nat.lt_of_lt_of_le hbb hhi)] at c7
   have htk := tot_takeK hp
   have htl2 := tot_takeL ts (k + 1)
   have hno0 := HT.out.nears p (List.mem_of_getElem? hp)
   have hno1 : NearOwn wr 0 wr.heap.size p := (hno0.keep (W' := wr) (fun j _ h2 _ => hnx.block j (by omega))).wide (Nat.le_refl _) (by omega)
   have hpe : p = (p.1, .slice pa p.1.near.length pc) := by rw [← hpn]
   have hki : (0 : Int) ≤ (k : Int) := by omega
   have hkj : (k : Int) < (ts.length : Int) := by omega
   by_cases hs0 : p.1.seq = 0
   ·have hd : (p.1.seq == 0) = true := by simpa using hs0
    have hse : seq1 p.1 = { p.1 with seq := 1 } := by unfold seq1; rw [if_pos hs0]
    have hno : NearOwn wr 0 wr.heap.size ({ p.1 with seq := 1 }, .slice pa p.1.near.length pc) := by rw [hpe] at hno1; exact hno1
    clear hs0 hpe hno0 hno1 hnr hpn
    have BA : Below wr.heap.size wr (wr.alloc (.cells #[.int .i64 p.1.area, .int .i64 p.1.kind, .int .i64 p.1.owner, .int .i64 p.1.key, .int .i64 1, .slice pa p.1.near.length pc, .int .i64 p.1.cost, .bool p.1.far] 39)) := (Below.refl _ _).alloc (Nat.le_refl _) _
    have hno2 : NearOwn (wr.alloc (.cells #[.int .i64 p.1.area, .int .i64 p.1.kind, .int .i64 p.1.owner, .int .i64 p.1.key, .int .i64 1, .slice pa p.1.near.length pc, .int .i64 p.1.cost, .bool p.1.far] 39)) 0 (wr.alloc (.cells #[.int .i64 p.1.area, .int .i64 p.1.kind, .int .i64 p.1.owner, .int .i64 p.1.key, .int .i64 1, .slice pa p.1.near.length pc, .int .i64 p.1.cost, .bool p.1.far] 39)).heap.size ({ p.1 with seq := 1 }, .slice pa p.1.near.length pc) := (hno.keep (W' := (wr.alloc (.cells #[.int .i64 p.1.area, .int .i64 p.1.kind, .int .i64 p.1.owner, .int .i64 p.1.key, .int .i64 1, .slice pa p.1.near.length pc, .int .i64 p.1.cost, .bool p.1.far] 39))) (fun j _ _ h3 => BA.block j h3)).wide (Nat.le_refl _) BA.size
    have HP := hide (put_any (.slice xa qs.length xc) qs (wr.alloc (.cells #[.int .i64 p.1.area, .int .i64 p.1.kind, .int .i64 p.1.owner, .int .i64 p.1.key, .int .i64 1, .slice pa p.1.near.length pc, .int .i64 p.1.cost, .bool p.1.far] 39)).heap.size ({ p.1 with seq := 1 }, .slice pa p.1.near.length pc) (wr.alloc (.cells #[.int .i64 p.1.area, .int .i64 p.1.kind, .int .i64 p.1.owner, .int .i64 p.1.key, .int .i64 1, .slice pa p.1.near.length pc, .int .i64 p.1.cost, .bool p.1.far] 39)) ((hin.below BA (Nat.le_refl _)).wide BA.size) (Nat.le_refl _) (by omega) hno2)
    have HF2 := hide (show fsts (putL qs ({ p.1 with seq := 1 }, .slice pa p.1.near.length pc)) = withD (fsts ps) ((fsts ts).take (k + 1)) by
     rw [putL_fsts, withD_step (fsts_at hp), ← HF.out, hse])
    have htp := tot_put qs ({ p.1 with seq := 1 }, .slice pa p.1.near.length pc)
    have HB := hide (hnx.trans (BA.mono hnx.size))
    have HTK := hide htk
    have htp2 : tot (putL qs ({ p.1 with seq := 1 }, .slice pa p.1.near.length pc)) ≤ tot qs + (1 + p.1.near.length) := htp
    obtain ⟨Q, hQ⟩ : ∃ Q, Q = putL qs ({ p.1 with seq := 1 }, .slice pa p.1.near.length pc) := ⟨_, rfl⟩
    rw [← hQ] at HP HF2 htp2
    unfold recC at HP
    simp only [] at HP
    clear hno hno2 hin hse htp hp HF htk hQ
    go_wp2_with fail
    refine HP.out.mono ?_
    rintro e w2 ⟨y, rfl, hy, b2⟩
    obtain ⟨ya, yc, rfl⟩ := owns_lenS hy.row
    have HY := hide hy
    have HB2 := hide (HB.out.trans (b2.mono HB.out.size))
    clear hy b2 HP HB BA
    go_wp2
    go_roundw
    case rel => exact ⟨k + 1, _, Q, by omega, by go_num, rfl, HY.out, HF2, by have := HTK.out; omega, HB2.out⟩
    case measure => simp [intOf]; omega
   ·have hd : (p.1.seq == 0) = false := by simpa using hs0
    have hse : seq1 p.1 = p.1 := by unfold seq1; rw [if_neg hs0]
    have hno : NearOwn wr 0 wr.heap.size (p.1, .slice pa p.1.near.length pc) := by rw [hpe] at hno1; exact hno1
    clear hs0 hpe hno0 hno1 hnr hpn
    have BA : Below wr.heap.size wr (wr.alloc (.cells #[.int .i64 p.1.area, .int .i64 p.1.kind, .int .i64 p.1.owner, .int .i64 p.1.key, .int .i64 p.1.seq, .slice pa p.1.near.length pc, .int .i64 p.1.cost, .bool p.1.far] 39)) := (Below.refl _ _).alloc (Nat.le_refl _) _
    have hno2 : NearOwn (wr.alloc (.cells #[.int .i64 p.1.area, .int .i64 p.1.kind, .int .i64 p.1.owner, .int .i64 p.1.key, .int .i64 p.1.seq, .slice pa p.1.near.length pc, .int .i64 p.1.cost, .bool p.1.far] 39)) 0 (wr.alloc (.cells #[.int .i64 p.1.area, .int .i64 p.1.kind, .int .i64 p.1.owner, .int .i64 p.1.key, .int .i64 p.1.seq, .slice pa p.1.near.length pc, .int .i64 p.1.cost, .bool p.1.far] 39)).heap.size (p.1, .slice pa p.1.near.length pc) := (hno.keep (W' := (wr.alloc (.cells #[.int .i64 p.1.area, .int .i64 p.1.kind, .int .i64 p.1.owner, .int .i64 p.1.key, .int .i64 p.1.seq, .slice pa p.1.near.length pc, .int .i64 p.1.cost, .bool p.1.far] 39))) (fun j _ _ h3 => BA.block j h3)).wide (Nat.le_refl _) BA.size
    have HP := hide (put_any (.slice xa qs.length xc) qs (wr.alloc (.cells #[.int .i64 p.1.area, .int .i64 p.1.kind, .int .i64 p.1.owner, .int .i64 p.1.key, .int .i64 p.1.seq, .slice pa p.1.near.length pc, .int .i64 p.1.cost, .bool p.1.far] 39)).heap.size (p.1, .slice pa p.1.near.length pc) (wr.alloc (.cells #[.int .i64 p.1.area, .int .i64 p.1.kind, .int .i64 p.1.owner, .int .i64 p.1.key, .int .i64 p.1.seq, .slice pa p.1.near.length pc, .int .i64 p.1.cost, .bool p.1.far] 39)) ((hin.below BA (Nat.le_refl _)).wide BA.size) (Nat.le_refl _) (by omega) hno2)
    have HF2 := hide (show fsts (putL qs (p.1, .slice pa p.1.near.length pc)) = withD (fsts ps) ((fsts ts).take (k + 1)) by
     rw [putL_fsts, withD_step (fsts_at hp), ← HF.out, hse])
    have htp := tot_put qs (p.1, .slice pa p.1.near.length pc)
    have HB := hide (hnx.trans (BA.mono hnx.size))
    have HTK := hide htk
    have htp2 : tot (putL qs (p.1, .slice pa p.1.near.length pc)) ≤ tot qs + (1 + p.1.near.length) := htp
    obtain ⟨Q, hQ⟩ : ∃ Q, Q = putL qs (p.1, .slice pa p.1.near.length pc) := ⟨_, rfl⟩
    rw [← hQ] at HP HF2 htp2
    unfold recC at HP
    simp only [] at HP
    clear hno hno2 hin hse htp hp HF htk hQ
    go_wp2_with fail
    refine HP.out.mono ?_
    rintro e w2 ⟨y, rfl, hy, b2⟩
    obtain ⟨ya, yc, rfl⟩ := owns_lenS hy.row
    have HY := hide hy
    have HB2 := hide (HB.out.trans (b2.mono HB.out.size))
    clear hy b2 HP HB BA
    go_wp2
    go_roundw
    case rel => exact ⟨k + 1, _, Q, by omega, by go_num, rfl, HY.out, HF2, by have := HTK.out; omega, HB2.out⟩
    case measure => simp [intOf]; omega
  ·have hkn : ¬ (k : Int) < (ts.length : Int) := by omega
   have HE := hide (show fsts qs = withD (fsts ps) (fsts ts) by have h := HF.out; rw [List.take_of_length_le (by simp [fsts]; omega)] at h; exact h)
   have HI := hide hin
   have hq : tot qs ≤ tot ps + tot ts := by have := tot_takeL ts k; omega
   clear hin HF
   go_wp2
   go_ret
   first
    | exact ⟨_, qs, rfl, HE.out, HI.out, hq, hnx⟩
    | exact ⟨_, rfl, qs, HE.out, HI.out, hq, hnx⟩
end Go.Proofs.YtmijnjnihhemgaaGreat
namespace Go.Proofs.YtmijnjnihhemgaaGreat

def IsNode (v : Nat) : Prop := 1 ≤ v ∧ v ≤ 6

structure Links (L : Nat → Nat → Int) (K : Int) : Prop where
 pos : ∀ u v, 0 ≤ L u v
 le : ∀ u v, L u v ≤ K
 node : ∀ u v, 0 < L u v → IsNode u ∧ IsNode v

def OverHop (src : Nat) (h : Nat → List Int) (u v : Nat) (x : Int) : Prop := (u = src ∧ x = (v : Int)) ∨ (u ≠ src ∧ x ∈ h u)

structure Inv (L : Nat → Nat → Int) (src : Nat) (F : Nat → Bool) (c : Nat → Int) (h : Nat → List Int) : Prop where
 fnode : ∀ v, F v = true → IsNode v ∧ 0 ≤ c v
 cnode : ∀ v, 0 ≤ c v → IsNode v
 start : c src = 0
 start0 : h src = []
 closed : ∀ u v, F u = true → 0 < L u v → 0 ≤ c v ∧ c v ≤ c u + L u v
 pred : ∀ v, v ≠ src → 0 ≤ c v → ∃ u, F u = true ∧ 0 < L u v ∧ c v = c u + L u v
 mono : ∀ u v, F u = true → F v = false → 0 ≤ c v → c u ≤ c v
 hop : ∀ v, v ≠ src → ∀ x, x ∈ h v ↔ 0 ≤ c v ∧ ∃ u, F u = true ∧ 0 < L u v ∧ c v = c u + L u v ∧ OverHop src h u v x
 asc : ∀ v, (h v).Pairwise (· < ·)
 rng : ∀ v x, x ∈ h v → 1 ≤ x ∧ x ≤ 6

def relaxC (L : Nat → Nat → Int) (c : Nat → Int) (u v : Nat) : Int :=
 if 0 < L u v ∧ (c v < 0 ∨ c u + L u v < c v) then c u + L u v else c v

theorem relaxC_le {L : Nat → Nat → Int} {c : Nat → Int} {u v : Nat} (h : 0 ≤ c v) : relaxC L c u v ≤ c v := by
 unfold relaxC; split <;> omega

theorem relaxC_nn {L : Nat → Nat → Int} {c : Nat → Int} {u v : Nat} (hu : 0 ≤ c u) (h : 0 ≤ c v) : 0 ≤ relaxC L c u v := by
 unfold relaxC; split <;> omega

theorem relaxC_same {L : Nat → Nat → Int} {c : Nat → Int} {u v : Nat} (h0 : 0 ≤ c v) (h : c v ≤ c u) : relaxC L c u v = c v := by
 unfold relaxC; split <;> omega

structure RelaxH (L : Nat → Nat → Int) (src : Nat) (c : Nat → Int) (h : Nat → List Int) (u v : Nat) (h' : List Int) : Prop where
 asc : h'.Pairwise (· < ·)
 mem : ∀ x, x ∈ h' ↔ ((x ∈ h v ∧ relaxC L c u v = c v) ∨ (0 < L u v ∧ relaxC L c u v = c u + L u v ∧ OverHop src h u v x))

theorem Inv.step {L : Nat → Nat → Int} {K : Int} {src : Nat} {F : Nat → Bool} {c : Nat → Int} {h : Nat → List Int} (I : Inv L src F c h) (hL : Links L K)
  {u : Nat} (hu : F u = false) (hcu : 0 ≤ c u) (hmin : ∀ v, F v = false → 0 ≤ c v → c u ≤ c v) {h' : Nat → List Int} (hh : ∀ v, RelaxH L src c h u v (h' v)) :
  Inv L src (fun v => F v || v == u) (fun v => relaxC L c u v) h' := by
 have hup : ∀ v, F v = true → c v ≤ c u := fun v hv => I.mono v u hv hu hcu
 have keep : ∀ v, F v = true → relaxC L c u v = c v := fun v hv => relaxC_same (I.fnode v hv).2 (hup v hv)
 have keepu : relaxC L c u u = c u := relaxC_same hcu (Int.le_refl _)
 have hsrc : relaxC L c u src = 0 := by
  have := I.start
  unfold relaxC; split <;> omega
 have hFn : ∀ v, F v = true → v ≠ u := fun v hv e => by rw [e, hu] at hv; cases hv
 -- hops of done nodes and of u stay
 have hsame : ∀ v, 0 ≤ c v → c v ≤ c u → ∀ x, x ∈ h' v ↔ x ∈ h v := by
  intro v h0 hv x
  rw [(hh v).mem x]
  have e := relaxC_same (L := L) h0 hv
  constructor
  ·rintro (⟨h1, _⟩ | ⟨h1, h2, _⟩)
   ·exact h1
   ·omega
  ·intro h1; exact .inl ⟨h1, e⟩
 have hover : ∀ w, (F w = true ∨ w = u) → ∀ v x, OverHop src h' w v x ↔ OverHop src h w v x := by
  intro w hw v x
  have : ∀ x, x ∈ h' w ↔ x ∈ h w := by
   rcases hw with hw | rfl
   ·exact hsame w (I.fnode w hw).2 (hup w hw)
   ·exact hsame _ hcu (Int.le_refl _)
  unfold OverHop; rw [this x]
 have hFu : ∀ v, (F v || v == u) = true ↔ (F v = true ∨ v = u) := by
  intro v; simp
 refine ⟨?_, ?_, hsrc, ?_, ?_, ?_, ?_, ?_, fun v => (hh v).asc, ?_⟩
 ·intro v hv
  rcases (hFu v).1 hv with h1 | rfl
  ·refine ⟨(I.fnode v h1).1, ?_⟩
   show 0 ≤ relaxC L c u v
   rw [keep v h1]; exact (I.fnode v h1).2
  ·refine ⟨I.cnode _ hcu, ?_⟩
   show 0 ≤ relaxC L c _ _
   rw [keepu]; exact hcu
 ·intro v hv
  have hv' : 0 ≤ relaxC L c u v := hv
  unfold relaxC at hv'
  split at hv'
  ·rename_i h1; exact (hL.node u v h1.1).2
  ·exact I.cnode v hv'
 ·have : ∀ x, x ∉ h' src := by
   intro x hx
   rw [(hh src).mem x, I.start0] at hx
   rcases hx with ⟨h1, _⟩ | ⟨h1, h2, _⟩
   ·cases h1
   ·rw [hsrc] at h2; omega
  exact List.eq_nil_iff_forall_not_mem.2 this
 ·intro w v hw hl
  show 0 ≤ relaxC L c u v ∧ relaxC L c u v ≤ relaxC L c u w + L w v
  rcases (hFu w).1 hw with h1 | rfl
  ·rw [keep w h1]
   have := I.closed w v h1 hl
   have h2 := relaxC_le (L := L) (u := u) this.1
   have h3 := relaxC_nn (L := L) hcu this.1
   omega
  ·rw [keepu]
   unfold relaxC
   split <;> omega
 ·intro v hv h0
  have h0' : 0 ≤ relaxC L c u v := h0
  show ∃ w, (F w || w == u) = true ∧ 0 < L w v ∧ relaxC L c u v = relaxC L c u w + L w v
  by_cases h1 : 0 < L u v ∧ (c v < 0 ∨ c u + L u v < c v)
  ·refine ⟨u, by simp, h1.1, ?_⟩
   rw [keepu]; unfold relaxC; rw [if_pos h1]
  ·have e : relaxC L c u v = c v := by unfold relaxC; rw [if_neg h1]
   rw [e] at h0' ⊢
   obtain ⟨w, hw, hl, hc⟩ := I.pred v hv h0'
   exact ⟨w, by simp [hw], hl, by rw [keep w hw]; exact hc⟩
 ·intro w v hw hv h0
  have h0' : 0 ≤ relaxC L c u v := h0
  have hv1 : F v = false := by cases hfv : F v <;> simp [hfv] at hv ⊢
  show relaxC L c u w ≤ relaxC L c u v
  have hwc : relaxC L c u w ≤ c u := by
   rcases (hFu w).1 hw with h1 | rfl
   ·rw [keep w h1]; exact hup w h1
   ·rw [keepu]; omega
  have huv : c u ≤ relaxC L c u v := by
   by_cases h1 : 0 < L u v ∧ (c v < 0 ∨ c u + L u v < c v)
   ·unfold relaxC; rw [if_pos h1]; omega
   ·have e : relaxC L c u v = c v := by unfold relaxC; rw [if_neg h1]
    rw [e] at h0' ⊢
    exact hmin v hv1 h0'
  omega
 ·intro v hv x
  show x ∈ h' v ↔ 0 ≤ relaxC L c u v ∧ ∃ w, (F w || w == u) = true ∧ 0 < L w v ∧ relaxC L c u v = relaxC L c u w + L w v ∧ OverHop src h' w v x
  rw [(hh v).mem x]
  constructor
  ·rintro (⟨h1, h2⟩ | ⟨h1, h2, h3⟩)
   ·obtain ⟨h0, w, hw, hl, hc, ho⟩ := (I.hop v hv x).1 h1
    rw [h2]
    exact ⟨h0, w, by simp [hw], hl, by rw [keep w hw]; exact hc, (hover w (.inl hw) v x).2 ho⟩
   ·refine ⟨by omega, u, by simp, h1, by rw [keepu]; exact h2, (hover u (.inr rfl) v x).2 h3⟩
  ·rintro ⟨h0, w, hw, hl, hc, ho⟩
   rcases (hFu w).1 hw with h1 | rfl
   ·rw [keep w h1] at hc
    have hcl := I.closed w v h1 hl
    have h3 := relaxC_le (L := L) (u := u) hcl.1
    have e : relaxC L c u v = c v := by omega
    refine .inl ⟨(I.hop v hv x).2 ⟨hcl.1, w, h1, hl, by omega, (hover w (.inl h1) v x).1 ho⟩, e⟩
   ·rw [keepu] at hc
    exact .inr ⟨hl, hc, (hover _ (.inr rfl) v x).1 ho⟩
 ·intro v x hx
  rw [(hh v).mem x] at hx
  rcases hx with ⟨h1, _⟩ | ⟨h1, _, h3⟩
  ·exact I.rng v x h1
  ·rcases h3 with ⟨_, rfl⟩ | ⟨_, h4⟩
   ·have := (hL.node u v h1).2; unfold IsNode at this; omega
   ·exact I.rng u x h4

theorem asc_ext : ∀ {a b : List Int}, a.Pairwise (· < ·) → b.Pairwise (· < ·) → (∀ x, x ∈ a ↔ x ∈ b) → a = b
 | [], [], _, _, _ => rfl
 | [], y :: ys, _, _, h => by have := (h y).2 (by simp); cases this
 | x :: xs, [], _, _, h => by have := (h x).1 (by simp); cases this
 | x :: xs, y :: ys, ha, hb, h => by
  have ha' := List.pairwise_cons.1 ha
  have hb' := List.pairwise_cons.1 hb
  have hxy : x = y := by
   have h1 := (h x).1 (by simp)
   have h2 := (h y).2 (by simp)
   rcases List.mem_cons.1 h1 with e | e
   ·exact e
   ·rcases List.mem_cons.1 h2 with e2 | e2
    ·exact e2.symm
    ·have := ha'.1 y e2; have := hb'.1 x e; omega
  subst hxy
  have : xs = ys := by
   refine asc_ext ha'.2 hb'.2 (fun z => ?_)
   have hz := h z
   constructor
   ·intro hm
    have h1 := hz.1 (List.mem_cons_of_mem _ hm)
    rcases List.mem_cons.1 h1 with e | e
    ·have := ha'.1 z hm; omega
    ·exact e
   ·intro hm
    have h1 := hz.2 (List.mem_cons_of_mem _ hm)
    rcases List.mem_cons.1 h1 with e | e
    ·have := hb'.1 z hm; omega
    ·exact e
  rw [this]

def Fix (L : Nat → Nat → Int) (src : Nat) (c : Nat → Int) (h : Nat → List Int) : Prop := ∃ F, Inv L src F c h ∧ ∀ v, 0 ≤ c v → F v = true

theorem Fix.cost_le {L : Nat → Nat → Int} {src : Nat} {c d : Nat → Int} {h g : Nat → List Int} (A : Fix L src c h) (B : Fix L src d g) :
  ∀ (n : Nat) (v : Nat), 0 ≤ c v → (c v).toNat ≤ n → 0 ≤ d v ∧ d v ≤ c v := by
 obtain ⟨F, I, hF⟩ := A
 obtain ⟨G, J, hG⟩ := B
 intro n
 induction n with
 | zero =>
  intro v h0 hn
  by_cases hv : v = src
  ·subst hv; rw [J.start]; omega
  ·obtain ⟨u, hu, hl, hc⟩ := I.pred v hv h0
   have := (I.fnode u hu).2
   omega
 | succ n ih =>
  intro v h0 hn
  by_cases hv : v = src
  ·subst hv; rw [J.start, I.start]; omega
  ·obtain ⟨u, hu, hl, hc⟩ := I.pred v hv h0
   have h1 := (I.fnode u hu).2
   have h2 := ih u h1 (by omega)
   have h3 := J.closed u v (hG u h2.1) hl
   omega

theorem Fix.cost {L : Nat → Nat → Int} {src : Nat} {c d : Nat → Int} {h g : Nat → List Int} (A : Fix L src c h) (B : Fix L src d g) (v : Nat) (h0 : 0 ≤ c v) : d v = c v := by
 have h1 := A.cost_le B _ v h0 (Nat.le_refl _)
 have h2 := B.cost_le A _ v h1.1 (Nat.le_refl _)
 omega

theorem Fix.hops_sub {L : Nat → Nat → Int} {src : Nat} {c d : Nat → Int} {h g : Nat → List Int} (A : Fix L src c h) (B : Fix L src d g) :
  ∀ (n : Nat) (v : Nat), 0 ≤ c v → (c v).toNat ≤ n → ∀ x, x ∈ h v → x ∈ g v := by
 have hcost := A.cost B
 obtain ⟨F, I, hF⟩ := A
 obtain ⟨G, J, hG⟩ := B
 intro n
 induction n with
 | zero =>
  intro v h0 hn x hx
  by_cases hv : v = src
  ·subst hv; rw [I.start0] at hx; cases hx
  ·obtain ⟨u, hu, hl, hc⟩ := I.pred v hv h0
   have := (I.fnode u hu).2
   omega
 | succ n ih =>
  intro v h0 hn x hx
  by_cases hv : v = src
  ·subst hv; rw [I.start0] at hx; cases hx
  ·obtain ⟨_, u, hu, hl, hc, ho⟩ := (I.hop v hv x).1 hx
   have h1 := (I.fnode u hu).2
   have eu := hcost u h1
   have ev := hcost v h0
   refine (J.hop v hv x).2 ⟨by omega, u, hG u (by omega), hl, by omega, ?_⟩
   rcases ho with h3 | ⟨h3, h4⟩
   ·exact .inl h3
   ·exact .inr ⟨h3, ih u h1 (by omega) x h4⟩

theorem Fix.hops {L : Nat → Nat → Int} {src : Nat} {c d : Nat → Int} {h g : Nat → List Int} (A : Fix L src c h) (B : Fix L src d g) (v : Nat) (h0 : 0 ≤ c v) : g v = h v := by
 have e := A.cost B v h0
 have sub1 := A.hops_sub B _ v h0 (Nat.le_refl _)
 have sub2 := B.hops_sub A _ v (by omega : 0 ≤ d v) (Nat.le_refl _)
 obtain ⟨F, I, _⟩ := A
 obtain ⟨G, J, _⟩ := B
 exact asc_ext (J.asc v) (I.asc v) (fun x => ⟨sub2 x, sub1 x⟩)

theorem Inv.init {L : Nat → Nat → Int} {src : Nat} (hs : IsNode src) : Inv L src (fun _ => false) (fun v => if v = src then 0 else -1) (fun _ => []) := by
 refine ⟨by simp, ?_, by simp, rfl, by simp, ?_, by simp, ?_, by simp, by simp⟩
 ·intro v hv
  have hv' : (0 : Int) ≤ if v = src then 0 else -1 := hv
  split at hv'
  ·rename_i e; rw [e]; exact hs
  ·omega
 ·intro v hv h0
  have h0' : (0 : Int) ≤ if v = src then 0 else -1 := h0
  rw [if_neg hv] at h0'; omega
 ·intro v hv x
  simp [hv]
end Go.Proofs.YtmijnjnihhemgaaGreat
