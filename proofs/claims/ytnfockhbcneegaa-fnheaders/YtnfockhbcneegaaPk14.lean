/-
  spec.Merge: its contract.
  slices.BinarySearchFunc at lists of records: its contract.
  A record put into a list in order: the plain mathematics.
  A record put over one of a list of the caller's own.
  impl's put: a record put into a list in order.
  impl.ownRecords, takes: their contracts.
  laws.markRecordS: just the list's own blocks turn.
  impl.merged: a list put into a right store, and what of it is new.
  impl.Merge: its contract.
  spec.Install, impl.Install: their contracts.
  spec.Install: its contract; how long a store can be.
  laws.same at a record and itself.
  laws.newest, laws.sameStore: their contracts.
  spec.Find, impl.Find: their contracts.
  Records put into a store in any order: the plain mathematics.
  spec.Newer, impl.Newer: their contracts.
  impl.Newer: its contract.
  Two stores merged: the plain mathematics.
  spec.l05Store, DrawStores: right stores.
  spec.Scope, impl.Scope: their contracts, at lists that may share rows.
-/
import Derived.Test.YtnfockhbcneegaaPk13
import Derived.Test.YtnfockhbcneegaaPk8
import Derived.Test.YtnfockhbcneegaaPk6
import Derived.Test.YtnfockhbcneegaaPk5
import Derived.Test.YtnfockhbcneegaaPk2
import Derived.Test.YtnfockhbcneegaaPk12
import Derived.Deep.RegionHeld3
import Derived.Test.YtnfockhbcneegaaPk3
namespace Go.Proofs.Ytnfockhbcneegaa
open Go.RowKit

set_option linter.unusedSimpArgs false

theorem before_asym {x y : RecD} (h : beforeB x y = true) : beforeB y x = false := by
  unfold beforeB at *
  simp only [Bool.or_eq_true, Bool.and_eq_true, decide_eq_true_eq, beq_iff_eq] at h
  simp only [Bool.or_eq_false_iff, Bool.and_eq_false_iff, decide_eq_false_iff_not, beq_eq_false_iff_ne]
  omega

end Go.Proofs.Ytnfockhbcneegaa
namespace Go.Proofs.Ytnfockhbcneegaa
open Go.RowKit

set_option linter.unusedSimpArgs false

end Go.Proofs.Ytnfockhbcneegaa
namespace Go.Proofs.Ytnfockhbcneegaa
open Go.RowKit

theorem bef_trans {x y z : RecD} (h1 : beforeB x y = true) (h2 : beforeB y z = true) : beforeB x z = true := by
  unfold beforeB at *
  simp only [Bool.or_eq_true, Bool.and_eq_true, decide_eq_true_eq, beq_iff_eq] at *
  omega

theorem bef_irrefl_same {x y : RecD} (h1 : sameKeyB x y = true) : beforeB x y = false ∧ beforeB y x = false := by
  unfold beforeB sameKeyB at *
  simp only [Bool.or_eq_false_iff, Bool.and_eq_false_iff, decide_eq_false_iff_not, beq_eq_false_iff_ne, Bool.and_eq_true, beq_iff_eq] at *
  omega

theorem bef_tri (x y : RecD) : beforeB x y = true ∨ sameKeyB x y = true ∨ beforeB y x = true := by
  unfold beforeB sameKeyB
  simp only [Bool.or_eq_true, Bool.and_eq_true, decide_eq_true_eq, beq_iff_eq]
  omega

/-- in order -/
def Asc (xs : List RecD) : Prop := xs.Pairwise (fun x y => beforeB x y = true)

theorem asc_of {xs : List RecD} (h : ascB ordR xs = true) : Asc xs := by
  unfold Asc
  rw [List.pairwise_iff_getElem]
  have step : ∀ i (h2 : i + 1 < xs.length), beforeB xs[i] xs[i + 1] = true := by
    intro i h2
    have h3 := List.all_eq_true.1 h (i + 1) (List.mem_range.2 h2)
    rw [ascAt_eq (List.getElem?_eq_getElem (by omega)) (List.getElem?_eq_getElem h2), ordR_neg] at h3
    exact h3
  have main : ∀ d i (h2 : i + 1 + d < xs.length), beforeB xs[i] (xs[i + 1 + d]) = true := by
    intro d
    induction d with
    | zero => intro i h2; exact step i h2
    | succ d ih => intro i h2; exact bef_trans (ih i (by omega)) (step (i + 1 + d) h2)
  intro i j hi hj hij
  have h2 := main (j - i - 1) i (by omega)
  have e : i + 1 + (j - i - 1) = j := by omega
  simp only [e] at h2
  exact h2

theorem asc_back {xs : List RecD} (h : Asc xs) : ascB ordR xs = true := by
  unfold Asc at h
  rw [List.pairwise_iff_getElem] at h
  refine all_true fun j hj => ?_
  cases j with
  | zero => rfl
  | succ k =>
    rw [ascAt_eq (List.getElem?_eq_getElem (by omega)) (List.getElem?_eq_getElem hj), ordR_neg]
    exact h k (k + 1) (by omega) hj (by omega)

/-- what l05Put makes of keys in order -/
def putD (xs : List RecD) (r : RecD) : List RecD := xs.filter (fun x => beforeB x r) ++ [r] ++ xs.filter (fun x => beforeB r x)

theorem putL_fsts (ps : List RP) (r : RP) : fsts (putL ps r) = putD (fsts ps) r.1 := by
  unfold putL putD fsts
  simp [List.filter_map, Function.comp_def]

section
variable {xs : List RecD} {r : RecD} {i : Nat}

end
end Go.Proofs.Ytnfockhbcneegaa
namespace Go.Proofs.Ytnfockhbcneegaa
open Go.RowKit

theorem Apart.symm {p q : RP} (h : Apart p q) : Apart q p := fun k hk hp => h k hp hk

theorem nears_kept {W W2 : World} {lo : Nat} {v : Value} {ps : List RP} (h : RecsOwn W lo W.heap.size v ps) (hg : W.grownBy W2 v.ownBlock) {q : RP} (hq : NearOwn W lo W.heap.size q) : NearOwn W2 lo W2.heap.size q :=
  ⟨owns_keepB hq.1 (fun j hj => hg.block j (hq.2 j hj) (near_row_ne hq h.row j hj)), fun k hk => Nat.lt_of_lt_of_le (hq.2 k hk) hg.size⟩

theorem RecsOwn.put {W : World} {lo i g cap n : Nat} {ps : List RP} {r : RP} (h : RecsOwn W lo W.heap.size (.slice (some ⟨g, 0, none⟩) n cap) ps) (hn : n = ps.length) (hr : NearOwn W lo W.heap.size r) (hap : ∀ p ∈ ps, Apart p r) (hi : i < ps.length) : RecsOwn (putP W g (i * 8) r) lo (putP W g (i * 8) r).heap.size (.slice (some ⟨g, 0, none⟩) n cap) (ps.set i r) := by
  subst hn
  have hst := putP_owns (p := r) h.row hi
  have hg : W.grownBy (putP W g (i * 8) r) (Value.slice (some ⟨g, 0, none⟩) ps.length cap).ownBlock := putP_grown W g (i * 8) r
  refine ⟨by simpa using hst, fun k hk => (hst.lt k hk).2, ?_, ?_⟩
  · intro q hq
    refine nears_kept h hg ?_
    rcases List.mem_or_eq_of_mem_set hq with h1 | h1
    · exact h.nears q h1
    · subst h1; exact hr
  · have hp := h.apart
    rw [List.pairwise_iff_getElem] at hp ⊢
    intro a b ha hb hab
    simp only [List.length_set] at ha hb
    rw [List.getElem_set, List.getElem_set]
    by_cases e1 : i = a
    · rw [if_pos e1, if_neg (by omega)]
      exact (hap _ (List.getElem_mem hb)).symm
    · rw [if_neg e1]
      by_cases e2 : i = b
      · rw [if_pos e2]
        exact hap _ (List.getElem_mem ha)
      · rw [if_neg e2]
        exact hp a b ha hb hab

theorem fsts_set (ps : List RP) (r : RP) (i : Nat) : fsts (ps.set i r) = (fsts ps).set i r.1 := by simp [fsts, List.map_set]

end Go.Proofs.Ytnfockhbcneegaa
namespace Go.Proofs.Ytnfockhbcneegaa
open Go.RowKit

set_option linter.unusedSimpArgs false

end Go.Proofs.Ytnfockhbcneegaa
namespace Go.Proofs.Ytnfockhbcneegaa
open Go.RowKit

set_option linter.unusedSimpArgs false

end Go.Proofs.Ytnfockhbcneegaa
namespace Go.Proofs.Ytnfockhbcneegaa
open Go.RowKit

/-- only blocks of S turn -/
structure FrameS (S : Nat → Prop) (w w' : World) : Prop where
  os : w'.os = w.os
  tape : w'.tape = w.tape
  output : w'.output = w.output
  size : w.heap.size ≤ w'.heap.size
  block : ∀ k, k < w.heap.size → ¬ S k → w'.heap[k]? = w.heap[k]?

theorem FrameS.refl (S : Nat → Prop) (w : World) : FrameS S w w := ⟨rfl, rfl, rfl, Nat.le_refl _, fun _ _ _ => rfl⟩

theorem FrameS.trans {S : Nat → Prop} {a b c : World} (h : FrameS S a b) (k : FrameS S b c) : FrameS S a c :=
  ⟨k.os.trans h.os, k.tape.trans h.tape, k.output.trans h.output, Nat.le_trans h.size k.size, fun i hi hr => (k.block i (Nat.lt_of_lt_of_le hi h.size) hr).trans (h.block i hi hr)⟩

theorem FrameS.grown {S : Nat → Prop} {a b : World} {row : Option Nat} (g : a.grownBy b row) (hr : ∀ k, row = some k → S k) : FrameS S a b :=
  ⟨g.os, g.tape, g.output, g.size, fun k hk hh => g.block k hk (fun e => hh (hr k e.symm))⟩

theorem FrameS.mono {S T : Nat → Prop} {a b : World} (h : FrameS S a b) (hs : ∀ k, S k → T k) : FrameS T a b := ⟨h.os, h.tape, h.output, h.size, fun k hk hh => h.block k hk (fun e => hh (hs k e))⟩

theorem FrameS.frame {S : Nat → Prop} {lo hi : Nat} {a b : World} (h : FrameS S a b) (hs : ∀ k, S k → lo ≤ k ∧ k < hi) : Frame lo hi a b := ⟨h.os, h.tape, h.output, h.size, fun k hk hh => h.block k hk (fun e => by have := hs k e; omega)⟩

end Go.Proofs.Ytnfockhbcneegaa
namespace Go.Proofs.Ytnfockhbcneegaa
open Go.RowKit

set_option linter.unusedSimpArgs false

def instD (xs : List RecD) (r : RecD) : List RecD := if takesB xs r then putD xs r else xs

theorem instL_fsts (ps : List RP) (r : RP) : fsts (instL ps r) = instD (fsts ps) r.1 := by
  unfold instL instD
  cases takesB (fsts ps) r.1
  · rfl
  · exact putL_fsts ps r

theorem asc_filter {xs : List RecD} (h : Asc xs) (f : RecD → Bool) : Asc (xs.filter f) := List.Pairwise.filter f h

theorem asc_putD {xs : List RecD} (h : Asc xs) (r : RecD) : Asc (putD xs r) := by
  unfold putD Asc
  rw [List.append_assoc, List.pairwise_append]
  refine ⟨asc_filter h _, ?_, ?_⟩
  · rw [List.pairwise_append]
    refine ⟨by simp, asc_filter h _, ?_⟩
    intro a ha b hb
    have : a = r := by simpa using ha
    subst this
    simpa using (List.mem_filter.1 hb).2
  · intro a ha b hb
    have h1 : beforeB a r = true := by simpa using (List.mem_filter.1 ha).2
    rcases List.mem_append.1 hb with h2 | h2
    · have : b = r := by simpa using h2
      subst this
      exact h1
    · have h3 : beforeB r b = true := by simpa using (List.mem_filter.1 h2).2
      exact bef_trans h1 h3

theorem store_asc_of {xs : List RecD} (h : storeB xs = true) : Asc xs := by
  unfold storeB at h
  simp only [Bool.and_eq_true] at h
  exact asc_of h.2

end Go.Proofs.Ytnfockhbcneegaa
namespace Go.Proofs.Ytnfockhbcneegaa
open Go.RowKit

end Go.Proofs.Ytnfockhbcneegaa
namespace Go.Proofs.Ytnfockhbcneegaa
open Go.RowKit

set_option linter.unusedSimpArgs false

end Go.Proofs.Ytnfockhbcneegaa
namespace Go.Proofs.Ytnfockhbcneegaa
open Go.RowKit

set_option linter.unusedSimpArgs false

theorem allOk_at {α : Type} {f : α → Bool} {xs : List α} (h : allOk f xs = true) (i : Nat) (hi : i < xs.length) : f xs[i] = true := by
  have h1 := List.all_eq_true.1 h i (List.mem_range.2 hi)
  unfold okAt at h1
  rw [List.getElem?_eq_getElem hi] at h1
  exact h1

theorem nears_le {o : Int} {ns : List Nr} (h : nearsB o ns = true) : ns.length ≤ 6 := by
  unfold nearsB at h
  simp only [Bool.and_eq_true] at h
  have hb : ∀ i (hi : i < ns.length), (i : Int) + 1 ≤ ns[i].to := by
    intro i
    induction i with
    | zero =>
      intro hi
      have h1 := allOk_at h.1 0 hi
      unfold nearOkB inB at h1
      simp only [Bool.and_eq_true, decide_eq_true_eq] at h1
      omega
    | succ i ih =>
      intro hi
      have h1 := ih (by omega)
      have h2 := List.all_eq_true.1 h.2 (i + 1) (List.mem_range.2 hi)
      rw [ascAt_eq (List.getElem?_eq_getElem (by omega)) (List.getElem?_eq_getElem hi)] at h2
      unfold ordN at h2
      simp only [decide_eq_true_eq] at h2
      omega
  cases Nat.lt_or_ge 6 ns.length with
  | inr h0 => exact h0
  | inl h0 =>
    have h1 := hb 6 h0
    have h2 := allOk_at h.1 6 h0
    unfold nearOkB inB at h2
    simp only [Bool.and_eq_true, decide_eq_true_eq] at h2
    omega

theorem recOk_near {x : RecD} (h : recOkB x = true) : x.near.length ≤ 6 := by
  unfold recOkB at h
  simp only [Bool.and_eq_true] at h
  have h2 := h.2
  split at h2
  · simp only [Bool.and_eq_true] at h2
    exact nears_le h2.1.1.2
  · split at h2
    · simp only [Bool.and_eq_true, beq_iff_eq] at h2
      omega
    · split at h2
      · simp only [Bool.and_eq_true, beq_iff_eq] at h2
        omega
      · cases h2

theorem totD_le {xs : List RecD} (h : ∀ x ∈ xs, recOkB x = true) : totD xs ≤ xs.length * 7 := by
  induction xs with
  | nil => simp [totD]
  | cons x xs ih =>
    rw [totD_cons, List.length_cons]
    have h1 := ih (fun y hy => h y (List.mem_cons_of_mem _ hy))
    have h2 := recOk_near (h x (List.mem_cons_self ..))
    omega

theorem store_ok {xs : List RecD} (h : storeB xs = true) : xs.length ≤ 150 ∧ (∀ x ∈ xs, recOkB x = true) ∧ Asc xs := by
  have h1 := store_asc_of h
  unfold storeB at h
  simp only [Bool.and_eq_true, decide_eq_true_eq] at h
  refine ⟨h.1.1, ?_, h1⟩
  intro x hx
  obtain ⟨i, hi, e⟩ := List.getElem_of_mem hx
  rw [← e]
  exact allOk_at h.1.2 i hi

theorem store_tot {xs : List RecD} (h : storeB xs = true) : totD xs ≤ 1050 := by
  have h1 := store_ok h
  have h2 := totD_le h1.2.1
  omega

theorem takes_ok {xs : List RecD} {r : RecD} (h : takesB xs r = true) : recOkB r = true := by
  unfold takesB at h
  simp only [Bool.and_eq_true] at h
  exact h.1

end Go.Proofs.Ytnfockhbcneegaa
namespace Go.Proofs.Ytnfockhbcneegaa
open Go.RowKit

set_option linter.unusedSimpArgs false

end Go.Proofs.Ytnfockhbcneegaa
namespace Go.Proofs.Ytnfockhbcneegaa
open Go.RowKit

set_option linter.unusedSimpArgs false

end Go.Proofs.Ytnfockhbcneegaa
namespace Go.Proofs.Ytnfockhbcneegaa
open Go.RowKit

set_option linter.unusedSimpArgs false

end Go.Proofs.Ytnfockhbcneegaa
namespace Go.Proofs.Ytnfockhbcneegaa
open Go.RowKit

theorem same_symm {x y : RecD} (h : sameKeyB x y = true) : sameKeyB y x = true := by
  unfold sameKeyB at *
  simp only [Bool.and_eq_true, beq_iff_eq] at *
  omega

theorem same_trans {x y z : RecD} (h : sameKeyB x y = true) (h2 : sameKeyB y z = true) : sameKeyB x z = true := by
  unfold sameKeyB at *
  simp only [Bool.and_eq_true, beq_iff_eq] at *
  omega

theorem same_refl (x : RecD) : sameKeyB x x = true := by simp [sameKeyB]

theorem bef_not_same {x y : RecD} (h : beforeB x y = true) : sameKeyB x y = false := by
  cases hs : sameKeyB x y with
  | false => rfl
  | true => rw [(bef_irrefl_same hs).1] at h; cases h

/-- of one key there is one -/
theorem asc_uniq {xs : List RecD} (h : Asc xs) {x y : RecD} (hx : x ∈ xs) (hy : y ∈ xs) (hs : sameKeyB x y = true) : x = y := by
  unfold Asc at h
  rw [List.pairwise_iff_getElem] at h
  obtain ⟨i, hi, ei⟩ := List.getElem_of_mem hx
  obtain ⟨j, hj, ej⟩ := List.getElem_of_mem hy
  rcases Nat.lt_trichotomy i j with hij | hij | hij
  · have h1 := h i j hi hj hij
    rw [ei, ej] at h1
    rw [bef_not_same h1] at hs
    cases hs
  · subst hij
    rw [← ei, ← ej]
  · have h1 := h j i hj hi hij
    rw [ei, ej] at h1
    have h2 := bef_not_same h1
    rw [same_symm hs] at h2
    cases h2

theorem atZ_neg {xs : List RecD} {r : RecD} (h : atZ xs r = -1) : ∀ x ∈ xs, sameKeyB x r = false := by
  intro x hx
  unfold atZ at h
  cases e : xs.findIdx? (fun x => sameKeyB x r) with
  | none =>
    rw [List.findIdx?_eq_none_iff] at e
    simpa using e x hx
  | some i => rw [e] at h; simp only [] at h; omega

theorem takes_seq {xs : List RecD} {r x : RecD} (ha : Asc xs) (h : takesB xs r = true) (hx : x ∈ xs) (hs : sameKeyB x r = true) : x.seq < r.seq := by
  rcases atZ_cases xs r with hz | ⟨j, y, hz, hy, hys⟩
  · rw [atZ_neg hz x hx] at hs; cases hs
  · rw [takes_at (takes_ok h) hz hy] at h
    have e : x = y := asc_uniq ha hx (List.mem_of_getElem? hy) (same_trans hs (same_symm hys))
    rw [e]
    simpa using h

theorem takes_not {xs : List RecD} {r : RecD} (hr : recOkB r = true) (hl : xs.length < 150) (h : takesB xs r = false) : ∃ x ∈ xs, sameKeyB x r = true ∧ r.seq ≤ x.seq := by
  rcases atZ_cases xs r with hz | ⟨j, y, hz, hy, hys⟩
  · rw [takes_none hr hz, decide_eq_true hl] at h; cases h
  · rw [takes_at hr hz hy] at h
    exact ⟨y, List.mem_of_getElem? hy, hys, by simpa using h⟩

theorem mem_putD {xs : List RecD} {r x : RecD} : x ∈ putD xs r ↔ (x ∈ xs ∧ beforeB x r = true) ∨ x = r ∨ (x ∈ xs ∧ beforeB r x = true) := by
  unfold putD
  simp

theorem two_filters (f g : RecD → Bool) (hfg : ∀ x, f x = true → g x = false) (xs : List RecD) : (xs.filter f).length + (xs.filter g).length ≤ xs.length := by
  induction xs with
  | nil => simp
  | cons x xs ih =>
    rw [List.filter_cons, List.filter_cons, List.length_cons]
    cases hf : f x with
    | true => rw [hfg x hf]; simp; omega
    | false =>
      cases g x with
      | true => simp; omega
      | false => simp; omega

theorem len_instD (xs : List RecD) (r : RecD) : (instD xs r).length ≤ xs.length + 1 := by
  unfold instD
  split
  · unfold putD
    have h := two_filters (fun x => beforeB x r) (fun x => beforeB r x) (fun x h => before_asym h) xs
    simp only [List.length_append, List.length_cons, List.length_nil]
    omega
  · omega

/-- what comes of putting ls into a store, one by one -/
structure Made (ls a : List RecD) : Prop where
  asc : Asc a
  sub : ∀ x ∈ a, x ∈ ls
  all : ∀ y ∈ ls, ∃ x ∈ a, sameKeyB x y = true ∧ y.seq ≤ x.seq

theorem Made.nil : Made [] [] := ⟨List.Pairwise.nil, by simp, by simp⟩

theorem Made.step {ls a : List RecD} {r : RecD} (h : Made ls a) (hr : recOkB r = true) (hl : a.length < 150) : Made (ls ++ [r]) (instD a r) := by
  cases ht : takesB a r with
  | false =>
    have e : instD a r = a := by unfold instD; rw [ht]; rfl
    rw [e]
    refine ⟨h.asc, fun x hx => List.mem_append_left _ (h.sub x hx), ?_⟩
    intro y hy
    rcases List.mem_append.1 hy with h1 | h1
    · exact h.all y h1
    · have : y = r := by simpa using h1
      subst this
      exact takes_not hr hl ht
  | true =>
    have e : instD a r = putD a r := by unfold instD; rw [ht]; rfl
    rw [e]
    refine ⟨asc_putD h.asc r, ?_, ?_⟩
    · intro x hx
      rcases mem_putD.1 hx with h1 | h1 | h1
      · exact List.mem_append_left _ (h.sub x h1.1)
      · rw [h1]; simp
      · exact List.mem_append_left _ (h.sub x h1.1)
    · intro y hy
      rcases List.mem_append.1 hy with h1 | h1
      · obtain ⟨x, hx, hs, hq⟩ := h.all y h1
        rcases bef_tri x r with h2 | h2 | h2
        · exact ⟨x, mem_putD.2 (.inl ⟨hx, h2⟩), hs, hq⟩
        · have h3 := takes_seq h.asc ht hx h2
          exact ⟨r, mem_putD.2 (.inr (.inl rfl)), same_trans (same_symm h2) hs, by omega⟩
        · exact ⟨x, mem_putD.2 (.inr (.inr ⟨hx, h2⟩)), hs, hq⟩
      · have : y = r := by simpa using h1
        subst this
        exact ⟨y, mem_putD.2 (.inr (.inl rfl)), same_refl y, Int.le_refl _⟩

theorem Made.store {ls a : List RecD} (h : Made ls a) (hok : ∀ x ∈ ls, recOkB x = true) (hl : a.length ≤ 150) : storeB a = true := by
  unfold storeB
  rw [decide_eq_true hl, asc_back h.asc]
  have e : allOk recOkB a = true := all_true fun j hj => by
    unfold okAt
    rw [List.getElem?_eq_getElem hj]
    exact hok _ (h.sub _ (List.getElem_mem hj))
  rw [e]
  rfl

end Go.Proofs.Ytnfockhbcneegaa
namespace Go.Proofs.Ytnfockhbcneegaa
open Go.RowKit

set_option linter.unusedSimpArgs false

/-- what t has not, or with a lesser Seq -/
def newerB (ts : List RecD) (x : RecD) : Bool := if atZ ts x < 0 then true else decide ((ts.getD (atZ ts x).toNat zeroRD).seq < x.seq)

theorem bdrewN {B n : Nat} {w w1 : World} (h : Below B w w1) : Below B w (w1.drewN n) := h.trans ⟨rfl, rfl, rfl, Nat.le_refl _, fun _ _ => rfl⟩

theorem newer_none {ts : List RecD} {x : RecD} (h : atZ ts x = -1) : newerB ts x = true := by unfold newerB; rw [h]; rfl

theorem newer_at {ts : List RecD} {x y : RecD} {k : Nat} (h : atZ ts x = (k : Int)) (hy : ts[k]? = some y) : newerB ts x = decide (y.seq < x.seq) := by
  unfold newerB
  rw [h, if_neg (by omega)]
  simp [hy]

theorem fsts_some {ps : List RP} {k : Nat} {y : RecD} (h : (fsts ps)[k]? = some y) : ∃ p, ps[k]? = some p ∧ p.1 = y := by
  simp [fsts] at h
  obtain ⟨v, hv⟩ := h
  exact ⟨(y, v), hv, rfl⟩

set_option maxRecDepth 100000 in
set_option maxHeartbeats 4000000 in
theorem snewer_any (v v2 : Value) (ps ts : List RP) (lo hi lo2 hi2 : Nat) (w : World) (hv : RecsOwn w lo hi v ps) (hhi : hi ≤ w.heap.size) (ht : RecsOwn w lo2 hi2 v2 ts) (hhi2 : hi2 ≤ w.heap.size) (hn : tot ps ≤ 1048576) (hn2 : tot ts ≤ 1048576) :
    Calls Try.prog 10 #[v, v2] w fun e w' => ∃ x qs, e = .returned x ∧ fsts qs = (fsts ps).filter (newerB (fsts ts)) ∧ RecsOwn w' w.heap.size w'.heap.size x qs ∧ Below w.heap.size w w' := by
  have hnl := tot_len ps
  have hnt := tot_len ts
  obtain ⟨a1, c1, rfl⟩ := owns_lenS hv.row
  obtain ⟨ta2, tc2, rfl⟩ := owns_lenS ht.row
  have HV := hide hv
  have HT := hide ht
  clear hv ht
  have R0 := hide (recs_lit w w.heap.size (Nat.le_refl _))
  have B0 : Below w.heap.size w (w.alloc (.cells #[] 50)) := (Below.refl _ _).alloc (Nat.le_refl _) _
  go_enter Try.func10, Try.ntmps10
  go_wp2
  generalize w.alloc (.cells #[] 50) = w0 at *
  go_loopw [6, 5] (fun i o wr => ∃ (k : Nat) (qs : List RP) (u : Value), k ≤ ps.length ∧ i = .int .i64 k ∧ o = u ∧ fsts qs = (fsts (ps.take k)).filter (newerB (fsts ts)) ∧ RecsOwn wr w.heap.size wr.heap.size u qs ∧ Below w.heap.size w wr) (fun i _ _ => ps.length - (intOf i).toNat)
  case atStart => exact ⟨0, [], _, by omega, rfl, rfl, by simp [fsts], R0.out, B0⟩
  case round =>
    obtain ⟨k, qs, u, hk, rfl, rfl, hmap, hown, hnx⟩ := hrel
    obtain ⟨ua, uc, rfl⟩ := owns_lenS hown.row
    have hsz := hnx.size
    by_cases hlt : k < ps.length
    · obtain ⟨p, hp⟩ : ∃ p, ps[k]? = some p := ⟨ps[k], List.getElem?_eq_getElem hlt⟩
      have hat := HV.out.at
      obtain ⟨b, off, cap', hve, hbb, c0, c1, c2, c3, c4, c5, c6, c7, _⟩ := hat.cells k p hp
      cases hve
      rw [← hnx.cell (p := ⟨b, off + k * 8, none⟩) (Nat.lt_of_lt_of_le hbb hhi)] at c0
      rw [← hnx.cell (p := ⟨b, off + k * 8 + 1, none⟩) (Nat.lt_of_lt_of_le hbb hhi)] at c1
      rw [← hnx.cell (p := ⟨b, off + k * 8 + 2, none⟩) (Nat.lt_of_lt_of_le hbb hhi)] at c2
      rw [← hnx.cell (p := ⟨b, off + k * 8 + 3, none⟩) (Nat.lt_of_lt_of_le hbb hhi)] at c3
      rw [← hnx.cell (p := ⟨b, off + k * 8 + 4, none⟩) (Nat.lt_of_lt_of_le hbb hhi)] at c4
      rw [← hnx.cell (p := ⟨b, off + k * 8 + 5, none⟩) (Nat.lt_of_lt_of_le hbb hhi)] at c5
      rw [← hnx.cell (p := ⟨b, off + k * 8 + 6, none⟩) (Nat.lt_of_lt_of_le hbb hhi)] at c6
      rw [← hnx.cell (p := ⟨b, off + k * 8 + 7, none⟩) (Nat.lt_of_lt_of_le hbb hhi)] at c7
      have hno := (HV.out.nears p (List.mem_of_getElem? hp)).keep (W' := wr) (fun j _ h2 _ => hnx.block j (by omega))
      obtain ⟨pa, pc, hpn⟩ := owns_lenS hno.1
      have HC := fun W (hb : Below wr.heap.size wr W) => copy5_any p.1 p.2 lo W (owns_below hno.1 hb (Nat.le_refl _)) (by have := tot_mem (List.mem_of_getElem? hp); omega)
      have HA := fun W (hb : Below wr.heap.size wr W) => sat_any (.slice ta2 ts.length tc2) ts lo2 hi2 p W (HT.out.below (hnx.trans (hb.mono hsz)) hhi2) (by have := hb.size; omega) hn2
      unfold recC at HA HC
      rw [hpn] at c5 HC HA
      have HAT := hide HA
      have HCP := hide HC
      have HP := hide hp
      have HM := hide hmap
      have OW := hide hown
      have HQL := hide (show qs.length ≤ 1048576 by
        have h1 := congrArg List.length hmap
        have h2 := List.length_filter_le (newerB (fsts ts)) (fsts (ps.take k))
        simp [fsts] at h1 h2
        omega)
      clear hp hmap hown hno hpn HC hat HA
      have hbw : b < wr.heap.size := by omega
      have hki : (0 : Int) ≤ (k : Int) := by omega
      have hkj : (k : Int) < (ps.length : Int) := by omega
      rcases atZ_cases (fsts ts) p.1 with hz | ⟨j, y, hz, hy, _⟩
      · have HF := hide (newer_none hz)
        rw [hz] at HAT
        clear hz
        go_wp2_with fail
        refine (HAT.out _ (Below.refl _ _)).mono ?_
        rintro e w1 ⟨rfl, b1⟩
        have b1s := b1.size
        rw [← b1.cell (p := ⟨b, off + k * 8, none⟩) hbw] at c0
        rw [← b1.cell (p := ⟨b, off + k * 8 + 1, none⟩) hbw] at c1
        rw [← b1.cell (p := ⟨b, off + k * 8 + 2, none⟩) hbw] at c2
        rw [← b1.cell (p := ⟨b, off + k * 8 + 3, none⟩) hbw] at c3
        rw [← b1.cell (p := ⟨b, off + k * 8 + 4, none⟩) hbw] at c4
        rw [← b1.cell (p := ⟨b, off + k * 8 + 5, none⟩) hbw] at c5
        rw [← b1.cell (p := ⟨b, off + k * 8 + 6, none⟩) hbw] at c6
        rw [← b1.cell (p := ⟨b, off + k * 8 + 7, none⟩) hbw] at c7
        clear HAT
        go_wp2
        go_quiet (fail)
        go_wp2_with fail
        refine (HCP.out _ (bdrewN b1)).mono ?_
        rintro e w2 ⟨v1, rfl, hn2', b2'⟩
        obtain ⟨n1a, n1c, rfl⟩ := owns_lenS hn2'
        have hn2 := owns_baseS (b0 := wr.heap.size) hn2' (show wr.heap.size ≤ w1.heap.size by omega)
        have b2 : Below wr.heap.size wr w2 := (bdrewN b1 (n := nq)).trans (b2'.mono (show wr.heap.size ≤ w1.heap.size by omega))
        clear hn2' b2'
        have b2s := b2.size
        go_wp2_with (first
          | (at_builtin; refine append_struct5 encP_len (by omega) (by omega) _ rfl _ _ 24 rfl w.heap.size 50 Try.underlying24 (.agg (recC zeroRD (.slice none 0 0))) rfl Try.infoRec _ qs (p.1, .slice n1a p.1.near.length n1c) (encP_one _ _ _ _) rfl ((owns_below OW.out.row b2 (Nat.le_refl _)).alloc _) ⟨w2.heap.size, 0, none⟩ 1 rfl (news_struct (cs := encP (p.1, .slice n1a p.1.near.length n1c))) (by have := HQL.out; omega) (by simp; omega) ?_))
        intro v' w4 hown' hgrow
        have ow4 := OW.out.push (p := (p.1, .slice n1a p.1.near.length n1c)) (b2.alloc b2.size _) (by omega) (NearOwn.wide (NearOwn.keep ⟨hn2, fun k hk => (hn2.lt k hk).2⟩ (fun j _ _ h3 => Below.heap_alloc _ _ _ h3)) (Nat.le_refl _) (by simp)) hown' hgrow
        obtain ⟨va, vc, rfl⟩ := owns_lenS hown'
        have B4 : Below w.heap.size w w4 := ((hnx.trans (b2.mono hsz)).alloc (by omega) _).grown hgrow (by simp; omega) (fun k hk => (OW.out.row.lt k hk).1)
        have OW4 := hide ow4
        clear ow4 hown' hgrow hn2
        go_wp2
        go_roundw
        case rel => exact ⟨k + 1, qs ++ [(p.1, .slice n1a p.1.near.length n1c)], _, by omega, by go_num, rfl, by rw [filter_take _ HP.out, HF.out, ← HM.out]; simp [fsts], OW4.out, B4⟩
        case measure => simp [intOf]; omega
      · obtain ⟨t, htj, hty⟩ := fsts_some hy
        have hjl : j < ts.length := (List.getElem?_eq_some_iff.1 htj).1
        have hji : (0 : Int) ≤ (j : Int) := by omega
        have hjj : (j : Int) < (ts.length : Int) := by omega
        have hnat := newer_at hz hy
        rw [hz] at HAT
        obtain ⟨b2, off2, cp2, hve2, hbb2, _, _, _, _, e4, _, _, _, _⟩ := HT.out.at.cells j t htj
        rw [hty] at e4
        cases hve2
        rw [← hnx.cell (p := ⟨b2, off2 + j * 8 + 4, none⟩) (Nat.lt_of_lt_of_le hbb2 hhi2)] at e4
        have hbw2 : b2 < wr.heap.size := by omega
        clear hz hy htj hty
        by_cases hsq : y.seq < p.1.seq
        · have HF := hide (show newerB (fsts ts) p.1 = true by rw [hnat]; exact decide_eq_true hsq)
          clear hnat
          go_wp2_with fail
          refine (HAT.out _ (Below.refl _ _)).mono ?_
          rintro e w1 ⟨rfl, b1⟩
          have b1s := b1.size
          rw [← b1.cell (p := ⟨b, off + k * 8, none⟩) hbw] at c0
          rw [← b1.cell (p := ⟨b, off + k * 8 + 1, none⟩) hbw] at c1
          rw [← b1.cell (p := ⟨b, off + k * 8 + 2, none⟩) hbw] at c2
          rw [← b1.cell (p := ⟨b, off + k * 8 + 3, none⟩) hbw] at c3
          rw [← b1.cell (p := ⟨b, off + k * 8 + 4, none⟩) hbw] at c4
          rw [← b1.cell (p := ⟨b, off + k * 8 + 5, none⟩) hbw] at c5
          rw [← b1.cell (p := ⟨b, off + k * 8 + 6, none⟩) hbw] at c6
          rw [← b1.cell (p := ⟨b, off + k * 8 + 7, none⟩) hbw] at c7
          clear HAT
          rw [← b1.cell (p := ⟨b2, off2 + j * 8 + 4, none⟩) hbw2] at e4
          go_wp2
          go_quiet (fail)
          go_wp2_with fail
          refine (HCP.out _ (bdrewN b1)).mono ?_
          rintro e w2 ⟨v1, rfl, hn2', b2'⟩
          obtain ⟨n1a, n1c, rfl⟩ := owns_lenS hn2'
          have hn2 := owns_baseS (b0 := wr.heap.size) hn2' (show wr.heap.size ≤ w1.heap.size by omega)
          have bz : Below wr.heap.size wr w2 := (bdrewN b1 (n := nq)).trans (b2'.mono (show wr.heap.size ≤ w1.heap.size by omega))
          clear hn2' b2'
          have bzs := bz.size
          go_wp2_with (first
            | (at_builtin; refine append_struct5 encP_len (by omega) (by omega) _ rfl _ _ 24 rfl w.heap.size 50 Try.underlying24 (.agg (recC zeroRD (.slice none 0 0))) rfl Try.infoRec _ qs (p.1, .slice n1a p.1.near.length n1c) (encP_one _ _ _ _) rfl ((owns_below OW.out.row bz (Nat.le_refl _)).alloc _) ⟨w2.heap.size, 0, none⟩ 1 rfl (news_struct (cs := encP (p.1, .slice n1a p.1.near.length n1c))) (by have := HQL.out; omega) (by simp; omega) ?_))
          intro v' w4 hown' hgrow
          have ow4 := OW.out.push (p := (p.1, .slice n1a p.1.near.length n1c)) (bz.alloc bz.size _) (by omega) (NearOwn.wide (NearOwn.keep ⟨hn2, fun k hk => (hn2.lt k hk).2⟩ (fun j _ _ h3 => Below.heap_alloc _ _ _ h3)) (Nat.le_refl _) (by simp)) hown' hgrow
          obtain ⟨va, vc, rfl⟩ := owns_lenS hown'
          have B4 : Below w.heap.size w w4 := ((hnx.trans (bz.mono hsz)).alloc (by omega) _).grown hgrow (by simp; omega) (fun k hk => (OW.out.row.lt k hk).1)
          have OW4 := hide ow4
          clear ow4 hown' hgrow hn2
          go_wp2
          go_roundw
          case rel => exact ⟨k + 1, qs ++ [(p.1, .slice n1a p.1.near.length n1c)], _, by omega, by go_num, rfl, by rw [filter_take _ HP.out, HF.out, ← HM.out]; simp [fsts], OW4.out, B4⟩
          case measure => simp [intOf]; omega
        · have HF := hide (show newerB (fsts ts) p.1 = false by rw [hnat]; exact decide_eq_false hsq)
          clear hnat
          go_wp2_with fail
          refine (HAT.out _ (Below.refl _ _)).mono ?_
          rintro e w1 ⟨rfl, b1⟩
          have b1s := b1.size
          rw [← b1.cell (p := ⟨b, off + k * 8, none⟩) hbw] at c0
          rw [← b1.cell (p := ⟨b, off + k * 8 + 1, none⟩) hbw] at c1
          rw [← b1.cell (p := ⟨b, off + k * 8 + 2, none⟩) hbw] at c2
          rw [← b1.cell (p := ⟨b, off + k * 8 + 3, none⟩) hbw] at c3
          rw [← b1.cell (p := ⟨b, off + k * 8 + 4, none⟩) hbw] at c4
          rw [← b1.cell (p := ⟨b, off + k * 8 + 5, none⟩) hbw] at c5
          rw [← b1.cell (p := ⟨b, off + k * 8 + 6, none⟩) hbw] at c6
          rw [← b1.cell (p := ⟨b, off + k * 8 + 7, none⟩) hbw] at c7
          clear HAT
          rw [← b1.cell (p := ⟨b2, off2 + j * 8 + 4, none⟩) hbw2] at e4
          go_wp2
          go_quiet (fail)
          have OWA := hide ((OW.out.below (bdrewN (n := nq) b1) (Nat.le_refl _)).wide (Nat.le_refl _) (show wr.heap.size ≤ (w1.drewN nq).heap.size from b1s))
          clear OW
          have OW := OWA
          have BW1 : Below w.heap.size w (w1.drewN nq) := hnx.trans ((bdrewN b1).mono hsz)
          go_wp2
          go_roundw
          case rel => exact ⟨k + 1, qs, _, by omega, by go_num, rfl, by rw [filter_take _ HP.out, HF.out, ← HM.out]; simp, OW.out, BW1⟩
          case measure => simp [intOf]; omega
    · have hkn : k = ps.length := by omega
      have KN := hide hkn
      have OW := hide hown
      have HM := hide hmap
      clear hkn hown hmap
      go_wp2
      go_ret
      have h1 := HM.out
      rw [KN.out, List.take_length] at h1
      first
        | exact ⟨_, qs, rfl, h1, OW.out, hnx⟩
        | exact ⟨_, rfl, qs, h1, OW.out, hnx⟩

end Go.Proofs.Ytnfockhbcneegaa
namespace Go.Proofs.Ytnfockhbcneegaa
open Go.RowKit

set_option linter.unusedSimpArgs false

end Go.Proofs.Ytnfockhbcneegaa
namespace Go.Proofs.Ytnfockhbcneegaa
open Go.RowKit

/-- what Merge makes of two right stores -/
structure Merged (A B M : List RecD) : Prop where
  made : Made (A ++ B) M
  sto : storeB M = true
  okA : storeB A = true
  okB : storeB B = true
  lenM : M.length ≤ 60

theorem made_self {A : List RecD} (h : Asc A) : Made A A := ⟨h, fun _ hx => hx, fun y hy => ⟨y, hy, same_refl y, Int.le_refl _⟩⟩

theorem newer_false {ls a : List RecD} (h : Made ls a) {x : RecD} (hx : x ∈ ls) : newerB a x = false := by
  obtain ⟨y, hy, hs, hq⟩ := h.all x hx
  unfold newerB
  rcases atZ_cases a x with hz | ⟨j, z, hz, hzj, hzs⟩
  · rw [atZ_neg hz y hy] at hs; cases hs
  · rw [hz, if_neg (by omega)]
    have e : z = y := asc_uniq h.asc (List.mem_of_getElem? hzj) hy (same_trans hzs (same_symm hs))
    simp [hzj, e]
    omega

theorem Merged.ok {A B M : List RecD} (h : Merged A B M) : ∀ x ∈ A ++ B, recOkB x = true := by
  intro x hx
  rcases List.mem_append.1 hx with h1 | h1
  · exact (store_ok h.okA).2.1 x h1
  · exact (store_ok h.okB).2.1 x h1

/-- a right store that takes a right record is one -/
theorem store_instD {xs : List RecD} {r : RecD} (h : storeB xs = true) (hr : recOkB r = true) (hl : xs.length < 150) : storeB (instD xs r) = true := by
  have h3 := store_ok h
  have hm := (made_self h3.2.2).step hr hl
  refine hm.store ?_ (by have := len_instD xs r; omega)
  intro x hx
  rcases List.mem_append.1 hx with h1 | h1
  · exact h3.2.1 x h1
  · have : x = r := by simpa using h1
    subst this
    exact hr
end Go.Proofs.Ytnfockhbcneegaa
namespace Go.Proofs.Ytnfockhbcneegaa
open Go.RowKit

set_option linter.unusedSimpArgs false

theorem cur_ne {W : World} {p base size n : Nat} {e : TypeId} {v : Value} {xs : List Value} {a : Option Addr} {len cap : Nat} (hc : Cur W p a len cap) (h : W.ownsRow base e size v n xs) (he : e ≠ 66) (k : Nat) (hk : v.ownBlock = some k) : some k ≠ some p := by
  obtain ⟨⟨i, hh, _, hb⟩, _⟩ := hc
  rcases h.2 with ⟨h0, _⟩ | ⟨g, cp, cur, hv, _, hg, _⟩
  · rw [h0] at hk; simp [Value.ownBlock] at hk
  · rw [hv] at hk
    simp [Value.ownBlock] at hk
    subst hk
    intro e2
    simp at e2
    subst e2
    rw [hg] at hb
    simp at hb
    exact he hb.2

/-- a list stays where only the cursor turns -/
theorem RecsIn.cur {W W' : World} {hi p : Nat} {v : Value} {ps : List RP} {a : Option Addr} {len cap : Nat} (h : RecsIn W hi v ps) (hc : Cur W p a len cap) (hg : W.grownBy W' (some p)) : RecsIn W' hi v ps where
  row := owns_keepB h.row (fun k e => hg.block k (h.row.lt k e).2 (cur_ne hc h.row (by decide) k e))
  top := h.top
  nears := fun q hq => ⟨owns_keepB (h.nears q hq).1 (fun k e => hg.block k ((h.nears q hq).1.lt k e).2 (cur_ne hc (h.nears q hq).1 (by decide) k e)), (h.nears q hq).2⟩

theorem recs_litIn (W : World) : RecsIn (W.alloc (.cells #[] 50)) (W.alloc (.cells #[] 50)).heap.size (.slice (some ⟨W.heap.size, 0, none⟩) 0 0) [] := (recs_lit W 0 (Nat.zero_le _)).in

set_option maxRecDepth 100000 in
set_option maxHeartbeats 2000000 in
theorem drawStore_any (p : Nat) (a : Option Addr) (len cap : Nat) (w : World) (hc : Cur w p a len cap) :
    Calls Try.prog 23 #[.pointer (some ⟨p, 0, none⟩)] w fun e w' => ∃ (v : Value) (qs : List RP), e = .returned v ∧ RecsIn w' w'.heap.size v qs ∧ storeB (fsts qs) = true ∧ qs.length ≤ 12 ∧ Cur w' p a len cap ∧ w.grownBy w' (some p) := by
  have hp := lt_of_cur hc
  have C0 := hide (cur_alloc hc (.cells #[] 50))
  have R0 := hide (recs_litIn w)
  have G0 := hide (gro_alloc (gro_refl w (some p)) (.cells #[] 50))
  clear hc
  go_enter Try.func23, Try.ntmps23
  go_wp2
  generalize w.alloc (.cells #[] 50) = w0 at *
  go_loopw [4, 3] (fun i o wr => ∃ (k : Nat) (qs : List RP) (u : Value), k ≤ 12 ∧ i = .int .i64 k ∧ o = u ∧ Hid (qs.length ≤ k) ∧ Hid (storeB (fsts qs) = true) ∧ RecsIn wr wr.heap.size u qs ∧ Cur wr p a len cap ∧ w.grownBy wr (some p)) (fun i _ _ => 13 - (intOf i).toNat)
  case atStart => exact ⟨0, [], _, by omega, rfl, rfl, hide (by simp), hide (by decide), R0.out, C0.out, G0.out⟩
  case round =>
    obtain ⟨k, qs, u, hk, rfl, rfl, HQL, HST, hown, hcr, hgr⟩ := hrel
    obtain ⟨ua, uc, rfl⟩ := owns_lenS hown.row
    have OW := hide hown
    have HCR := hide hcr
    have HGR := hide hgr
    clear hown hcr hgr
    go_wp2_with fail
    refine (below_any p a len cap 12 _ HCR.out (by omega) (by omega)).mono ?_
    rintro e w3 ⟨y, rfl, hy0, hy1, hc3, hg3⟩
    have OW3 := hide ((OW.out.cur HCR.out hg3).wide hg3.size)
    have G3 := hide (gro_same HGR.out hg3)
    have C3 := hide hc3
    clear hc3 hg3 OW HCR HGR
    by_cases hlt : (k : Int) < y
    · go_wp2_with fail
      refine (recR_any p a len cap _ C3.out).mono ?_
      rintro e w4 ⟨x, n1, rfl, ho4, hl4, hok4, hc4, hg4⟩
      have OW4 := (OW3.out.cur C3.out hg4).wide hg4.size
      have hst := store_ok HST.out
      have hq := HQL.out
      have hfl : (fsts qs).length = qs.length := by simp [fsts]
      have htq : tot qs ≤ 1048576 := by rw [tot_D]; have := store_tot HST.out; omega
      have HIN := sinst_any (.slice ua qs.length uc) qs w4.heap.size (x, n1) w4 OW4 (Nat.le_refl _) htq ⟨owns_baseS ho4 (Nat.zero_le _), fun k hk => (ho4.lt k hk).2⟩ (by show x.near.length ≤ 1048576; omega)
      have HN := hide (show storeB (fsts (instL qs (x, n1))) = true by rw [instL_fsts]; exact store_instD HST.out hok4 (by omega))
      have HLn := hide (show (instL qs (x, n1)).length ≤ k + 1 by
        have e1 : (fsts (instL qs (x, n1))).length = (instL qs (x, n1)).length := by simp [fsts]
        rw [instL_fsts] at e1
        have h5 := len_instD (fsts qs) x
        simp only [] at e1
        omega)
      have G4 := gro_same G3.out hg4
      obtain ⟨na, nc, rfl⟩ := owns_lenS ho4
      generalize instL qs (x, Value.slice na x.near.length nc) = qn at *
      obtain ⟨TT, hTT⟩ : ∃ T, T = takesB (fsts qs) (x, Value.slice na x.near.length nc).1 := ⟨_, rfl⟩
      rw [← hTT] at HIN
      have HI := hide HIN
      have HC4 := hide hc4
      have HG4 := hide G4
      clear HIN hst hok4 ho4 hc4 hg4 G4 OW4 OW3 G3 C3 HST HQL htq hfl hq hTT
      unfold recC at *
      go_wp2_with fail
      refine HI.out.mono ?_
      rintro e w5 ⟨x5, rfl, o5, b5⟩
      obtain ⟨x5a, x5c, rfl⟩ := owns_lenS o5.row
      have O5 := hide o5
      have C5 := hide (HC4.out.grown (grown_of_below b5) (fun b _ => by simp))
      have G5 := hide (gro_step HG4.out (grown_of_below b5) (fun k e => by cases e))
      clear o5 b5 HC4 HG4 HI
      go_wp2
      go_roundw
      case rel => exact ⟨k + 1, qn, _, by omega, by go_num, rfl, HLn, HN, O5.out, C5.out, G5.out⟩
      case measure => simp [intOf]; omega
    · go_wp2
      go_ret
      first
        | exact ⟨_, qs, rfl, OW3.out, HST.out, by have := HQL.out; omega, C3.out, G3.out⟩
        | exact ⟨_, rfl, qs, OW3.out, HST.out, by have := HQL.out; omega, C3.out, G3.out⟩

set_option maxRecDepth 100000 in
set_option maxHeartbeats 2000000 in
theorem drawStores_any (a : Option Addr) (len cap : Nat) (w : World) (hc : Code w a len w.heap.size) :
    Calls Try.prog 7 #[.slice a len cap] w fun e w' => ∃ (va vb : Value) (qa qb : List RP), e = .returned (.tuple #[va, vb]) ∧ RecsIn w' w'.heap.size va qa ∧ RecsIn w' w'.heap.size vb qb ∧ storeB (fsts qa) = true ∧ storeB (fsts qb) = true ∧ qa.length ≤ 12 ∧ qb.length ≤ 12 ∧ Below w.heap.size w w' := by
  have HC := hide hc
  clear hc
  go_enter Try.func7, Try.ntmps7
  go_wp2_with fail
  refine (new_any a len cap w HC.out).mono ?_
  rintro e w1 ⟨rfl, hc1, hb1⟩
  have C1 := hide hc1
  clear hc1 HC
  go_wp2_with fail
  refine (drawStore_any w.heap.size a len cap w1 C1.out).mono ?_
  rintro e w2 ⟨va, qa, rfl, oa, sa, la, hc2, hg2⟩
  obtain ⟨xa, xc, rfl⟩ := owns_lenS oa.row
  have B2 : Below w.heap.size w w2 := hb1.grown hg2 hb1.size (fun k hk => by simp at hk; omega)
  have OA := hide oa
  have SA := hide sa
  have LA := hide la
  have C2 := hide hc2
  clear oa sa la hc2 hg2 C1 hb1
  go_wp2_with fail
  refine (drawStore_any w.heap.size a len cap w2 C2.out).mono ?_
  rintro e w3 ⟨vb, qb, rfl, ob, sb, lb, hc3, hg3⟩
  obtain ⟨ya, yc, rfl⟩ := owns_lenS ob.row
  have B3 : Below w.heap.size w w3 := B2.grown hg3 B2.size (fun k hk => by simp at hk; omega)
  have OA3 := hide ((OA.out.cur C2.out hg3).wide hg3.size)
  have OB := hide ob
  have SB := hide sb
  have LB := hide lb
  clear ob sb lb hc3 hg3 OA C2
  go_wp2
  go_returns
  exact ⟨_, _, qa, qb, rfl, OA3.out, OB.out, SA.out, SB.out, LA.out, LB.out, B3⟩
end Go.Proofs.Ytnfockhbcneegaa
namespace Go.Proofs.Ytnfockhbcneegaa
open Go.RowKit

set_option maxRecDepth 100000 in
set_option maxHeartbeats 2000000 in
theorem sscopeI_any (v : Value) (ps : List RP) (hi : Nat) (a : Int) (w : World) (hv : RecsIn w hi v ps) (hhi : hi ≤ w.heap.size) (hn : tot ps ≤ 1048576) :
    Calls Try.prog 9 #[v, .int .i64 a] w fun e w' => ∃ x qs, e = .returned x ∧ fsts qs = (fsts ps).filter (inScope a) ∧ RecsOwn w' w.heap.size w'.heap.size x qs ∧ Below w.heap.size w w' := by
  have hnl := tot_len ps
  obtain ⟨a1, c1, rfl⟩ := owns_lenS hv.row
  have HV := hide hv
  clear hv
  have R0 := hide (recs_lit w w.heap.size (Nat.le_refl _))
  have B0 : Below w.heap.size w (w.alloc (.cells #[] 50)) := (Below.refl _ _).alloc (Nat.le_refl _) _
  go_enter Try.func9, Try.ntmps9
  go_wp2
  generalize w.alloc (.cells #[] 50) = w0 at *
  go_loopw [6, 5] (fun i o wr => ∃ (k : Nat) (qs : List RP) (u : Value), k ≤ ps.length ∧ i = .int .i64 k ∧ o = u ∧ fsts qs = (fsts (ps.take k)).filter (inScope a) ∧ RecsOwn wr w.heap.size wr.heap.size u qs ∧ Below w.heap.size w wr) (fun i _ _ => ps.length - (intOf i).toNat)
  case atStart => exact ⟨0, [], _, by omega, rfl, rfl, by simp [fsts], R0.out, B0⟩
  case round =>
    obtain ⟨k, qs, u, hk, rfl, rfl, hmap, hown, hnx⟩ := hrel
    obtain ⟨ua, uc, rfl⟩ := owns_lenS hown.row
    have hsz := hnx.size
    by_cases hlt : k < ps.length
    · obtain ⟨p, hp⟩ : ∃ p, ps[k]? = some p := ⟨ps[k], List.getElem?_eq_getElem hlt⟩
      have hat := HV.out.at
      obtain ⟨b, off, cap', hve, hbb, c0, c1, c2, c3, c4, c5, c6, c7, _⟩ := hat.cells k p hp
      cases hve
      rw [← hnx.cell (p := ⟨b, off + k * 8, none⟩) (Nat.lt_of_lt_of_le hbb hhi)] at c0
      rw [← hnx.cell (p := ⟨b, off + k * 8 + 1, none⟩) (Nat.lt_of_lt_of_le hbb hhi)] at c1
      rw [← hnx.cell (p := ⟨b, off + k * 8 + 2, none⟩) (Nat.lt_of_lt_of_le hbb hhi)] at c2
      rw [← hnx.cell (p := ⟨b, off + k * 8 + 3, none⟩) (Nat.lt_of_lt_of_le hbb hhi)] at c3
      rw [← hnx.cell (p := ⟨b, off + k * 8 + 4, none⟩) (Nat.lt_of_lt_of_le hbb hhi)] at c4
      rw [← hnx.cell (p := ⟨b, off + k * 8 + 5, none⟩) (Nat.lt_of_lt_of_le hbb hhi)] at c5
      rw [← hnx.cell (p := ⟨b, off + k * 8 + 6, none⟩) (Nat.lt_of_lt_of_le hbb hhi)] at c6
      rw [← hnx.cell (p := ⟨b, off + k * 8 + 7, none⟩) (Nat.lt_of_lt_of_le hbb hhi)] at c7
      have hno := (HV.out.nears p (List.mem_of_getElem? hp)).keep (W' := wr) (fun j _ h2 _ => hnx.block j (by omega))
      obtain ⟨pa, pc, hpn⟩ := owns_lenS hno.1
      have HC := copy5_any p.1 p.2 0 wr hno.1 (by have := tot_mem (List.mem_of_getElem? hp); omega)
      unfold recC at HC
      rw [hpn] at c5 HC
      have HCP := hide HC
      have HP := hide hp
      have HM := hide hmap
      have OW := hide hown
      have HQL := hide (show qs.length ≤ 1048576 by
        have h1 := congrArg List.length hmap
        have h2 := List.length_filter_le (inScope a) (fsts (ps.take k))
        simp [fsts] at h1 h2
        omega)
      clear hp hmap hown hno hpn HC hat
      have hki : (0 : Int) ≤ (k : Int) := by omega
      have hkj : (k : Int) < (ps.length : Int) := by omega
      by_cases h1 : p.1.area = a
      · have HF := hide (show inScope a p.1 = true by simp [inScope, h1])
        have hd : (p.1.area == a) = true := by simpa using h1
        clear h1
        go_wp2_with fail
        refine HCP.out.mono ?_
        rintro e w2 ⟨v1, rfl, hn2, b2⟩
        obtain ⟨n1a, n1c, rfl⟩ := owns_lenS hn2
        have b2s := b2.size
        go_wp2_with (first
          | (at_builtin; refine append_struct5 encP_len (by omega) (by omega) _ rfl _ _ 24 rfl w.heap.size 50 Try.underlying24 (.agg (recC zeroRD (.slice none 0 0))) rfl Try.infoRec _ qs (p.1, .slice n1a p.1.near.length n1c) (encP_one _ _ _ _) rfl ((owns_below OW.out.row b2 (Nat.le_refl _)).alloc _) ⟨w2.heap.size, 0, none⟩ 1 rfl (news_struct (cs := encP (p.1, .slice n1a p.1.near.length n1c))) (by have := HQL.out; omega) (by simp; omega) ?_))
        intro v' w4 hown' hgrow
        have ow4 := OW.out.push (p := (p.1, .slice n1a p.1.near.length n1c)) (b2.alloc b2.size _) (by omega) (NearOwn.wide (NearOwn.keep ⟨hn2, fun k hk => (hn2.lt k hk).2⟩ (fun j _ _ h3 => Below.heap_alloc _ _ _ h3)) (Nat.le_refl _) (by simp)) hown' hgrow
        obtain ⟨va, vc, rfl⟩ := owns_lenS hown'
        have B4 : Below w.heap.size w w4 := ((hnx.trans (b2.mono hsz)).alloc (by omega) _).grown hgrow (by simp; omega) (fun k hk => (OW.out.row.lt k hk).1)
        have OW4 := hide ow4
        clear ow4 hown' hgrow hn2
        go_wp2
        go_roundw
        case rel => exact ⟨k + 1, qs ++ [(p.1, .slice n1a p.1.near.length n1c)], _, by omega, by go_num, rfl, by rw [filter_take _ HP.out, HF.out, ← HM.out]; simp [fsts], OW4.out, B4⟩
        case measure => simp [intOf]; omega
      have hd : (p.1.area == a) = false := by simpa using h1
      by_cases h2 : p.1.area = 9
      · have HF := hide (show inScope a p.1 = true by simp [inScope, h2])
        have hd2 : (p.1.area == 9) = true := by simpa using h2
        clear h1 h2
        go_wp2_with fail
        refine HCP.out.mono ?_
        rintro e w2 ⟨v1, rfl, hn2, b2⟩
        obtain ⟨n1a, n1c, rfl⟩ := owns_lenS hn2
        have b2s := b2.size
        go_wp2_with (first
          | (at_builtin; refine append_struct5 encP_len (by omega) (by omega) _ rfl _ _ 24 rfl w.heap.size 50 Try.underlying24 (.agg (recC zeroRD (.slice none 0 0))) rfl Try.infoRec _ qs (p.1, .slice n1a p.1.near.length n1c) (encP_one _ _ _ _) rfl ((owns_below OW.out.row b2 (Nat.le_refl _)).alloc _) ⟨w2.heap.size, 0, none⟩ 1 rfl (news_struct (cs := encP (p.1, .slice n1a p.1.near.length n1c))) (by have := HQL.out; omega) (by simp; omega) ?_))
        intro v' w4 hown' hgrow
        have ow4 := OW.out.push (p := (p.1, .slice n1a p.1.near.length n1c)) (b2.alloc b2.size _) (by omega) (NearOwn.wide (NearOwn.keep ⟨hn2, fun k hk => (hn2.lt k hk).2⟩ (fun j _ _ h3 => Below.heap_alloc _ _ _ h3)) (Nat.le_refl _) (by simp)) hown' hgrow
        obtain ⟨va, vc, rfl⟩ := owns_lenS hown'
        have B4 : Below w.heap.size w w4 := ((hnx.trans (b2.mono hsz)).alloc (by omega) _).grown hgrow (by simp; omega) (fun k hk => (OW.out.row.lt k hk).1)
        have OW4 := hide ow4
        clear ow4 hown' hgrow hn2
        go_wp2
        go_roundw
        case rel => exact ⟨k + 1, qs ++ [(p.1, .slice n1a p.1.near.length n1c)], _, by omega, by go_num, rfl, by rw [filter_take _ HP.out, HF.out, ← HM.out]; simp [fsts], OW4.out, B4⟩
        case measure => simp [intOf]; omega
      · have HF := hide (show inScope a p.1 = false by simp [inScope, h1, h2])
        have hd2 : (p.1.area == 9) = false := by simpa using h2
        clear h1 h2
        go_wp2
        go_roundw
        case rel => exact ⟨k + 1, qs, _, by omega, by go_num, rfl, by rw [filter_take _ HP.out, HF.out, ← HM.out]; simp, OW.out, hnx⟩
        case measure => simp [intOf]; omega
    · have hkn : k = ps.length := by omega
      have KN := hide hkn
      have OW := hide hown
      have HM := hide hmap
      clear hkn hown hmap
      go_wp2
      go_ret
      have h1 := HM.out
      rw [KN.out, List.take_length] at h1
      first
        | exact ⟨_, qs, rfl, h1, OW.out, hnx⟩
        | exact ⟨_, rfl, qs, h1, OW.out, hnx⟩

set_option maxRecDepth 100000 in
set_option maxHeartbeats 2000000 in
theorem iscopeI_any (v : Value) (ps : List RP) (hi : Nat) (a : Int) (w : World) (hv : RecsIn w hi v ps) (hhi : hi ≤ w.heap.size) (hn : tot ps ≤ 1048576) :
    Calls Try.prog 24 #[v, .int .i64 a] w fun e w' => ∃ x qs, e = .returned x ∧ fsts qs = (fsts ps).filter (inScope a) ∧ RecsOwn w' w.heap.size w'.heap.size x qs ∧ Below w.heap.size w w' := by
  have hnl := tot_len ps
  obtain ⟨a1, c1, rfl⟩ := owns_lenS hv.row
  have HV := hide hv
  clear hv
  have R0 := hide (recs_lit w w.heap.size (Nat.le_refl _))
  have B0 : Below w.heap.size w (w.alloc (.cells #[] 50)) := (Below.refl _ _).alloc (Nat.le_refl _) _
  go_enter Try.func24, Try.ntmps24
  go_wp2
  generalize w.alloc (.cells #[] 50) = w0 at *
  go_loopw [11, 5] (fun i o wr => ∃ (k : Nat) (qs : List RP) (u : Value), k ≤ ps.length ∧ i = .int .i64 k ∧ o = u ∧ fsts qs = (fsts (ps.take k)).filter (inScope a) ∧ RecsOwn wr w.heap.size wr.heap.size u qs ∧ Below w.heap.size w wr) (fun i _ _ => ps.length - (intOf i).toNat)
  case atStart => exact ⟨0, [], _, by omega, rfl, rfl, by simp [fsts], R0.out, B0⟩
  case round =>
    obtain ⟨k, qs, u, hk, rfl, rfl, hmap, hown, hnx⟩ := hrel
    obtain ⟨ua, uc, rfl⟩ := owns_lenS hown.row
    have hsz := hnx.size
    by_cases hlt : k < ps.length
    · obtain ⟨p, hp⟩ : ∃ p, ps[k]? = some p := ⟨ps[k], List.getElem?_eq_getElem hlt⟩
      have hat := HV.out.at
      obtain ⟨b, off, cap', hve, hbb, c0, c1, c2, c3, c4, c5, c6, c7, _⟩ := hat.cells k p hp
      cases hve
      rw [← hnx.cell (p := ⟨b, off + k * 8, none⟩) (Nat.lt_of_lt_of_le hbb hhi)] at c0
      rw [← hnx.cell (p := ⟨b, off + k * 8 + 1, none⟩) (Nat.lt_of_lt_of_le hbb hhi)] at c1
      rw [← hnx.cell (p := ⟨b, off + k * 8 + 2, none⟩) (Nat.lt_of_lt_of_le hbb hhi)] at c2
      rw [← hnx.cell (p := ⟨b, off + k * 8 + 3, none⟩) (Nat.lt_of_lt_of_le hbb hhi)] at c3
      rw [← hnx.cell (p := ⟨b, off + k * 8 + 4, none⟩) (Nat.lt_of_lt_of_le hbb hhi)] at c4
      rw [← hnx.cell (p := ⟨b, off + k * 8 + 5, none⟩) (Nat.lt_of_lt_of_le hbb hhi)] at c5
      rw [← hnx.cell (p := ⟨b, off + k * 8 + 6, none⟩) (Nat.lt_of_lt_of_le hbb hhi)] at c6
      rw [← hnx.cell (p := ⟨b, off + k * 8 + 7, none⟩) (Nat.lt_of_lt_of_le hbb hhi)] at c7
      have hno := (HV.out.nears p (List.mem_of_getElem? hp)).keep (W' := wr) (fun j _ h2 _ => hnx.block j (by omega))
      obtain ⟨pa, pc, hpn⟩ := owns_lenS hno.1
      have HC := fun o => ownRec_any p.1 p.2 0 (wr.alloc o) (hno.1.alloc o) (by have := tot_mem (List.mem_of_getElem? hp); omega)
      unfold recC at HC
      rw [hpn] at c5 HC
      have HCP := hide HC
      have HP := hide hp
      have HM := hide hmap
      have OW := hide hown
      have HQL := hide (show qs.length ≤ 1048576 by
        have h1 := congrArg List.length hmap
        have h2 := List.length_filter_le (inScope a) (fsts (ps.take k))
        simp [fsts] at h1 h2
        omega)
      clear hp hmap hown hno hpn HC hat
      have hki : (0 : Int) ≤ (k : Int) := by omega
      have hkj : (k : Int) < (ps.length : Int) := by omega
      by_cases h1 : p.1.area = a
      · have HF := hide (show inScope a p.1 = true by simp [inScope, h1])
        have hd : (p.1.area == a) = true := by simpa using h1
        clear h1
        go_wp2_with fail
        refine (HCP.out _).mono ?_
        rintro e w2 ⟨v1, rfl, hn2', b2'⟩
        obtain ⟨n1a, n1c, rfl⟩ := owns_lenS hn2'
        have hn2 := owns_baseS (b0 := wr.heap.size) hn2' (by simp)
        have b2 : Below wr.heap.size wr w2 := ((Below.refl _ _).alloc (Nat.le_refl _) _).trans (b2'.mono (by simp))
        clear hn2' b2'
        have b2s := b2.size
        go_wp2_with (first
          | (at_builtin; refine append_struct5 encP_len (by omega) (by omega) _ rfl _ _ 24 rfl w.heap.size 50 Try.underlying24 (.agg (recC zeroRD (.slice none 0 0))) rfl Try.infoRec _ qs (p.1, .slice n1a p.1.near.length n1c) (encP_one _ _ _ _) rfl ((owns_below OW.out.row b2 (Nat.le_refl _)).alloc _) ⟨w2.heap.size, 0, none⟩ 1 rfl (news_struct (cs := encP (p.1, .slice n1a p.1.near.length n1c))) (by have := HQL.out; omega) (by simp; omega) ?_))
        intro v' w4 hown' hgrow
        have ow4 := OW.out.push (p := (p.1, .slice n1a p.1.near.length n1c)) (b2.alloc b2.size _) (by omega) (NearOwn.wide (NearOwn.keep ⟨hn2, fun k hk => (hn2.lt k hk).2⟩ (fun j _ _ h3 => Below.heap_alloc _ _ _ h3)) (Nat.le_refl _) (by simp)) hown' hgrow
        obtain ⟨va, vc, rfl⟩ := owns_lenS hown'
        have B4 : Below w.heap.size w w4 := ((hnx.trans (b2.mono hsz)).alloc (by omega) _).grown hgrow (by simp; omega) (fun k hk => (OW.out.row.lt k hk).1)
        have OW4 := hide ow4
        clear ow4 hown' hgrow hn2
        go_wp2
        go_roundw
        case rel => exact ⟨k + 1, qs ++ [(p.1, .slice n1a p.1.near.length n1c)], _, by omega, by go_num, rfl, by rw [filter_take _ HP.out, HF.out, ← HM.out]; simp [fsts], OW4.out, B4⟩
        case measure => simp [intOf]; omega
      have hd : (p.1.area == a) = false := by simpa using h1
      by_cases h2 : p.1.area = 9
      · have HF := hide (show inScope a p.1 = true by simp [inScope, h2])
        have hd2 : (p.1.area == 9) = true := by simpa using h2
        clear h1 h2
        go_wp2_with fail
        refine (HCP.out _).mono ?_
        rintro e w2 ⟨v1, rfl, hn2', b2'⟩
        obtain ⟨n1a, n1c, rfl⟩ := owns_lenS hn2'
        have hn2 := owns_baseS (b0 := wr.heap.size) hn2' (by simp)
        have b2 : Below wr.heap.size wr w2 := ((Below.refl _ _).alloc (Nat.le_refl _) _).trans (b2'.mono (by simp))
        clear hn2' b2'
        have b2s := b2.size
        go_wp2_with (first
          | (at_builtin; refine append_struct5 encP_len (by omega) (by omega) _ rfl _ _ 24 rfl w.heap.size 50 Try.underlying24 (.agg (recC zeroRD (.slice none 0 0))) rfl Try.infoRec _ qs (p.1, .slice n1a p.1.near.length n1c) (encP_one _ _ _ _) rfl ((owns_below OW.out.row b2 (Nat.le_refl _)).alloc _) ⟨w2.heap.size, 0, none⟩ 1 rfl (news_struct (cs := encP (p.1, .slice n1a p.1.near.length n1c))) (by have := HQL.out; omega) (by simp; omega) ?_))
        intro v' w4 hown' hgrow
        have ow4 := OW.out.push (p := (p.1, .slice n1a p.1.near.length n1c)) (b2.alloc b2.size _) (by omega) (NearOwn.wide (NearOwn.keep ⟨hn2, fun k hk => (hn2.lt k hk).2⟩ (fun j _ _ h3 => Below.heap_alloc _ _ _ h3)) (Nat.le_refl _) (by simp)) hown' hgrow
        obtain ⟨va, vc, rfl⟩ := owns_lenS hown'
        have B4 : Below w.heap.size w w4 := ((hnx.trans (b2.mono hsz)).alloc (by omega) _).grown hgrow (by simp; omega) (fun k hk => (OW.out.row.lt k hk).1)
        have OW4 := hide ow4
        clear ow4 hown' hgrow hn2
        go_wp2
        go_roundw
        case rel => exact ⟨k + 1, qs ++ [(p.1, .slice n1a p.1.near.length n1c)], _, by omega, by go_num, rfl, by rw [filter_take _ HP.out, HF.out, ← HM.out]; simp [fsts], OW4.out, B4⟩
        case measure => simp [intOf]; omega
      · have HF := hide (show inScope a p.1 = false by simp [inScope, h1, h2])
        have hd2 : (p.1.area == 9) = false := by simpa using h2
        clear h1 h2
        have OWA := hide ((OW.out.below ((Below.refl wr.heap.size wr).alloc (Nat.le_refl _) (.cells (recC p.1 (.slice pa p.1.near.length pc)) 50)) (Nat.le_refl _)).wide (Nat.le_refl _) (by simp : _ ≤ (wr.alloc (.cells (recC p.1 (.slice pa p.1.near.length pc)) 50)).heap.size))
        unfold recC at OWA
        clear OW
        have OW := OWA
        go_wp2
        go_roundw
        case rel => exact ⟨k + 1, qs, _, by omega, by go_num, rfl, by rw [filter_take _ HP.out, HF.out, ← HM.out]; simp, OW.out, hnx.alloc hsz _⟩
        case measure => simp [intOf]; omega
    · have hkn : k = ps.length := by omega
      have KN := hide hkn
      have OW := hide hown
      have HM := hide hmap
      clear hkn hown hmap
      go_wp2
      go_ret
      have h1 := HM.out
      rw [KN.out, List.take_length] at h1
      first
        | exact ⟨_, qs, rfl, h1, OW.out, hnx⟩
        | exact ⟨_, rfl, qs, h1, OW.out, hnx⟩
end Go.Proofs.Ytnfockhbcneegaa
