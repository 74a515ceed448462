/-
  spec.Merge: its contract.
  slices.BinarySearchFunc at lists of records: its contract.
  A record put into a list in order: the plain mathematics.
  impl's put: a record put into a list in order.
  impl.ownRecords, takes: their contracts.
  laws.markRecordS: just the list's own blocks turn.
  impl.merged: a list put into a right store, and what of it is new.
  impl.Merge: its contract.
  spec.Install, impl.Install: their contracts.
  How many neighbours a right record can have.
  spec.Install: its contract; how long a store can be.
  laws.same at a record and itself.
-/
import Derived.Test.YtchmmekhfcojgaaGreatDoorPq16
import Derived.Test.YtchmmekhfcojgaaGreatDoorPq17
import Derived.Test.YtchmmekhfcojgaaGreatDoorPq3
import Derived.Test.YtchmmekhfcojgaaGreatDoorPq8
import Derived.Test.YtchmmekhfcojgaaGreatDoorPq14
import Derived.Test.YtchmmekhfcojgaaGreatDoorPq7
import Derived.Test.YtchmmekhfcojgaaGreatDoorPq4
import Derived.Deep.RegionHeld3
namespace Go.Proofs.YtchmmekhfcojgaaGreatDoor
open Go.RowKit

set_option linter.unusedSimpArgs false

theorem before_asym {x y : RecD} (h : beforeB x y = true) : beforeB y x = false := by
  unfold beforeB at *
  simp only [Bool.or_eq_true, Bool.and_eq_true, decide_eq_true_eq, beq_iff_eq] at h
  simp only [Bool.or_eq_false_iff, Bool.and_eq_false_iff, decide_eq_false_iff_not, beq_eq_false_iff_ne]
  omega

end Go.Proofs.YtchmmekhfcojgaaGreatDoor
namespace Go.Proofs.YtchmmekhfcojgaaGreatDoor
open Go.RowKit

set_option linter.unusedSimpArgs false

end Go.Proofs.YtchmmekhfcojgaaGreatDoor
namespace Go.Proofs.YtchmmekhfcojgaaGreatDoor
open Go.RowKit

theorem bef_trans {x y z : RecD} (h1 : beforeB x y = true) (h2 : beforeB y z = true) : beforeB x z = true := by
  unfold beforeB at *
  simp only [Bool.or_eq_true, Bool.and_eq_true, decide_eq_true_eq, beq_iff_eq] at *
  omega

theorem bef_irrefl_same {x y : RecD} (h1 : sameKeyB x y = true) : beforeB x y = false ∧ beforeB y x = false := by
  unfold beforeB sameKeyB at *
  simp only [Bool.or_eq_false_iff, Bool.and_eq_false_iff, decide_eq_false_iff_not, beq_eq_false_iff_ne, Bool.and_eq_true, beq_iff_eq] at *
  omega

theorem bef_tri (x y : RecD) : beforeB x y = true ∨ sameKeyB x y = true ∨ beforeB y x = true := by
  unfold beforeB sameKeyB
  simp only [Bool.or_eq_true, Bool.and_eq_true, decide_eq_true_eq, beq_iff_eq]
  omega

/-- in order -/
def Asc (xs : List RecD) : Prop := xs.Pairwise (fun x y => beforeB x y = true)

theorem asc_of {xs : List RecD} (h : ascB ordR xs = true) : Asc xs := by
  unfold Asc
  rw [List.pairwise_iff_getElem]
  have step : ∀ i (h2 : i + 1 < xs.length), beforeB xs[i] xs[i + 1] = true := by
    intro i h2
    have h3 := List.all_eq_true.1 h (i + 1) (List.mem_range.2 h2)
    rw [ascAt_eq (List.getElem?_eq_getElem (by omega)) (List.getElem?_eq_getElem h2), ordR_neg] at h3
    exact h3
  have main : ∀ d i (h2 : i + 1 + d < xs.length), beforeB xs[i] (xs[i + 1 + d]) = true := by
    intro d
    induction d with
    | zero => intro i h2; exact step i h2
    | succ d ih => intro i h2; exact bef_trans (ih i (by omega)) (step (i + 1 + d) h2)
  intro i j hi hj hij
  have h2 := main (j - i - 1) i (by omega)
  have e : i + 1 + (j - i - 1) = j := by omega
  simp only [e] at h2
  exact h2

theorem asc_back {xs : List RecD} (h : Asc xs) : ascB ordR xs = true := by
  unfold Asc at h
  rw [List.pairwise_iff_getElem] at h
  refine all_true fun j hj => ?_
  cases j with
  | zero => rfl
  | succ k =>
    rw [ascAt_eq (List.getElem?_eq_getElem (by omega)) (List.getElem?_eq_getElem hj), ordR_neg]
    exact h k (k + 1) (by omega) hj (by omega)

/-- what l05Put makes of keys in order -/
def putD (xs : List RecD) (r : RecD) : List RecD := xs.filter (fun x => beforeB x r) ++ [r] ++ xs.filter (fun x => beforeB r x)

theorem putL_fsts (ps : List RP) (r : RP) : fsts (putL ps r) = putD (fsts ps) r.1 := by
  unfold putL putD fsts
  simp [List.filter_map, Function.comp_def]

section
variable {xs : List RecD} {r : RecD} {i : Nat}

end
end Go.Proofs.YtchmmekhfcojgaaGreatDoor
namespace Go.Proofs.YtchmmekhfcojgaaGreatDoor
open Go.RowKit

set_option linter.unusedSimpArgs false

end Go.Proofs.YtchmmekhfcojgaaGreatDoor
namespace Go.Proofs.YtchmmekhfcojgaaGreatDoor
open Go.RowKit

set_option linter.unusedSimpArgs false

end Go.Proofs.YtchmmekhfcojgaaGreatDoor
namespace Go.Proofs.YtchmmekhfcojgaaGreatDoor
open Go.RowKit

/-- only blocks of S turn -/
structure FrameS (S : Nat → Prop) (w w' : World) : Prop where
  os : w'.os = w.os
  tape : w'.tape = w.tape
  output : w'.output = w.output
  size : w.heap.size ≤ w'.heap.size
  block : ∀ k, k < w.heap.size → ¬ S k → w'.heap[k]? = w.heap[k]?

theorem FrameS.refl (S : Nat → Prop) (w : World) : FrameS S w w := ⟨rfl, rfl, rfl, Nat.le_refl _, fun _ _ _ => rfl⟩

theorem FrameS.trans {S : Nat → Prop} {a b c : World} (h : FrameS S a b) (k : FrameS S b c) : FrameS S a c :=
  ⟨k.os.trans h.os, k.tape.trans h.tape, k.output.trans h.output, Nat.le_trans h.size k.size, fun i hi hr => (k.block i (Nat.lt_of_lt_of_le hi h.size) hr).trans (h.block i hi hr)⟩

theorem FrameS.grown {S : Nat → Prop} {a b : World} {row : Option Nat} (g : a.grownBy b row) (hr : ∀ k, row = some k → S k) : FrameS S a b :=
  ⟨g.os, g.tape, g.output, g.size, fun k hk hh => g.block k hk (fun e => hh (hr k e.symm))⟩

theorem FrameS.mono {S T : Nat → Prop} {a b : World} (h : FrameS S a b) (hs : ∀ k, S k → T k) : FrameS T a b := ⟨h.os, h.tape, h.output, h.size, fun k hk hh => h.block k hk (fun e => hh (hs k e))⟩

theorem FrameS.frame {S : Nat → Prop} {lo hi : Nat} {a b : World} (h : FrameS S a b) (hs : ∀ k, S k → lo ≤ k ∧ k < hi) : Frame lo hi a b := ⟨h.os, h.tape, h.output, h.size, fun k hk hh => h.block k hk (fun e => by have := hs k e; omega)⟩

end Go.Proofs.YtchmmekhfcojgaaGreatDoor
namespace Go.Proofs.YtchmmekhfcojgaaGreatDoor
open Go.RowKit

set_option linter.unusedSimpArgs false

def instD (xs : List RecD) (r : RecD) : List RecD := if takesB xs r then putD xs r else xs

theorem instL_fsts (ps : List RP) (r : RP) : fsts (instL ps r) = instD (fsts ps) r.1 := by
  unfold instL instD
  cases takesB (fsts ps) r.1
  · rfl
  · exact putL_fsts ps r

theorem asc_filter {xs : List RecD} (h : Asc xs) (f : RecD → Bool) : Asc (xs.filter f) := List.Pairwise.filter f h

theorem asc_putD {xs : List RecD} (h : Asc xs) (r : RecD) : Asc (putD xs r) := by
  unfold putD Asc
  rw [List.append_assoc, List.pairwise_append]
  refine ⟨asc_filter h _, ?_, ?_⟩
  · rw [List.pairwise_append]
    refine ⟨by simp, asc_filter h _, ?_⟩
    intro a ha b hb
    have : a = r := by simpa using ha
    subst this
    simpa using (List.mem_filter.1 hb).2
  · intro a ha b hb
    have h1 : beforeB a r = true := by simpa using (List.mem_filter.1 ha).2
    rcases List.mem_append.1 hb with h2 | h2
    · have : b = r := by simpa using h2
      subst this
      exact h1
    · have h3 : beforeB r b = true := by simpa using (List.mem_filter.1 h2).2
      exact bef_trans h1 h3

theorem store_asc_of {xs : List RecD} (h : storeB xs = true) : Asc xs := by
  unfold storeB at h
  simp only [Bool.and_eq_true] at h
  exact asc_of h.2

end Go.Proofs.YtchmmekhfcojgaaGreatDoor
namespace Go.Proofs.YtchmmekhfcojgaaGreatDoor
open Go.RowKit

end Go.Proofs.YtchmmekhfcojgaaGreatDoor
namespace Go.Proofs.YtchmmekhfcojgaaGreatDoor
open Go.RowKit

set_option linter.unusedSimpArgs false

end Go.Proofs.YtchmmekhfcojgaaGreatDoor
namespace Go.Proofs.YtchmmekhfcojgaaGreatDoor
open Go.RowKit

set_option linter.unusedSimpArgs false

theorem allOk_at {α : Type} {f : α → Bool} {xs : List α} (h : allOk f xs = true) (i : Nat) (hi : i < xs.length) : f xs[i] = true := by
  have h1 := List.all_eq_true.1 h i (List.mem_range.2 hi)
  unfold okAt at h1
  rw [List.getElem?_eq_getElem hi] at h1
  exact h1

theorem nears_le {o : Int} {ns : List Nr} (h : nearsB o ns = true) : ns.length ≤ 6 := by
  unfold nearsB at h
  simp only [Bool.and_eq_true] at h
  have hb : ∀ i (hi : i < ns.length), (i : Int) + 1 ≤ ns[i].to := by
    intro i
    induction i with
    | zero =>
      intro hi
      have h1 := allOk_at h.1 0 hi
      unfold nearOkB inB at h1
      simp only [Bool.and_eq_true, decide_eq_true_eq] at h1
      omega
    | succ i ih =>
      intro hi
      have h1 := ih (by omega)
      have h2 := List.all_eq_true.1 h.2 (i + 1) (List.mem_range.2 hi)
      rw [ascAt_eq (List.getElem?_eq_getElem (by omega)) (List.getElem?_eq_getElem hi)] at h2
      unfold ordN at h2
      simp only [decide_eq_true_eq] at h2
      omega
  cases Nat.lt_or_ge 6 ns.length with
  | inr h0 => exact h0
  | inl h0 =>
    have h1 := hb 6 h0
    have h2 := allOk_at h.1 6 h0
    unfold nearOkB inB at h2
    simp only [Bool.and_eq_true, decide_eq_true_eq] at h2
    omega

theorem recOk_near {x : RecD} (h : recOkB x = true) : x.near.length ≤ 6 := by
  unfold recOkB at h
  simp only [Bool.and_eq_true] at h
  have h2 := h.2
  split at h2
  · simp only [Bool.and_eq_true] at h2
    exact nears_le h2.1.1.2
  · split at h2
    · simp only [Bool.and_eq_true, beq_iff_eq] at h2
      omega
    · split at h2
      · simp only [Bool.and_eq_true, beq_iff_eq] at h2
        omega
      · cases h2

end Go.Proofs.YtchmmekhfcojgaaGreatDoor
namespace Go.Proofs.YtchmmekhfcojgaaGreatDoor
open Go.RowKit

set_option linter.unusedSimpArgs false

theorem totD_le {xs : List RecD} (h : ∀ x ∈ xs, recOkB x = true) : totD xs ≤ xs.length * 7 := by
  induction xs with
  | nil => simp [totD]
  | cons x xs ih =>
    rw [totD_cons, List.length_cons]
    have h1 := ih (fun y hy => h y (List.mem_cons_of_mem _ hy))
    have h2 := recOk_near (h x (List.mem_cons_self ..))
    omega

theorem store_ok {xs : List RecD} (h : storeB xs = true) : xs.length ≤ 150 ∧ (∀ x ∈ xs, recOkB x = true) ∧ Asc xs := by
  have h1 := store_asc_of h
  unfold storeB at h
  simp only [Bool.and_eq_true, decide_eq_true_eq] at h
  refine ⟨h.1.1, ?_, h1⟩
  intro x hx
  obtain ⟨i, hi, e⟩ := List.getElem_of_mem hx
  rw [← e]
  exact allOk_at h.1.2 i hi

theorem store_tot {xs : List RecD} (h : storeB xs = true) : totD xs ≤ 1050 := by
  have h1 := store_ok h
  have h2 := totD_le h1.2.1
  omega

theorem takes_ok {xs : List RecD} {r : RecD} (h : takesB xs r = true) : recOkB r = true := by
  unfold takesB at h
  simp only [Bool.and_eq_true] at h
  exact h.1

end Go.Proofs.YtchmmekhfcojgaaGreatDoor
namespace Go.Proofs.YtchmmekhfcojgaaGreatDoor
open Go.RowKit

set_option linter.unusedSimpArgs false

set_option maxRecDepth 100000 in
set_option maxHeartbeats 2000000 in
theorem same_any (x : RecD) (v1 v2 : Value) (w : World) (h1 : NearsAt w v1 x.near w.heap.size) (h2 : NearsAt w v2 x.near w.heap.size) (hl : x.near.length ≤ 1048576) :
    Calls Tryz.prog 25 #[.agg (recC x v1), .agg (recC x v2)] w fun e w' => e = .returned (.bool true) ∧ Below w.heap.size w w' := by
  obtain ⟨a1, c1, rfl⟩ := h1.shape
  obtain ⟨a2, c2, rfl⟩ := h2.shape
  have H1 := hide h1
  have H2 := hide h2
  clear h1 h2
  have BX : Below w.heap.size w ((w.alloc (.cells (recC x (.slice a1 x.near.length c1)) 51)).alloc (.cells (recC x (.slice a2 x.near.length c2)) 51)) := below_two _ _
  have hq0 : ((w.alloc (.cells (recC x (.slice a1 x.near.length c1)) 51)).alloc (.cells (recC x (.slice a2 x.near.length c2)) 51)).heap[w.heap.size]? = some (.cells (recC x (.slice a1 x.near.length c1)) 51) := by rw [Below.heap_alloc _ _ _ (by simp), heap_alloc_new]
  have hq1 : ((w.alloc (.cells (recC x (.slice a1 x.near.length c1)) 51)).alloc (.cells (recC x (.slice a2 x.near.length c2)) 51)).heap[w.heap.size + 1]? = some (.cells (recC x (.slice a2 x.near.length c2)) 51) := by
    have e := heap_alloc_new (w.alloc (.cells (recC x (.slice a1 x.near.length c1)) 51)) (.cells (recC x (.slice a2 x.near.length c2)) 51)
    simpa using e
  obtain ⟨wx, hwx⟩ : ∃ wx, wx = (w.alloc (.cells (recC x (.slice a1 x.near.length c1)) 51)).alloc (.cells (recC x (.slice a2 x.near.length c2)) 51) := ⟨_, rfl⟩
  rw [← hwx] at BX hq0 hq1
  have hsx := lt_of_heap hq1
  unfold recC at *
  have HQ0 := hide hq0
  have HQ1 := hide hq1
  clear hq0 hq1
  go_enter Tryz.func25, Tryz.ntmps25
  go_wp2
  rw [← hwx]
  clear hwx
  go_loopw [5] (fun i wr => ∃ k : Nat, k ≤ x.near.length ∧ i = .int .i64 k ∧ Below wx.heap.size wx wr) (fun i _ => x.near.length - (intOf i).toNat)
  case atStart => exact ⟨0, by omega, rfl, Below.refl _ _⟩
  case round =>
    obtain ⟨k, hk, rfl, hb⟩ := hrel
    have hbs := hb.size
    have hr0 := (hb.block _ (lt_of_heap HQ0.out)).trans HQ0.out
    have hr1 := (hb.block _ (lt_of_heap HQ1.out)).trans HQ1.out
    have s5 := cells_at hr0 5
    have t5 := cells_at hr1 5
    simp at s5 t5
    have BWR : Below w.heap.size w wr := BX.trans (hb.mono (by omega))
    by_cases hlt : k < x.near.length
    · obtain ⟨n, hn⟩ : ∃ n, x.near[k]? = some n := ⟨x.near[k], List.getElem?_eq_getElem hlt⟩
      obtain ⟨d1, o1, e1, hv1, hd1, f0, f1⟩ := H1.out.cells k n hn
      obtain ⟨d2, o2, e2, hv2, hd2, g0, g1⟩ := H2.out.cells k n hn
      cases hv1
      cases hv2
      rw [← BWR.cell (p := ⟨d1, o1 + k * 2, none⟩) hd1] at f0
      rw [← BWR.cell (p := ⟨d1, o1 + k * 2 + 1, none⟩) hd1] at f1
      rw [← BWR.cell (p := ⟨d2, o2 + k * 2, none⟩) hd2] at g0
      rw [← BWR.cell (p := ⟨d2, o2 + k * 2 + 1, none⟩) hd2] at g1
      have hki : (0 : Int) ≤ (k : Int) := by omega
      have hkj : (k : Int) < (x.near.length : Int) := by omega
      have e0 := fun W => near_neq W n.to n.c n.to n.c
      rw [decide_eq_true rfl] at e0
      clear hn hr0 hr1
      go_wp2
      go_quiet (fail)
      go_wp2
      go_roundw
      case rel => exact ⟨k + 1, by omega, by go_num, hb.trans ⟨rfl, rfl, rfl, Nat.le_refl _, fun _ _ => rfl⟩⟩
      case measure => simp [intOf]; omega
    · have hkn : k = x.near.length := by omega
      have KN := hide hkn
      clear hkn hr0 hr1
      go_wp2
      go_ret
      exact ⟨rfl, BWR⟩
end Go.Proofs.YtchmmekhfcojgaaGreatDoor
