/-
  Regions that draw their order, by an invariant on what has come up.
  The cursor of a draw: spec.l01Byte, l01Below, l01Once: some number in its range comes back; nothing but the cursor's own block turns.
-/
import Derived.Test.YtpiookjdeopmgaaDoorRd2
namespace Go.Proofs.YtpiookjdeopmgaaDoor
open Go.RowKit

theorem cnt_le {p q : Nat → Bool} (h : ∀ x, q x = true → p x = true) : ∀ l : List Nat, (l.filter q).length ≤ (l.filter p).length
  | [] => by simp
  | y :: ys => by
    have ih := cnt_le h ys
    have hy := h y
    simp only [List.filter_cons]
    cases hq : q y <;> cases hp : p y <;> simp_all <;> omega

theorem cnt_lt {p q : Nat → Bool} (h : ∀ x, q x = true → p x = true) {x : Nat} (h1 : p x = true) (h2 : q x = false) : ∀ l : List Nat, x ∈ l → (l.filter q).length < (l.filter p).length
  | [], hx => by cases hx
  | y :: ys, hx => by
    have le := cnt_le h ys
    simp only [List.filter_cons]
    by_cases e : y = x
    · subst e
      simp only [h1, h2, if_true, Bool.false_eq_true, if_false, List.length_cons]
      omega
    · have hm : x ∈ ys := by
        rcases List.mem_cons.1 hx with e2 | e2
        · exact absurd e2.symm e
        · exact e2
      have ih := cnt_lt h h1 h2 ys hm
      have hy := h y
      cases hq : q y <;> cases hp : p y <;> simp_all
      omega

def unl (n : Nat) (listed : Array Bool) : Nat := ((List.range n).filter (fun i => !listed.getD i true)).length

theorem unl_step {n i : Nat} {listed : Array Bool} (hi : i < n) (h : listed.getD i true = false) : unl n (listed.setIfInBounds i true) < unl n listed := by
  have hs : i < listed.size := by
    rcases Nat.lt_or_ge i listed.size with h' | h'
    · exact h'
    · simp [Array.getElem?_eq_none h'] at h
  refine cnt_lt (x := i) (fun x hx => ?_) (by simp only [h]; rfl) ?_ _ (List.mem_range.2 hi)
  · by_cases e : i = x
    · subst e
      simp [hs] at hx
    · rw [getD_set_ne true e] at hx
      exact hx
  · simp [hs]

/-- whatever order is picked: what holds at the beginning and is kept by every operation that may come up holds at the end, where all have come up -/
theorem wpAny_inv {P : Program} {ops : Array Oper} {Q : Exit → Act → World → Prop} {I : Array Bool → Act → World → Prop}
    (hord : ∀ i o, ops[i]? = some o → ∀ e ∈ o.after, Region.binds .any e = true → e.on < i)
    (hstep : ∀ i listed a w, I listed a w → i ∈ Region.ready .any ops listed → wpOp P ops Q i (fun a' w' => I (listed.setIfInBounds i true) a' w') a w)
    (hend : ∀ listed a w, I listed a w → (∀ i, i < ops.size → listed.getD i true = true) → Q .normal a w) :
    ∀ (fuel : Nat) (listed : Array Bool) (a : Act) (w : World), unl ops.size listed ≤ fuel → I listed a w → wpAny P .any ops Q fuel listed a w := by
  have hall : ∀ listed : Array Bool, Region.ready .any ops listed = [] → ∀ i, i < ops.size → listed.getD i true = true := by
    intro listed hr i
    induction i using Nat.strongRecOn with
    | ind i ih =>
      intro hi
      cases hc : listed.getD i true with
      | true => rfl
      | false =>
        exfalso
        have hs : i < listed.size := by
          rcases Nat.lt_or_ge i listed.size with h' | h'
          · exact h'
          · simp [Array.getElem?_eq_none h'] at hc
        have hm : i ∈ Region.ready .any ops listed := mem_ready.2 ⟨hc, ops[i], Array.getElem?_eq_getElem hi, fun e he hb => by
          have h1 := hord i _ (Array.getElem?_eq_getElem hi) e he hb
          have h2 := ih e.on h1 (by omega)
          have h3 : e.on < listed.size := by omega
          simp [h3] at h2 ⊢
          exact h2⟩
        rw [hr] at hm
        cases hm
  intro fuel
  induction fuel with
  | zero =>
    intro listed a w hu hI
    have hr : Region.ready .any ops listed = [] := by
      cases he : Region.ready .any ops listed with
      | nil => rfl
      | cons j js =>
        exfalso
        have hm : j ∈ Region.ready .any ops listed := by rw [he]; exact .head _
        obtain ⟨h1, o, h2, _⟩ := mem_ready.1 hm
        have := unl_step (n := ops.size) (Array.getElem?_eq_some_iff.1 h2).1 h1
        omega
    exact ⟨hr, hend listed a w hI (hall listed hr)⟩
  | succ fuel ih =>
    intro listed a w hu hI
    refine ⟨fun hr => hend listed a w hI (hall listed hr), fun j hj => ?_⟩
    obtain ⟨h1, o, h2, _⟩ := mem_ready.1 hj
    have h3 := unl_step (n := ops.size) (Array.getElem?_eq_some_iff.1 h2).1 h1
    exact wpOp_mono (fun a' w' h => ih _ a' w' (by omega) h) (hstep j listed a w hI hj)
end Go.Proofs.YtpiookjdeopmgaaDoor
namespace Go.Proofs.YtpiookjdeopmgaaDoor
open Go.RowKit

/-- the bytes of a draw: len of them, in a block below p -/
def Code (w : World) (a : Option Addr) (len p : Nat) : Prop :=
  len ≤ 1048576 ∧ (len = 0 ∨ ∃ b off, a = some ⟨b, off, none⟩ ∧ b < p ∧ ∀ i, i < len → ∃ x : Nat, x < 256 ∧ w.cell? ⟨b, off + i, none⟩ = some (.int .u8 (x : Int)))

theorem Code.grown {w w' : World} {a : Option Addr} {len p : Nat} {row : Option Nat} (h : Code w a len p) (hg : w.grownBy w' row) (hr : ∀ b, b < p → some b ≠ row) : Code w' a len p := by
  refine ⟨h.1, ?_⟩
  rcases h.2 with h0 | ⟨b, off, ha, hb, hx⟩
  · exact .inl h0
  · refine .inr ⟨b, off, ha, hb, fun i hi => ?_⟩
    obtain ⟨x, h1, h2⟩ := hx i hi
    exact ⟨x, h1, hg.cell h2 (hr b hb)⟩

end Go.Proofs.YtpiookjdeopmgaaDoor
