/-
  spec.CostTo: its contract.
-/
import Derived.Test.YtacbohnaofajaaaRowAt
namespace Go.Proofs.Ytacbohnaofajaaa
open Go.RowKit

def lkHit (f t r : Int) (l : Lk) : Bool := l.r == r && ((l.a == f && l.b == t) || (l.a == t && l.b == f))

def costN (ls : List Lk) (f t r : Int) : Int := ((ls.find? (lkHit f t r)).map (·.c)).getD 0

theorem find_first {α : Type} (p : α → Bool) : ∀ (ls : List α) (k : Nat) (l : α), (∀ j, j < k → ∀ x, ls[j]? = some x → p x = false) → ls[k]? = some l → p l = true → ls.find? p = some l
  | [], _, _, _, h, _ => by simp at h
  | y :: ys, 0, l, _, h, hp => by simp at h; subst h; simp [hp]
  | y :: ys, k + 1, l, hno, h, hp => by
    have h0 := hno 0 (by omega) y rfl
    rw [List.find?_cons, h0]
    exact find_first p ys k l (fun j hj x hx => hno (j + 1) (by omega) x (by simpa using hx)) (by simpa using h) hp

theorem find_noneL {α : Type} (p : α → Bool) (ls : List α) (h : ∀ j, j < ls.length → ∀ x, ls[j]? = some x → p x = false) : ls.find? p = none := by
  rw [List.find?_eq_none]
  intro x hx
  obtain ⟨i, hi, e⟩ := List.mem_iff_getElem.1 hx
  rw [h i hi x (by rw [List.getElem?_eq_getElem hi, e])]
  decide

theorem no_next {α : Type} {p : α → Bool} {ls : List α} {k : Nat} {l : α} (h : ∀ j, j < k → ∀ x, ls[j]? = some x → p x = false) (hl : ls[k]? = some l) (hp : p l = false) : ∀ j, j < k + 1 → ∀ x, ls[j]? = some x → p x = false := by
  intro j hj x hx
  by_cases e : j = k
  · subst e; rw [hl] at hx; cases hx; exact hp
  · exact h j (by omega) x hx

theorem cost_hit {ls : List Lk} {f t r : Int} {k : Nat} {l : Lk} (h : ∀ j, j < k → ∀ x, ls[j]? = some x → lkHit f t r x = false) (hl : ls[k]? = some l) (hp : lkHit f t r l = true) : costN ls f t r = l.c := by
  unfold costN; rw [find_first _ ls k l h hl hp]; rfl

theorem cost_next {ls : List Lk} {f t r : Int} {k : Nat} {l : Lk} (h : ∀ j, j < k → ∀ x, ls[j]? = some x → lkHit f t r x = false) (hl : ls[k]? = some l) (hp : lkHit f t r l = false) : ∀ j, j < k + 1 → ∀ x, ls[j]? = some x → lkHit f t r x = false := no_next h hl hp

theorem cost_none {ls : List Lk} {f t r : Int} {k : Nat} (h : ∀ j, j < k → ∀ x, ls[j]? = some x → lkHit f t r x = false) (hk : k = ls.length) : costN ls f t r = 0 := by
  unfold costN; rw [find_noneL _ ls (by rw [← hk]; exact h)]; rfl

end Go.Proofs.Ytacbohnaofajaaa
