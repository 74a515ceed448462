/-
  The plain mathematics of reading hex figures.
-/
import Derived.Test.YteagdicpefchaaaDoorMath
namespace Go.Proofs.YteagdicpefchaaaDoor
open Go.RowKit

def fv (c : Nat) : Int := if 48 ≤ c ∧ c ≤ 57 then (c : Int) - 48 else if 97 ≤ c ∧ c ≤ 102 then (c : Int) - 87 else -1

theorem fv_dig {c : Nat} (h : 48 ≤ c ∧ c ≤ 57) : fv c = (c : Int) - 48 := by unfold fv; rw [if_pos h]
theorem fv_let {c : Nat} (h : 97 ≤ c ∧ c ≤ 102) : fv c = (c : Int) - 87 := by unfold fv; rw [if_neg (by omega), if_pos h]
theorem fv_no {c : Nat} (h1 : ¬ (48 ≤ c ∧ c ≤ 57)) (h2 : ¬ (97 ≤ c ∧ c ≤ 102)) : fv c = -1 := by unfold fv; rw [if_neg h1, if_neg h2]
theorem fv_le (c : Nat) : fv c ≤ 15 ∧ -1 ≤ fv c := by unfold fv; split; omega; split <;> omega

def pairB (a b : UInt8) : UInt8 := UInt8.ofNat ((fv a.toNat).toNat * 16 + (fv b.toNat).toNat)
def unL : List UInt8 → List UInt8
  | a :: b :: r => pairB a b :: unL r
  | _ => []
def okF (l : List UInt8) : Bool := l.all fun b => decide (0 ≤ fv b.toNat)

theorem okF_snoc (l : List UInt8) (b : UInt8) : okF (l ++ [b]) = (okF l && decide (0 ≤ fv b.toNat)) := by simp [okF]
theorem okF_append (l r : List UInt8) : okF (l ++ r) = (okF l && okF r) := by simp [okF]

def oneB (a : UInt8) : UInt8 := UInt8.ofNat (fv a.toNat).toNat
def rowU : Nat → List UInt8 → List UInt8
  | m, [] => List.replicate m 0
  | m, [a] => oneB a :: List.replicate (m - 1) 0
  | m, a :: b :: r => pairB a b :: rowU (m - 1) r

theorem rowU_len : ∀ (m : Nat) (l : List UInt8), l.length ≤ 2 * m → (rowU m l).length = m
  | m, [], _ => by simp [rowU]
  | m, [a], h => by simp at h; simp [rowU]; omega
  | m, a :: b :: r, h => by simp at h; simp [rowU, rowU_len (m - 1) r (by omega)]; omega

theorem rowU_full : ∀ (m : Nat) (l : List UInt8), l.length = 2 * m → rowU m l = unL l
  | m, [], h => by
    have : m = 0 := by simp at h; omega
    subst this
    simp [rowU, unL]
  | m, [a], h => by simp at h; omega
  | m, a :: b :: r, h => by simp at h; simp [rowU, unL, rowU_full (m - 1) r (by omega)]

/-- one figure more: what the row holds behind it -/
theorem rowU_step : ∀ (m : Nat) (l : List UInt8) (c : UInt8), l.length < 2 * m → okF l = true →
    ∃ x : UInt8, (rowU m l)[l.length / 2]? = some x ∧ x.toNat ≤ 15 ∧ rowU m (l ++ [c]) = (rowU m l).set (l.length / 2) (UInt8.ofNat (x.toNat * 16 + (fv c.toNat).toNat))
  | m, [], c, h, _ => by
    obtain ⟨k, rfl⟩ : ∃ k, m = k + 1 := ⟨m - 1, by simp at h; omega⟩
    refine ⟨0, by simp [rowU], by simp, ?_⟩
    simp [rowU, oneB, List.replicate_succ]
  | m, [a], c, h, hok => by
    have hv := fv_le a.toNat
    refine ⟨oneB a, by simp [rowU], ?_, ?_⟩
    · simp [oneB]; omega
    · have e : (oneB a).toNat = (fv a.toNat).toNat := by simp [oneB]; omega
      rw [e]
      simp [rowU, pairB]
  | m, a :: b :: r, c, h, hok => by
    simp only [List.length_cons] at h
    have hok' : okF r = true := by simp [okF] at hok ⊢; exact hok.2.2
    obtain ⟨x, hx, hx15, hst⟩ := rowU_step (m - 1) r c (by omega) hok'
    have e : (a :: b :: r).length / 2 = r.length / 2 + 1 := by simp; omega
    refine ⟨x, ?_, hx15, ?_⟩
    · rw [e]; simpa [rowU] using hx
    · rw [e]
      simp only [List.cons_append, rowU, List.set_cons_succ, hst]

theorem unL_snoc : ∀ (l : List UInt8) (a b : UInt8), l.length % 2 = 0 → unL (l ++ [a, b]) = unL l ++ [pairB a b]
  | [], a, b, _ => by simp [unL]
  | [_], _, _, h => by simp at h
  | x :: y :: r, a, b, h => by
    simp at h
    simp [unL, unL_snoc r a b (by omega)]

theorem unL_len : ∀ l : List UInt8, 2 * (unL l).length ≤ l.length
  | [] => by simp [unL]
  | [_] => by simp [unL]
  | x :: y :: r => by have := unL_len r; simp [unL]; omega

theorem take_one (s : ByteArray) (k : Nat) (h : k < s.size) : s.data.toList.take (k + 1) = s.data.toList.take k ++ [s[k]] := by
  rw [List.take_succ_eq_append_getElem (by simpa using h)]; rfl

def unV (s : ByteArray) : Value := if okF s.data.toList = true then .tuple #[.string (bs (unL s.data.toList)), .bool true] else .tuple #[.string (bs []), .bool false]

theorem unV_yes {s : ByteArray} (h : okF s.data.toList = true) : unV s = .tuple #[.string (bs (unL s.data.toList)), .bool true] := by unfold unV; rw [if_pos h]
theorem unV_no {s : ByteArray} (h : okF s.data.toList = false) : unV s = .tuple #[.string (bs []), .bool false] := by unfold unV; rw [if_neg (by simp [h])]

theorem okF_bad (s : ByteArray) (k : Nat) (h : k < s.size) (hb : fv s[k].toNat < 0) : okF s.data.toList = false := by
  have e : s.data.toList = s.data.toList.take k ++ (s[k] :: s.data.toList.drop (k + 1)) := by
    have : s.data.toList.drop k = s[k] :: s.data.toList.drop (k + 1) := by
      rw [List.drop_eq_getElem_cons (by simpa using h)]; rfl
    rw [← this, List.take_append_drop]
  rw [e, okF_append]
  have : ¬ 0 ≤ fv s[k].toNat := by omega
  simp [okF, this]

theorem cells_rep (n : Nat) : (madeCells (Value.int .u8 0).cells (n * 1)).toList = cellsOf (List.replicate n 0) := by
  have h : (Value.int .u8 0).cells = #[Value.int .u8 0] := rfl
  rw [h, toList_madeCells_one]
  simp [cellsOf]

theorem cellsOf_set (l : List UInt8) (j : Nat) (b : UInt8) : (cellsOf l).set j (.int .u8 (b.toNat : Int)) = cellsOf (l.set j b) := by simp [cellsOf]
theorem cellsOf_get (l : List UInt8) (j : Nat) (b : UInt8) (h : l[j]? = some b) : (cellsOf l)[j]? = some (.int .u8 (b.toNat : Int)) := by simp [cellsOf, h]

theorem un_stored {w : World} {base g cap m j : Nat} {R R' : List UInt8} {N : Nat} {v : Int} (hown : w.ownsRow base 5 1 (.slice (some ⟨g, 0, none⟩) m cap) m (cellsOf R)) (hst : R' = R.set j (UInt8.ofNat N)) (hv : v = (N : Int)) (hN : N < 256) :
    (w.setCell ⟨g, j, none⟩ (.int .u8 v)).ownsRow base 5 1 (.slice (some ⟨g, 0, none⟩) m cap) m (cellsOf R') := by
  have h := (hown.stored j (.int .u8 v)).1
  have e : v = ((UInt8.ofNat N).toNat : Int) := by rw [hv]; simp; omega
  rw [e, cellsOf_set, ← hst] at h
  rw [e]
  exact h
end Go.Proofs.YteagdicpefchaaaDoor
