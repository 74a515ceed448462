/-
  laws.markWayS, heldWayS: only the list's own memory turns; what was marked is held.
-/
import Derived.Test.YtnpafmjfhglbhaaWaysL
import Derived.Test.YtnpafmjfhglbhaaRowsM
namespace Go.Proofs.Ytnpafmjfhglbhaa
open Go.RowKit

/-- the numbers of a record that is marked from c on -/
def mkW (c : Int) (p : WP) : WP := (⟨c, c + 1, marksI (c + 1 + 1) p.1.hops.length⟩, p.2)

def nxW (c : Int) (p : WP) : Int := c + 1 + 1 + (p.1.hops.length : Int)

def mkWL : Int → List WP → List WP
  | _, [] => []
  | c, p :: ps => mkW c p :: mkWL (nxW c p) ps

def mkWE : Int → List WP → Int
  | c, [] => c
  | c, p :: ps => mkWE (nxW c p) ps

theorem mkWL_len (c : Int) (ps : List WP) : (mkWL c ps).length = ps.length := by
  induction ps generalizing c with
  | nil => rfl
  | cons p ps ih => simp [mkWL, ih]

theorem mkWE_append (c : Int) (a b : List WP) : mkWE c (a ++ b) = mkWE (mkWE c a) b := by
  induction a generalizing c with
  | nil => rfl
  | cons p a ih => exact ih _

theorem mkWL_append (c : Int) (a b : List WP) : mkWL c (a ++ b) = mkWL c a ++ mkWL (mkWE c a) b := by
  induction a generalizing c with
  | nil => rfl
  | cons p a ih => simp only [List.cons_append, mkWL, mkWE, ih]

theorem mkWE_step {ps : List WP} {k : Nat} {p : WP} (c : Int) (h : ps[k]? = some p) : mkWE c (ps.take (k + 1)) = nxW (mkWE c (ps.take k)) p := by
  obtain ⟨hk, e⟩ := List.getElem?_eq_some_iff.1 h
  rw [List.take_succ_eq_append_getElem hk, mkWE_append, e]
  rfl

theorem mkWL_step {ps : List WP} {k : Nat} {p : WP} (c : Int) (h : ps[k]? = some p) : mkWL c (ps.take (k + 1)) = mkWL c (ps.take k) ++ [mkW (mkWE c (ps.take k)) p] := by
  obtain ⟨hk, e⟩ := List.getElem?_eq_some_iff.1 h
  rw [List.take_succ_eq_append_getElem hk, mkWL_append, e]
  rfl

theorem mkWE_tot (c : Int) (ps : List WP) : c + (totW ps : Int) ≤ mkWE c ps ∧ mkWE c ps ≤ c + 2 * (totW ps : Int) := by
  induction ps generalizing c with
  | nil => simp [mkWE, totW]
  | cons p ps ih =>
    have h := ih (nxW c p)
    rw [totW_cons]
    simp only [mkWE]
    unfold nxW at h ⊢
    omega

theorem totW_takeLe (ps : List WP) (k : Nat) : totW (ps.take k) ≤ totW ps := by
  have h := totW_append (ps.take k) (ps.drop k)
  rw [List.take_append_drop] at h
  omega

theorem mkWL_at {ps : List WP} {k : Nat} {p : WP} (c : Int) (h : ps[k]? = some p) : (mkWL c ps)[k]? = some (mkW (mkWE c (ps.take k)) p) := by
  obtain ⟨hk, e⟩ := List.getElem?_eq_some_iff.1 h
  have e2 : ps = ps.take k ++ (p :: ps.drop (k + 1)) := by
    rw [← e]
    simp
  have e3 : mkWL c ps = mkWL c (ps.take k) ++ (mkW (mkWE c (ps.take k)) p :: mkWL (nxW (mkWE c (ps.take k)) p) (ps.drop (k + 1))) := by
    conv => lhs; rw [e2]
    rw [mkWL_append]
    rfl
  rw [e3, List.getElem?_append_right (by rw [mkWL_len, List.length_take]; omega), mkWL_len, List.length_take, Nat.min_eq_left (by omega), Nat.sub_self]
  rfl

theorem apartW_snd (ps : List WP) : ps.Pairwise ApartW ↔ (ps.map (·.2)).Pairwise (fun a b : Value => ∀ k, a.ownBlock = some k → b.ownBlock ≠ some k) := by
  rw [List.pairwise_map]
  exact Iff.rfl

theorem apartW_at {ps : List WP} (h : ps.Pairwise ApartW) {i k : Nat} {p q : WP} (hi : ps[i]? = some p) (hk : ps[k]? = some q) (hne : i ≠ k) : ApartW p q := by
  obtain ⟨h1, e1⟩ := List.getElem?_eq_some_iff.1 hi
  obtain ⟨h2, e2⟩ := List.getElem?_eq_some_iff.1 hk
  rw [List.pairwise_iff_getElem] at h
  rcases Nat.lt_or_ge i k with hl | hl
  · have := h i k h1 h2 hl
    rw [e1, e2] at this
    exact this
  · have := h k i h2 h1 (by omega)
    rw [e1, e2] at this
    exact fun j hj he => this j he hj

theorem setW_snd {ps : List WP} {k : Nat} {p q : WP} (hk : ps[k]? = some p) (h : q.2 = p.2) : (ps.set k q).map (·.2) = ps.map (·.2) := by
  apply List.ext_getElem?
  intro i
  by_cases e : i = k
  · subst e
    obtain ⟨h1, e1⟩ := List.getElem?_eq_some_iff.1 hk
    rw [List.getElem?_map, List.getElem?_set_self h1, List.getElem?_map, hk]
    simp [h]
  · simp [List.getElem?_set_ne (Ne.symm e)]

theorem setW2 {xs : List WP} {k : Nat} {p q : WP} (hk : xs[k]? = some p) (hq : q.2 = p.2) : ((flat encW xs).set (k * 3) (.int .i64 q.1.to)).set (k * 3 + 1) (.int .i64 q.1.cost) = flat encW (xs.set k q) := by
  obtain ⟨hlt, _⟩ := List.getElem?_eq_some_iff.1 hk
  have e : (((flat encW xs).set (k * 3) (.int .i64 q.1.to)).set (k * 3 + 1) (.int .i64 q.1.cost)).set (k * 3 + 2) q.2 = flat encW (xs.set k q) := flat_set encW_len xs k q hlt
  rw [← e]
  have h5 : (((flat encW xs).set (k * 3) (.int .i64 q.1.to)).set (k * 3 + 1) (.int .i64 q.1.cost))[k * 3 + 2]? = some q.2 := by
    rw [List.getElem?_set_ne (by omega), List.getElem?_set_ne (by omega), flat_get encW_len xs k 2 p hk (by omega), hq]
    rfl
  obtain ⟨h6, e6⟩ := List.getElem?_eq_some_iff.1 h5
  rw [← e6]
  exact (List.set_getElem_self h6).symm

abbrev setM2 (W : World) (g o : Nat) (z : Int) : World := (W.setCell ⟨g, o, none⟩ (.int .i64 z)).setCell ⟨g, o + 1, none⟩ (.int .i64 (z + 1))

theorem setM2_grown (W : World) (g o : Nat) (z : Int) : W.grownBy (setM2 W g o z) (some g) := grown_trans (grown_set W g _ _) (grown_set _ g _ _)

end Go.Proofs.Ytnpafmjfhglbhaa
