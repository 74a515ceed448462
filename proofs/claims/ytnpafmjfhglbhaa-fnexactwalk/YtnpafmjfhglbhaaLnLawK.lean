/-
  What the laws of lines want.
-/
import Derived.Test.YtnpafmjfhglbhaaLnsM
namespace Go.Proofs.Ytnpafmjfhglbhaa
open Go.RowKit

def totJD (xs : List LnD) : Nat := (xs.map (fun x => 1 + x.hops.length)).sum

theorem totJ_D (ps : List JP) : totJ ps = totJD (fstsJ ps) := by simp [totJ, totJD, fstsJ, List.map_map, Function.comp_def]

theorem totJD_cons (x : LnD) (xs : List LnD) : totJD (x :: xs) = 1 + x.hops.length + totJD xs := by simp [totJD]

theorem totJD_append (a b : List LnD) : totJD (a ++ b) = totJD a + totJD b := by simp [totJD]

theorem totJD_filter (f : LnD → Bool) (xs : List LnD) : totJD (xs.filter f) ≤ totJD xs := by
  induction xs with
  | nil => simp [totJD]
  | cons x xs ih =>
    rw [List.filter_cons]
    split
    · rw [totJD_cons, totJD_cons]; omega
    · rw [totJD_cons]; omega

theorem eqLineS_own (v1 v2 : Value) (ps qs : List JP) (l1 h1 l2 h2 : Nat) (w : World) (k1 : LnsOwn w l1 h1 v1 ps) (k2 : LnsOwn w l2 h2 v2 qs) (he : fstsJ ps = fstsJ qs) (hn : totJ ps ≤ 1048576) (g1 : h1 ≤ w.heap.size) (g2 : h2 ≤ w.heap.size) :
    Calls Try.prog 9 #[v1, v2] w fun e w' => e = .returned (.bool true) ∧ Below w.heap.size w w' := by
  have h := eqLineS_any v1 v2 ps qs w (k1.at.more g1) (k2.at.more g2) (Nat.le_trans (totJ_len ps) hn) (fun _ hp => Nat.le_trans (totJ_mem hp) hn)
  rw [decide_eq_true he] at h
  exact h

theorem toLineS_own (v : Value) (ps : List JP) (w W : World) (h0 : LnsAt w v ps w.heap.size) (hb : Below w.heap.size w W) (hn : totJ ps ≤ 1048576) :
    Calls Try.prog 36 #[v] W fun e w' => ∃ x qs, e = .returned x ∧ fstsJ qs = fstsJ ps ∧ LnsOwn w' W.heap.size w'.heap.size x qs ∧ Below W.heap.size W w' :=
  toLineS_any v ps W (Nat.le_trans (totJ_len ps) hn) (fun _ hp => Nat.le_trans (totJ_mem hp) hn) ((h0.later hb (Nat.le_refl _)).more hb.size)

theorem totJ_eq {ps qs : List JP} (h : fstsJ ps = fstsJ qs) : totJ ps = totJ qs := by rw [totJ_D, totJ_D, h]

theorem mkJE_pos (ps : List JP) : ¬ mkJE 1 ps < 0 := by have := mkJE_tot 1 ps; omega

theorem heldJS_own (v : Value) (ps : List JP) (l h : Nat) (w : World) (k : LnsOwn w l h v (mkJL 1 ps)) (hn : totJ ps ≤ 1048576) (g : h ≤ w.heap.size) :
    Calls Try.prog 13 #[v, .int .i64 1] w fun e w' => e = .returned (.int .i64 (mkJE 1 ps)) ∧ w = w' :=
  heldLineS_any v ps 1 w (k.at.more g) hn (by omega) (by omega)

end Go.Proofs.Ytnpafmjfhglbhaa
