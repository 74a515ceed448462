/-
  What the laws of routes want.
-/
import Derived.Test.YtidoieolejkflaaRtsM
namespace Go.Proofs.Ytidoieolejkflaa
open Go.RowKit

def totQD (xs : List RtD) : Nat := (xs.map (fun x => 1 + x.hops.length)).sum

theorem totQ_D (ps : List QP) : totQ ps = totQD (fstsQ ps) := by simp [totQ, totQD, fstsQ, List.map_map, Function.comp_def]

theorem totQD_cons (x : RtD) (xs : List RtD) : totQD (x :: xs) = 1 + x.hops.length + totQD xs := by simp [totQD]

theorem totQD_append (a b : List RtD) : totQD (a ++ b) = totQD a + totQD b := by simp [totQD]

theorem totQD_filter (f : RtD → Bool) (xs : List RtD) : totQD (xs.filter f) ≤ totQD xs := by
  induction xs with
  | nil => simp [totQD]
  | cons x xs ih =>
    rw [List.filter_cons]
    split
    · rw [totQD_cons, totQD_cons]; omega
    · rw [totQD_cons]; omega

theorem eqRouteS_own (v1 v2 : Value) (ps qs : List QP) (l1 h1 l2 h2 : Nat) (w : World) (k1 : RtsOwn w l1 h1 v1 ps) (k2 : RtsOwn w l2 h2 v2 qs) (he : fstsQ ps = fstsQ qs) (hn : totQ ps ≤ 1048576) (g1 : h1 ≤ w.heap.size) (g2 : h2 ≤ w.heap.size) :
    Calls Try.prog 12 #[v1, v2] w fun e w' => e = .returned (.bool true) ∧ Below w.heap.size w w' := by
  have h := eqRouteS_any v1 v2 ps qs w (k1.at.more g1) (k2.at.more g2) (Nat.le_trans (totQ_len ps) hn) (fun _ hp => Nat.le_trans (totQ_mem hp) hn)
  rw [decide_eq_true he] at h
  exact h

theorem toRouteS_own (v : Value) (ps : List QP) (w W : World) (h0 : RtsAt w v ps w.heap.size) (hb : Below w.heap.size w W) (hn : totQ ps ≤ 1048576) :
    Calls Try.prog 9 #[v] W fun e w' => ∃ x qs, e = .returned x ∧ fstsQ qs = fstsQ ps ∧ RtsOwn w' W.heap.size w'.heap.size x qs ∧ Below W.heap.size W w' :=
  toRouteS_any v ps W (Nat.le_trans (totQ_len ps) hn) (fun _ hp => Nat.le_trans (totQ_mem hp) hn) ((h0.later hb (Nat.le_refl _)).more hb.size)

theorem totQ_eq {ps qs : List QP} (h : fstsQ ps = fstsQ qs) : totQ ps = totQ qs := by rw [totQ_D, totQ_D, h]

theorem mkQE_pos (ps : List QP) : ¬ mkQE 1 ps < 0 := by have := mkQE_tot 1 ps; omega

end Go.Proofs.Ytidoieolejkflaa
