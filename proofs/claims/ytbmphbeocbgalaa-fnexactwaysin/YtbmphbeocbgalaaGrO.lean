/-
  What the laws of lists of records want.
  What the laws of ways want.
-/
import Derived.Test.YtbmphbeocbgalaaGrF
import Derived.Test.YtbmphbeocbgalaaGrJ
namespace Go.Proofs.Ytbmphbeocbgalaa
open Go.RowKit

def totD (xs : List RecD) : Nat := (xs.map (fun x => 1 + x.near.length)).sum

theorem tot_D (ps : List RP) : tot ps = totD (fsts ps) := by simp [tot, totD, fsts, List.map_map, Function.comp_def]

theorem totD_cons (x : RecD) (xs : List RecD) : totD (x :: xs) = 1 + x.near.length + totD xs := by simp [totD]

theorem totD_append (a b : List RecD) : totD (a ++ b) = totD a + totD b := by simp [totD]

theorem totD_filter (f : RecD → Bool) (xs : List RecD) : totD (xs.filter f) ≤ totD xs := by
  induction xs with
  | nil => simp [totD]
  | cons x xs ih =>
    rw [List.filter_cons]
    split
    · rw [totD_cons, totD_cons]; omega
    · rw [totD_cons]; omega

theorem eqRecS_own (v1 v2 : Value) (ps qs : List RP) (l1 h1 l2 h2 : Nat) (w : World) (k1 : RecsOwn w l1 h1 v1 ps) (k2 : RecsOwn w l2 h2 v2 qs) (he : fsts ps = fsts qs) (hn : tot ps ≤ 1048576) (g1 : h1 ≤ w.heap.size) (g2 : h2 ≤ w.heap.size) :
    Calls Try.prog 28 #[v1, v2] w fun e w' => e = .returned (.bool true) ∧ Below w.heap.size w w' := by
  have h := eqRecordS_any v1 v2 ps qs w (k1.at.more g1) (k2.at.more g2) (Nat.le_trans (tot_len ps) hn) (fun _ hp => Nat.le_trans (tot_mem hp) hn)
  rw [decide_eq_true he] at h
  exact h

theorem toRecS_own (v : Value) (ps : List RP) (w W : World) (h0 : RecsAt w v ps w.heap.size) (hb : Below w.heap.size w W) (hn : tot ps ≤ 1048576) :
    Calls Try.prog 26 #[v] W fun e w' => ∃ x qs, e = .returned x ∧ fsts qs = fsts ps ∧ RecsOwn w' W.heap.size w'.heap.size x qs ∧ Below W.heap.size W w' :=
  toRecordS_any v ps W (Nat.le_trans (tot_len ps) hn) (fun _ hp => Nat.le_trans (tot_mem hp) hn) ((h0.later hb (Nat.le_refl _)).more hb.size)

theorem tot_eq {ps qs : List RP} (h : fsts ps = fsts qs) : tot ps = tot qs := by rw [tot_D, tot_D, h]

theorem mkE_pos (ps : List RP) : ¬ mkE 1 ps < 0 := by have := mkE_tot 1 ps; omega

theorem heldS_own (v : Value) (ps : List RP) (l h : Nat) (w : World) (k : RecsOwn w l h v (mkL 1 ps)) (hn : tot ps ≤ 1048576) (g : h ≤ w.heap.size) :
    Calls Try.prog 44 #[v, .int .i64 1] w fun e w' => e = .returned (.int .i64 (mkE 1 ps)) ∧ w = w' :=
  heldRecordS_any v ps 1 w (k.at.more g) hn (by omega) (by omega)
end Go.Proofs.Ytbmphbeocbgalaa
namespace Go.Proofs.Ytbmphbeocbgalaa
open Go.RowKit

def totWD (xs : List WayD) : Nat := (xs.map (fun x => 1 + x.hops.length)).sum

theorem totW_D (ps : List WP) : totW ps = totWD (fstsW ps) := by simp [totW, totWD, fstsW, List.map_map, Function.comp_def]

theorem totWD_cons (x : WayD) (xs : List WayD) : totWD (x :: xs) = 1 + x.hops.length + totWD xs := by simp [totWD]

theorem totWD_append (a b : List WayD) : totWD (a ++ b) = totWD a + totWD b := by simp [totWD]

theorem totWD_filter (f : WayD → Bool) (xs : List WayD) : totWD (xs.filter f) ≤ totWD xs := by
  induction xs with
  | nil => simp [totWD]
  | cons x xs ih =>
    rw [List.filter_cons]
    split
    · rw [totWD_cons, totWD_cons]; omega
    · rw [totWD_cons]; omega

theorem eqWayS_own (v1 v2 : Value) (ps qs : List WP) (l1 h1 l2 h2 : Nat) (w : World) (k1 : WaysOwn w l1 h1 v1 ps) (k2 : WaysOwn w l2 h2 v2 qs) (he : fstsW ps = fstsW qs) (hn : totW ps ≤ 1048576) (g1 : h1 ≤ w.heap.size) (g2 : h2 ≤ w.heap.size) :
    Calls Try.prog 20 #[v1, v2] w fun e w' => e = .returned (.bool true) ∧ Below w.heap.size w w' := by
  have h := eqWayS_any v1 v2 ps qs w (k1.at.more g1) (k2.at.more g2) (Nat.le_trans (totW_len ps) hn) (fun _ hp => Nat.le_trans (totW_mem hp) hn)
  rw [decide_eq_true he] at h
  exact h

theorem toWayS_own (v : Value) (ps : List WP) (w W : World) (h0 : WaysAt w v ps w.heap.size) (hb : Below w.heap.size w W) (hn : totW ps ≤ 1048576) :
    Calls Try.prog 18 #[v] W fun e w' => ∃ x qs, e = .returned x ∧ fstsW qs = fstsW ps ∧ WaysOwn w' W.heap.size w'.heap.size x qs ∧ Below W.heap.size W w' :=
  toWayS_any v ps W (Nat.le_trans (totW_len ps) hn) (fun _ hp => Nat.le_trans (totW_mem hp) hn) ((h0.later hb (Nat.le_refl _)).more hb.size)

theorem totW_eq {ps qs : List WP} (h : fstsW ps = fstsW qs) : totW ps = totW qs := by rw [totW_D, totW_D, h]

theorem mkWE_pos (ps : List WP) : ¬ mkWE 1 ps < 0 := by have := mkWE_tot 1 ps; omega

theorem heldWS_own (v : Value) (ps : List WP) (l h : Nat) (w : World) (k : WaysOwn w l h v (mkWL 1 ps)) (hn : totW ps ≤ 1048576) (g : h ≤ w.heap.size) :
    Calls Try.prog 30 #[v, .int .i64 1] w fun e w' => e = .returned (.int .i64 (mkWE 1 ps)) ∧ w = w' :=
  heldWayS_any v ps 1 w (k.at.more g) hn (by omega) (by omega)

structure WayBox (W : World) (lo z : Nat) (x : WayD) (u : Value) : Prop where
  box : W.heap[z]? = some (.cells (wayC x u) 27)
  own : W.ownsRow lo 3 1 u x.hops.length (flat intE x.hops)
  low : lo ≤ z

theorem toWay_own (v : Value) (x : WayD) (w W : World) (h0 : WayAt w v x w.heap.size) (hb : Below w.heap.size w W) (hn : x.hops.length ≤ 1048576) :
    Calls Try.prog 13 #[v] W fun e w' => ∃ v1, e = .returned (.agg (wayC x v1)) ∧ w'.ownsRow W.heap.size 3 1 v1 x.hops.length (flat intE x.hops) ∧ Below W.heap.size W w' :=
  toWay_any v x W hn (h0.then hb)

set_option linter.unusedSimpArgs false

/-- the same, all its blocks in lo .. hi -/
structure WBoxH (W : World) (lo hi z : Nat) (x : WayD) (u : Value) : Prop where
  b : WayBox W lo z x u
  zh : z < hi
  uh : ∀ k, u.ownBlock = some k → k < hi

theorem WBoxH.of {W : World} {lo z : Nat} {x : WayD} {u : Value} (h : WayBox W lo z x u) : WBoxH W lo W.heap.size z x u := ⟨h, lt_of_heap h.box, fun k hk => (h.own.lt k hk).2⟩

theorem WBoxH.keep {W W' : World} {lo hi z : Nat} {x : WayD} {u : Value} (h : WBoxH W lo hi z x u) (hk : ∀ k, lo ≤ k → k < hi → k < W.heap.size → W'.heap[k]? = W.heap[k]?) : WBoxH W' lo hi z x u :=
  ⟨⟨(hk z h.b.low h.zh (lt_of_heap h.b.box)).trans h.b.box, owns_keepB h.b.own (fun k e => hk k (h.b.own.lt k e).1 (h.uh k e) (h.b.own.lt k e).2), h.b.low⟩, h.zh, h.uh⟩

theorem WBoxH.below {W W' : World} {lo hi z B : Nat} {x : WayD} {u : Value} (h : WBoxH W lo hi z x u) (hb : Below B W W') (hB : hi ≤ B) : WBoxH W' lo hi z x u := h.keep (fun k _ h2 _ => hb.block k (by omega))

theorem WBoxH.frame {W W' : World} {lo hi z l2 h2 : Nat} {x : WayD} {u : Value} (h : WBoxH W lo hi z x u) (hb : Frame l2 h2 W W') (hB : hi ≤ l2 ∨ h2 ≤ lo) : WBoxH W' lo hi z x u := h.keep (fun k h1 h2 h3 => hb.block k h3 (by omega))

theorem wbox_new {W : World} {lo : Nat} {x : WayD} {u : Value} (h : W.ownsRow lo 3 1 u x.hops.length (flat intE x.hops)) (hlo : lo ≤ W.heap.size) : WBoxH (W.alloc (.cells (wayC x u) 27)) lo (W.alloc (.cells (wayC x u) 27)).heap.size W.heap.size x u :=
  WBoxH.of ⟨heap_alloc_new _ _, h.alloc _, hlo⟩

theorem WBoxH.wayAt {W : World} {lo hi z : Nat} {x : WayD} {u : Value} (h : WBoxH W lo hi z x u) : WayAt W (.agg (wayC x u)) x W.heap.size := ⟨u, rfl, owns_rowAt h.b.own⟩

theorem eqWay_own (u1 u2 : Value) (x : WayD) (W : World) (h1 : WayAt W (.agg (wayC x u1)) x W.heap.size) (h2 : WayAt W (.agg (wayC x u2)) x W.heap.size) (hn : x.hops.length ≤ 1048576) :
    Calls Try.prog 15 #[.agg (wayC x u1), .agg (wayC x u2)] W fun e w' => e = .returned (.bool true) ∧ Below W.heap.size W w' := by
  have h := eqWay_any _ _ x x W h1 h2 hn
  rw [decide_eq_true rfl] at h
  exact h

theorem HopsM {W : World} {b n : Nat} {v : Value} {q : Int} (h : W.ownsRow b 3 1 v n (flat intE (marksI q n))) : HopsAt W v (marksI q n) W.heap.size := owns_rowAt (xs := marksI q n) (by rw [marksI_length]; exact h)

theorem kept_newW {X w3 : World} {o : Obj} (b : Below (X.alloc o).heap.size (X.alloc o) w3) : w3.heap[X.heap.size]? = some o := (b.block _ (by simp)).trans (heap_alloc_new _ _)

theorem below_alW {B : Nat} {w W : World} (h : Below B w W) (hB : B ≤ w.heap.size) (o : Obj) : Below B w (W.alloc o) := h.alloc (Nat.le_trans hB h.size) o

end Go.Proofs.Ytbmphbeocbgalaa
