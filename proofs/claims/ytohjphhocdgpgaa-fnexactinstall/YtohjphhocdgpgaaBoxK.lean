/-
  A record in a block of its own, its row too.
-/
import Derived.Test.YtohjphhocdgpgaaLaw5K
import Derived.Test.YtohjphhocdgpgaaRecB
import Derived.Test.YtohjphhocdgpgaaCopyK
namespace Go.Proofs.Ytohjphhocdgpgaa
open Go.RowKit

structure RecBox (W : World) (lo z : Nat) (x : RecD) (u : Value) : Prop where
  box : W.heap[z]? = some (.cells (recC x u) 26)
  own : W.ownsRow lo 67 2 u x.near.length (flat nrE x.near)
  low : lo ≤ z

theorem toRec_own (v : Value) (x : RecD) (w W : World) (h0 : RecAt w v x w.heap.size) (hb : Below w.heap.size w W) (hn : x.near.length ≤ 1048576) :
    Calls Try.prog 32 #[v] W fun e w' => ∃ v1, e = .returned (.agg (recC x v1)) ∧ w'.ownsRow W.heap.size 67 2 v1 x.near.length (flat nrE x.near) ∧ Below W.heap.size W w' :=
  toRecord_any v x W hn (h0.then hb)

set_option linter.unusedSimpArgs false

/-- the same, all its blocks in lo .. hi -/
structure BoxH (W : World) (lo hi z : Nat) (x : RecD) (u : Value) : Prop where
  b : RecBox W lo z x u
  zh : z < hi
  uh : ∀ k, u.ownBlock = some k → k < hi

theorem BoxH.of {W : World} {lo z : Nat} {x : RecD} {u : Value} (h : RecBox W lo z x u) : BoxH W lo W.heap.size z x u := ⟨h, lt_of_heap h.box, fun k hk => (h.own.lt k hk).2⟩

theorem BoxH.keep {W W' : World} {lo hi z : Nat} {x : RecD} {u : Value} (h : BoxH W lo hi z x u) (hk : ∀ k, lo ≤ k → k < hi → k < W.heap.size → W'.heap[k]? = W.heap[k]?) : BoxH W' lo hi z x u :=
  ⟨⟨(hk z h.b.low h.zh (lt_of_heap h.b.box)).trans h.b.box, owns_keepB h.b.own (fun k e => hk k (h.b.own.lt k e).1 (h.uh k e) (h.b.own.lt k e).2), h.b.low⟩, h.zh, h.uh⟩

theorem BoxH.below {W W' : World} {lo hi z B : Nat} {x : RecD} {u : Value} (h : BoxH W lo hi z x u) (hb : Below B W W') (hB : hi ≤ B) : BoxH W' lo hi z x u := h.keep (fun k _ h2 _ => hb.block k (by omega))

theorem BoxH.frame {W W' : World} {lo hi z l2 h2 : Nat} {x : RecD} {u : Value} (h : BoxH W lo hi z x u) (hb : Frame l2 h2 W W') (hB : hi ≤ l2 ∨ h2 ≤ lo) : BoxH W' lo hi z x u := h.keep (fun k h1 h2 h3 => hb.block k h3 (by omega))

theorem box_new {W : World} {lo : Nat} {x : RecD} {u : Value} (h : W.ownsRow lo 67 2 u x.near.length (flat nrE x.near)) (hlo : lo ≤ W.heap.size) : BoxH (W.alloc (.cells (recC x u) 26)) lo (W.alloc (.cells (recC x u) 26)).heap.size W.heap.size x u :=
  BoxH.of ⟨heap_alloc_new _ _, h.alloc _, hlo⟩

theorem BoxH.recAt {W : World} {lo hi z : Nat} {x : RecD} {u : Value} (h : BoxH W lo hi z x u) : RecAt W (.agg (recC x u)) x W.heap.size := ⟨u, rfl, owns_rowAt h.b.own⟩

theorem eqRec_own (u1 u2 : Value) (x : RecD) (W : World) (h1 : RecAt W (.agg (recC x u1)) x W.heap.size) (h2 : RecAt W (.agg (recC x u2)) x W.heap.size) (hn : x.near.length ≤ 1048576) :
    Calls Try.prog 33 #[.agg (recC x u1), .agg (recC x u2)] W fun e w' => e = .returned (.bool true) ∧ Below W.heap.size W w' := by
  have h := eqRecord_any _ _ x x W h1 h2 hn
  rw [decide_eq_true rfl] at h
  exact h

theorem NearsM {W : World} {b n : Nat} {v : Value} {q : Int} (h : W.ownsRow b 67 2 v n (flat nrE (marks q n))) : NearsAt W v (marks q n) W.heap.size := owns_rowAt (xs := marks q n) (by rw [marks_len]; exact h)

theorem kept_new {X w3 : World} {o : Obj} (b : Below (X.alloc o).heap.size (X.alloc o) w3) : w3.heap[X.heap.size]? = some o := (b.block _ (by simp)).trans (heap_alloc_new _ _)

theorem below_al {B : Nat} {w W : World} (h : Below B w W) (hB : B ≤ w.heap.size) (o : Obj) : Below B w (W.alloc o) := h.alloc (Nat.le_trans hB h.size) o

end Go.Proofs.Ytohjphhocdgpgaa
