/-
  laws.eqIntS, markIntS, heldIntS, toIntS, szIntS: their contracts (IntRow2 without nets).
  Ways as values; laws.szWay, toWay, eqWay.
  laws.markIntS, markWay, heldWay: only the row's own memory turns; what was marked is held.
  Lists of ways, each with a row of its own.
  laws.szWayS, toWayS, eqWayS: their contracts.
  laws.markWayS, heldWayS: only the list's own memory turns; what was marked is held.
  Lists of numbers of the caller's own; laws.toIntS, eqIntS, markIntS, heldIntS over them.
  A packet, as a value; laws.szPacket, toPacket, eqPacket: their contracts.
-/
import Derived.Test.YtchmmekhfcojgaaGreatDoorPq9
import Derived.Test.YtchmmekhfcojgaaGreatDoorPq1
import Derived.Deep.QuietTactic
import Derived.BigQuiet
import Derived.WalkSmall
import Derived.Handy
import Derived.Test.YtchmmekhfcojgaaGreatDoorPq2
import Derived.Test.YtchmmekhfcojgaaGreatDoorPq3
namespace Go.Proofs.YtchmmekhfcojgaaGreatDoor
open Go.RowKit

def intC (zs : List Int) (j : Nat) : Value := .int .i64 (zs.getD j 0)

def IntsAt (W : World) (v : Value) (zs : List Int) (B : Nat) : Prop := RowAt W v zs.length 1 (intC zs) B

theorem ints_of_owns {W : World} {base : Nat} {v : Value} {zs : List Int} (h : W.ownsRow base 3 1 v zs.length (intsOf zs)) : IntsAt W v zs W.heap.size := by
  by_cases h0 : zs.length = 0
  · obtain ⟨a, cap, rfl⟩ := owns_len h
    exact ⟨a, cap, rfl, .inl h0⟩
  · obtain ⟨g, cap, rfl, hg, hl⟩ := owns_shape h (by omega)
    refine ⟨_, cap, rfl, .inr ⟨g, 0, rfl, hl, fun j hj => ?_⟩⟩
    rw [Nat.zero_add, h.cellAt j (by omega)]
    have hj' : j < zs.length := by omega
    simp [intsOf, intC, List.getElem?_eq_getElem hj']

theorem below_drewN {B : Nat} {w wr : World} (h : Below B w wr) (n : Nat) : Below B w (wr.drewN n) := ⟨h.os, h.tape, h.output, h.size, h.block⟩

theorem list_ne_at {xs ys : List Int} {k : Nat} (h : xs.getD k 0 ≠ ys.getD k 0) : ¬ xs = ys := by
  rintro rfl
  exact h rfl

theorem list_eq_all {xs ys : List Int} (hl : xs.length = ys.length) (h : ∀ j, j < xs.length → xs.getD j 0 = ys.getD j 0) : xs = ys := by
  apply List.ext_getElem hl
  intro i h1 h2
  have := h i h1
  simpa [List.getD, List.getElem?_eq_getElem h1, List.getElem?_eq_getElem h2] using this

/-- cells of numbers, as rows of structs of one cell -/
def intE (z : Int) : List Value := [.int .i64 z]

theorem intE_len (z : Int) : (intE z).length = 1 := rfl

theorem flat_int (l : List Int) : flat intE l = intsOf l := by
  induction l with
  | nil => rfl
  | cons x l ih => rw [flat_cons, ih]; rfl

def HopsAt (W : World) (v : Value) (l : List Int) (B : Nat) : Prop := StructsAt intE 1 W v l B

theorem HopsAt.then {W W' : World} {v : Value} {l : List Int} (h : HopsAt W v l W.heap.size) (hb : Below W.heap.size W W') : HopsAt W' v l W'.heap.size := RowAt.then h hb

theorem HopsAt.shape {W : World} {v : Value} {l : List Int} {B : Nat} (h : HopsAt W v l B) : ∃ a cap, v = .slice a l.length cap := by obtain ⟨a, cap, h, _⟩ := h; exact ⟨a, cap, h⟩

theorem HopsAt.cell {W : World} {v : Value} {l : List Int} {B : Nat} (h : HopsAt W v l B) (i : Nat) (z : Int) (hz : l[i]? = some z) : ∃ b off cap, v = .slice (some ⟨b, off, none⟩) l.length cap ∧ b < B ∧ W.cell? ⟨b, off + i, none⟩ = some (.int .i64 z) := by
  obtain ⟨b, off, cap, hv, hb, hc⟩ := StructsAt.cell h intE_len i z hz
  exact ⟨b, off, cap, hv, hb, by have := hc 0 _ rfl; simpa using this⟩

theorem hops_of {W : World} {base : Nat} {v : Value} {l : List Int} (h : W.ownsRow base 3 1 v l.length (flat intE l)) : HopsAt W v l W.heap.size := owns_rowAt h

end Go.Proofs.YtchmmekhfcojgaaGreatDoor
namespace Go.Proofs.YtchmmekhfcojgaaGreatDoor
open Go.RowKit

structure WayD where
  to : Int
  cost : Int
  hops : List Int
  deriving DecidableEq

def wayC (x : WayD) (v : Value) : Array Value := #[.int .i64 x.to, .int .i64 x.cost, v]

/-- the value v is the way x, whose row lies below B -/
def WayAt (W : World) (v : Value) (x : WayD) (B : Nat) : Prop := ∃ v1, v = .agg (wayC x v1) ∧ HopsAt W v1 x.hops B

theorem WayAt.then {W W' : World} {v : Value} {x : WayD} (h : WayAt W v x W.heap.size) (hb : Below W.heap.size W W') : WayAt W' v x W'.heap.size := by
  obtain ⟨v1, hv, h1⟩ := h
  exact ⟨v1, hv, h1.then hb⟩

end Go.Proofs.YtchmmekhfcojgaaGreatDoor
namespace Go.Proofs.YtchmmekhfcojgaaGreatDoor
open Go.RowKit

end Go.Proofs.YtchmmekhfcojgaaGreatDoor
namespace Go.Proofs.YtchmmekhfcojgaaGreatDoor
open Go.RowKit

/-- a way, and the value of its row -/
abbrev WP := WayD × Value

def encW (p : WP) : List Value := [.int .i64 p.1.to, .int .i64 p.1.cost, p.2]

theorem encW_len (p : WP) : (encW p).length = 3 := rfl

/-- a list to read: its cells, and each record's row, below B -/
def WaysAt (W : World) (v : Value) (ps : List WP) (B : Nat) : Prop := StructsAt encW 3 W v ps B ∧ ∀ p ∈ ps, HopsAt W p.2 p.1.hops B

theorem WaysAt.shape {W : World} {v : Value} {ps : List WP} {B : Nat} (h : WaysAt W v ps B) : ∃ a cap, v = .slice a ps.length cap := by
  obtain ⟨⟨a, cap, h, _⟩, _⟩ := h
  exact ⟨a, cap, h⟩

theorem WaysAt.later {W W' : World} {v : Value} {ps : List WP} {B C : Nat} (h : WaysAt W v ps B) (hb : Below C W W') (hBC : B ≤ C) : WaysAt W' v ps B :=
  ⟨RowAt.later h.1 hb hBC, fun p hp => RowAt.later (h.2 p hp) hb hBC⟩

theorem WaysAt.more {W : World} {v : Value} {ps : List WP} {B C : Nat} (h : WaysAt W v ps B) (hBC : B ≤ C) : WaysAt W v ps C :=
  ⟨RowAt.more h.1 hBC, fun p hp => RowAt.more (h.2 p hp) hBC⟩

theorem WaysAt.then {W W' : World} {v : Value} {ps : List WP} (h : WaysAt W v ps W.heap.size) (hb : Below W.heap.size W W') : WaysAt W' v ps W'.heap.size := (h.later hb (Nat.le_refl _)).more hb.size

/-- its row is the caller's own, in blocks of lo .. hi -/
def HopOwn (W : World) (lo hi : Nat) (p : WP) : Prop := W.ownsRow lo 3 1 p.2 p.1.hops.length (flat intE p.1.hops) ∧ ∀ k, p.2.ownBlock = some k → k < hi

theorem HopOwn.keep {W W' : World} {lo hi : Nat} {p : WP} (h : HopOwn W lo hi p) (hk : ∀ k, lo ≤ k → k < hi → k < W.heap.size → W'.heap[k]? = W.heap[k]?) : HopOwn W' lo hi p :=
  ⟨owns_keepB h.1 (fun k e => hk k (h.1.lt k e).1 (h.2 k e) (h.1.lt k e).2), h.2⟩

theorem HopOwn.wide {W : World} {lo hi lo' hi' : Nat} {p : WP} (h : HopOwn W lo hi p) (hl : lo' ≤ lo) (hh : hi ≤ hi') : HopOwn W lo' hi' p :=
  ⟨owns_baseS h.1 hl, fun k e => Nat.lt_of_lt_of_le (h.2 k e) hh⟩

theorem HopOwn.at {W : World} {lo hi : Nat} {p : WP} (h : HopOwn W lo hi p) : HopsAt W p.2 p.1.hops hi := by
  have h1 := owns_rowAt h.1
  obtain ⟨a, cap, hv, h2⟩ := h1
  refine ⟨a, cap, hv, ?_⟩
  rcases h2 with h0 | ⟨b, off, ha, hb1, hx⟩
  · exact .inl h0
  · exact .inr ⟨b, off, ha, h.2 b (by rw [hv, ha]; rfl), hx⟩

theorem WaysAt.cells {W : World} {v : Value} {ps : List WP} {B : Nat} (h : WaysAt W v ps B) (i : Nat) (p : WP) (hp : ps[i]? = some p) :
    ∃ b off cap, v = .slice (some ⟨b, off, none⟩) ps.length cap ∧ b < B ∧ W.cell? ⟨b, off + i * 3, none⟩ = some (.int .i64 p.1.to) ∧ W.cell? ⟨b, off + i * 3 + 1, none⟩ = some (.int .i64 p.1.cost) ∧ W.cell? ⟨b, off + i * 3 + 2, none⟩ = some p.2 ∧ HopsAt W p.2 p.1.hops B := by
  obtain ⟨b, off, cap, hv, hb, hc⟩ := StructsAt.cell h.1 encW_len i p hp
  exact ⟨b, off, cap, hv, hb, hc 0 _ rfl, hc 1 _ rfl, hc 2 _ rfl, h.2 p (List.mem_of_getElem? hp)⟩

end Go.Proofs.YtchmmekhfcojgaaGreatDoor
namespace Go.Proofs.YtchmmekhfcojgaaGreatDoor
open Go.RowKit

end Go.Proofs.YtchmmekhfcojgaaGreatDoor
namespace Go.Proofs.YtchmmekhfcojgaaGreatDoor
open Go.RowKit

end Go.Proofs.YtchmmekhfcojgaaGreatDoor
namespace Go.Proofs.YtchmmekhfcojgaaGreatDoor
open Go.RowKit

/-- a row of numbers of the caller's own, in blocks of lo .. hi -/
structure IntsOwn (W : World) (lo hi : Nat) (v : Value) (l : List Int) : Prop where
  row : W.ownsRow lo 3 1 v l.length (flat intE l)
  top : ∀ k, v.ownBlock = some k → k < hi

theorem IntsOwn.keep {W W' : World} {lo hi : Nat} {v : Value} {l : List Int} (h : IntsOwn W lo hi v l) (hk : ∀ k, lo ≤ k → k < hi → k < W.heap.size → W'.heap[k]? = W.heap[k]?) : IntsOwn W' lo hi v l :=
  ⟨owns_keepB h.row (fun k e => hk k (h.row.lt k e).1 (h.top k e) (h.row.lt k e).2), h.top⟩

theorem IntsOwn.below {W W' : World} {lo hi B : Nat} {v : Value} {l : List Int} (h : IntsOwn W lo hi v l) (hb : Below B W W') (hB : hi ≤ B) : IntsOwn W' lo hi v l := h.keep (fun k _ h2 _ => hb.block k (by omega))

theorem IntsOwn.frame {W W' : World} {lo hi l2 h2 : Nat} {v : Value} {l : List Int} (h : IntsOwn W lo hi v l) (hb : Frame l2 h2 W W') (hB : hi ≤ l2 ∨ h2 ≤ lo) : IntsOwn W' lo hi v l := h.keep (fun k h1 h2 h3 => hb.block k h3 (by omega))

theorem IntsOwn.wide {W : World} {lo hi lo' hi' : Nat} {v : Value} {l : List Int} (h : IntsOwn W lo hi v l) (hl : lo' ≤ lo) (hh : hi ≤ hi') : IntsOwn W lo' hi' v l := ⟨owns_baseS h.row hl, fun k e => Nat.lt_of_lt_of_le (h.top k e) hh⟩

theorem IntsOwn.at {W : World} {lo hi : Nat} {v : Value} {l : List Int} (h : IntsOwn W lo hi v l) : HopsAt W v l hi := by
  obtain ⟨a, cap, hv, h2⟩ := owns_rowAt h.row
  refine ⟨a, cap, hv, ?_⟩
  rcases h2 with h0 | ⟨b, off, ha, hb1, hx⟩
  · exact .inl h0
  · exact .inr ⟨b, off, ha, h.top b (by rw [hv, ha]; rfl), hx⟩

theorem IntsOwn.of {W : World} {lo : Nat} {v : Value} {l : List Int} (h : W.ownsRow lo 3 1 v l.length (flat intE l)) : IntsOwn W lo W.heap.size v l := ⟨h, fun k e => (h.lt k e).2⟩

end Go.Proofs.YtchmmekhfcojgaaGreatDoor
namespace Go.Proofs.YtchmmekhfcojgaaGreatDoor
open Go.RowKit

theorem h3_0 (w : World) (a b c : Obj) : (((w.alloc a).alloc b).alloc c).heap[w.heap.size]? = some a := by
  rw [Below.heap_alloc _ _ _ (by simp; omega), Below.heap_alloc _ _ _ (by simp), heap_alloc_new]

theorem h3_1 (w : World) (a b c : Obj) : (((w.alloc a).alloc b).alloc c).heap[w.heap.size + 1]? = some b := by
  rw [Below.heap_alloc _ _ _ (by simp)]
  have := heap_alloc_new (w.alloc a) b
  simpa using this

theorem h3_2 (w : World) (a b c : Obj) : (((w.alloc a).alloc b).alloc c).heap[w.heap.size + 1 + 1]? = some c := by
  have := heap_alloc_new ((w.alloc a).alloc b) c
  simpa using this

structure PkD where
  kind : Int
  src : Int
  dst : Int
  area : Int
  heard : List Int

abbrev pkV (x : PkD) (v1 v2 : Value) : Value := .agg #[.int .i64 x.kind, .int .i64 x.src, .int .i64 x.dst, .int .i64 x.area, v1, v2]

/-- a packet to read -/
structure PkIn (W : World) (v1 v2 : Value) (x : PkD) (ps : List RP) (B : Nat) : Prop where
  heard : HopsAt W v1 x.heard B
  list : RecsAt W v2 ps B

def PkAt (W : World) (v : Value) (x : PkD) (ps : List RP) (B : Nat) : Prop := ∃ v1 v2, v = pkV x v1 v2 ∧ HopsAt W v1 x.heard B ∧ RecsAt W v2 ps B

theorem PkAt.in {W : World} {v : Value} {x : PkD} {ps : List RP} {B : Nat} (h : PkAt W v x ps B) : ∃ v1 v2, v = pkV x v1 v2 ∧ PkIn W v1 v2 x ps B := by
  obtain ⟨v1, v2, h0, h1, h2⟩ := h
  exact ⟨v1, v2, h0, h1, h2⟩

theorem PkIn.later {W W' : World} {v1 v2 : Value} {x : PkD} {ps : List RP} {B C : Nat} (h : PkIn W v1 v2 x ps B) (hb : Below C W W') (hBC : B ≤ C) : PkIn W' v1 v2 x ps B :=
  ⟨RowAt.later h.heard hb hBC, h.list.later hb hBC⟩

theorem PkIn.more {W : World} {v1 v2 : Value} {x : PkD} {ps : List RP} {B C : Nat} (h : PkIn W v1 v2 x ps B) (hBC : B ≤ C) : PkIn W v1 v2 x ps C :=
  ⟨RowAt.more h.heard hBC, h.list.more hBC⟩

theorem PkIn.then {W W' : World} {v1 v2 : Value} {x : PkD} {ps : List RP} (h : PkIn W v1 v2 x ps W.heap.size) (hb : Below W.heap.size W W') : PkIn W' v1 v2 x ps W'.heap.size := (h.later hb (Nat.le_refl _)).more hb.size

theorem PkIn.shapes {W : World} {v1 v2 : Value} {x : PkD} {ps : List RP} {B : Nat} (h : PkIn W v1 v2 x ps B) : (∃ a c, v1 = .slice a x.heard.length c) ∧ ∃ a c, v2 = .slice a ps.length c :=
  ⟨h.heard.shape, h.list.shape⟩

/-- how many numbers it has -/
def totP (x : PkD) (ps : List RP) : Nat := x.heard.length + tot ps

/-- a packet of the caller's own -/
structure PkOwn (W : World) (lo hi : Nat) (v1 v2 : Value) (x : PkD) (ps : List RP) (m : Nat) : Prop where
  o1 : lo ≤ m
  o2 : m ≤ hi
  heard : IntsOwn W lo m v1 x.heard
  list : RecsOwn W m hi v2 ps

theorem PkOwn.in {W : World} {lo hi m : Nat} {v1 v2 : Value} {x : PkD} {ps : List RP} (h : PkOwn W lo hi v1 v2 x ps m) : PkIn W v1 v2 x ps hi where
  heard := RowAt.more h.heard.at h.o2
  list := h.list.at

theorem PkOwn.keep {W W' : World} {lo hi m : Nat} {v1 v2 : Value} {x : PkD} {ps : List RP} (h : PkOwn W lo hi v1 v2 x ps m) (hk : ∀ k, lo ≤ k → k < hi → k < W.heap.size → W'.heap[k]? = W.heap[k]?) : PkOwn W' lo hi v1 v2 x ps m where
  o1 := h.o1
  o2 := h.o2
  heard := h.heard.keep (fun k a b c => by have := h.o2; exact hk k a (by omega) c)
  list := h.list.keep (fun k a b c => by have := h.o1; exact hk k (by omega) b c)

theorem PkOwn.below {W W' : World} {lo hi m B : Nat} {v1 v2 : Value} {x : PkD} {ps : List RP} (h : PkOwn W lo hi v1 v2 x ps m) (hb : Below B W W') (hB : hi ≤ B) : PkOwn W' lo hi v1 v2 x ps m := h.keep (fun k _ h2 _ => hb.block k (by omega))

theorem PkOwn.frame {W W' : World} {lo hi m l2 h2 : Nat} {v1 v2 : Value} {x : PkD} {ps : List RP} (h : PkOwn W lo hi v1 v2 x ps m) (hb : Frame l2 h2 W W') (hB : hi ≤ l2 ∨ h2 ≤ lo) : PkOwn W' lo hi v1 v2 x ps m := h.keep (fun k a b c => hb.block k c (by omega))

theorem PkOwn.wide {W : World} {lo lo' hi hi' m : Nat} {v1 v2 : Value} {x : PkD} {ps : List RP} (h : PkOwn W lo hi v1 v2 x ps m) (hl : lo' ≤ lo) (hh : hi ≤ hi') : PkOwn W lo' hi' v1 v2 x ps m :=
  ⟨Nat.le_trans hl h.o1, Nat.le_trans h.o2 hh, h.heard.wide hl (Nat.le_refl _), h.list.wide (Nat.le_refl _) hh⟩

end Go.Proofs.YtchmmekhfcojgaaGreatDoor
