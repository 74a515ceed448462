/-
  laws.szRecordS, toRecordS, eqRecordS: their contracts.
  A key of four numbers in a block.
  impl.bodyOk: its contract.
  Lists of ways, each with a row of its own.
  laws.szNet, toNet, eqNet: their contracts.
-/
import Derived.Test.YthmmpmbnpfhloaaDoorSh6
namespace Go.Proofs.YthmmpmbnpfhloaaDoor
open Go.RowKit

theorem Tryd.infoRec : (Tryd.prog.info? 81).map (fun i => (i.zero, i.size, i.bytes)) = some (some (.agg (recC zeroRD (.slice none 0 0))), 8, 80) := by kernel_rfl

def fsts (ps : List RP) : List RecD := ps.map (·.1)

theorem fsts_at {ps : List RP} {i : Nat} {p : RP} (h : ps[i]? = some p) : (fsts ps)[i]? = some p.1 := by simp [fsts, h]

end Go.Proofs.YthmmpmbnpfhloaaDoor
namespace Go.Proofs.YthmmpmbnpfhloaaDoor
open Go.RowKit

/-- a key of four numbers lies in block p -/
def KeyAt (W : World) (p : Nat) (a b c d : Int) : Prop := (W.cell? ⟨p, 0, none⟩ = some (.int .i64 a) ∧ W.cell? ⟨p, 1, none⟩ = some (.int .i64 b) ∧ W.cell? ⟨p, 2, none⟩ = some (.int .i64 c) ∧ W.cell? ⟨p, 3, none⟩ = some (.int .i64 d)) ∧ W.frozen? ⟨p, 0, none⟩ = false ∧ W.frozen? ⟨p, 1, none⟩ = false ∧ W.frozen? ⟨p, 2, none⟩ = false ∧ W.frozen? ⟨p, 3, none⟩ = false

theorem KeyAt.lt {W : World} {p : Nat} {a b c d : Int} (h : KeyAt W p a b c d) : p < W.heap.size := World.block_lt_of_cell? W _ h.1.1

theorem KeyAt.below {W w2 : World} {p : Nat} {a b c d : Int} (h : KeyAt W p a b c d) (hb : Below W.heap.size W w2) : KeyAt w2 p a b c d := by
  have hp := h.lt
  obtain ⟨⟨h0, h1, h2, h3⟩, f0, f1, f2, f3⟩ := h
  refine ⟨⟨?_, ?_, ?_, ?_⟩, ?_, ?_, ?_, ?_⟩
  · rw [hb.cell (p := ⟨p, 0, none⟩) hp]; exact h0
  · rw [hb.cell (p := ⟨p, 1, none⟩) hp]; exact h1
  · rw [hb.cell (p := ⟨p, 2, none⟩) hp]; exact h2
  · rw [hb.cell (p := ⟨p, 3, none⟩) hp]; exact h3
  · rw [hb.frozen (p := ⟨p, 0, none⟩) hp]; exact f0
  · rw [hb.frozen (p := ⟨p, 1, none⟩) hp]; exact f1
  · rw [hb.frozen (p := ⟨p, 2, none⟩) hp]; exact f2
  · rw [hb.frozen (p := ⟨p, 3, none⟩) hp]; exact f3

theorem KeyAt.alloc {W : World} {p : Nat} {a b c d : Int} (h : KeyAt W p a b c d) (o : Obj) : KeyAt (W.alloc o) p a b c d := h.below ((Below.refl _ _).alloc (Nat.le_refl _) _)

theorem KeyAt.same {W W' : World} {p : Nat} {a b c d : Int} (h : KeyAt W p a b c d) (e : W.heap = W'.heap) : KeyAt W' p a b c d := by
  unfold KeyAt World.cell? World.frozen? at *
  rw [← e]
  exact h
end Go.Proofs.YthmmpmbnpfhloaaDoor
namespace Go.Proofs.YthmmpmbnpfhloaaDoor
open Go.RowKit

end Go.Proofs.YthmmpmbnpfhloaaDoor
namespace Go.Proofs.YthmmpmbnpfhloaaDoor
open Go.RowKit

/-- a way, and the value of its row -/
abbrev WP := WayD × Value

def encW (p : WP) : List Value := [.int .i64 p.1.to, .int .i64 p.1.cost, p.2]

def zeroWD : WayD := ⟨0, 0, []⟩

theorem encW_len (p : WP) : (encW p).length = 3 := rfl

/-- a list to read: its cells, and each record's row, below B -/
def WaysAt (W : World) (v : Value) (ps : List WP) (B : Nat) : Prop := StructsAt encW 3 W v ps B ∧ ∀ p ∈ ps, HopsAt W p.2 p.1.hops B

theorem WaysAt.shape {W : World} {v : Value} {ps : List WP} {B : Nat} (h : WaysAt W v ps B) : ∃ a cap, v = .slice a ps.length cap := by
  obtain ⟨⟨a, cap, h, _⟩, _⟩ := h
  exact ⟨a, cap, h⟩

theorem WaysAt.later {W W' : World} {v : Value} {ps : List WP} {B C : Nat} (h : WaysAt W v ps B) (hb : Below C W W') (hBC : B ≤ C) : WaysAt W' v ps B :=
  ⟨RowAt.later h.1 hb hBC, fun p hp => RowAt.later (h.2 p hp) hb hBC⟩

theorem WaysAt.more {W : World} {v : Value} {ps : List WP} {B C : Nat} (h : WaysAt W v ps B) (hBC : B ≤ C) : WaysAt W v ps C :=
  ⟨RowAt.more h.1 hBC, fun p hp => RowAt.more (h.2 p hp) hBC⟩

theorem WaysAt.then {W W' : World} {v : Value} {ps : List WP} (h : WaysAt W v ps W.heap.size) (hb : Below W.heap.size W W') : WaysAt W' v ps W'.heap.size := (h.later hb (Nat.le_refl _)).more hb.size

/-- its row is the caller's own, in blocks of lo .. hi -/
def HopOwn (W : World) (lo hi : Nat) (p : WP) : Prop := W.ownsRow lo 3 1 p.2 p.1.hops.length (flat intE p.1.hops) ∧ ∀ k, p.2.ownBlock = some k → k < hi

def ApartW (p q : WP) : Prop := ∀ k, p.2.ownBlock = some k → q.2.ownBlock ≠ some k

/-- a list of the caller's own: its row and those of its records, no two in one block, all in blocks of lo .. hi -/
structure WaysOwn (W : World) (lo hi : Nat) (v : Value) (ps : List WP) : Prop where
  row : W.ownsRow lo 93 3 v ps.length (flat encW ps)
  top : ∀ k, v.ownBlock = some k → k < hi
  nears : ∀ p ∈ ps, HopOwn W lo hi p
  apart : ps.Pairwise ApartW

theorem HopOwn.keep {W W' : World} {lo hi : Nat} {p : WP} (h : HopOwn W lo hi p) (hk : ∀ k, lo ≤ k → k < hi → k < W.heap.size → W'.heap[k]? = W.heap[k]?) : HopOwn W' lo hi p :=
  ⟨owns_keepB h.1 (fun k e => hk k (h.1.lt k e).1 (h.2 k e) (h.1.lt k e).2), h.2⟩

theorem HopOwn.wide {W : World} {lo hi lo' hi' : Nat} {p : WP} (h : HopOwn W lo hi p) (hl : lo' ≤ lo) (hh : hi ≤ hi') : HopOwn W lo' hi' p :=
  ⟨owns_baseS h.1 hl, fun k e => Nat.lt_of_lt_of_le (h.2 k e) hh⟩

theorem HopOwn.at {W : World} {lo hi : Nat} {p : WP} (h : HopOwn W lo hi p) : HopsAt W p.2 p.1.hops hi := by
  have h1 := owns_rowAt h.1
  obtain ⟨a, cap, hv, h2⟩ := h1
  refine ⟨a, cap, hv, ?_⟩
  rcases h2 with h0 | ⟨b, off, ha, hb1, hx⟩
  · exact .inl h0
  · exact .inr ⟨b, off, ha, h.2 b (by rw [hv, ha]; rfl), hx⟩

theorem WaysOwn.keep {W W' : World} {lo hi : Nat} {v : Value} {ps : List WP} (h : WaysOwn W lo hi v ps) (hk : ∀ k, lo ≤ k → k < hi → k < W.heap.size → W'.heap[k]? = W.heap[k]?) : WaysOwn W' lo hi v ps where
  row := owns_keepB h.row (fun k e => hk k (h.row.lt k e).1 (h.top k e) (h.row.lt k e).2)
  top := h.top
  nears := fun p hp => (h.nears p hp).keep hk
  apart := h.apart

theorem WaysOwn.below {W W' : World} {lo hi B : Nat} {v : Value} {ps : List WP} (h : WaysOwn W lo hi v ps) (hb : Below B W W') (hB : hi ≤ B) : WaysOwn W' lo hi v ps := h.keep (fun k _ h2 _ => hb.block k (by omega))

theorem WaysOwn.wide {W : World} {lo hi lo' hi' : Nat} {v : Value} {ps : List WP} (h : WaysOwn W lo hi v ps) (hl : lo' ≤ lo) (hh : hi ≤ hi') : WaysOwn W lo' hi' v ps where
  row := owns_baseS h.row hl
  top := fun k e => Nat.lt_of_lt_of_le (h.top k e) hh
  nears := fun p hp => (h.nears p hp).wide hl hh
  apart := h.apart

theorem WaysOwn.at {W : World} {lo hi : Nat} {v : Value} {ps : List WP} (h : WaysOwn W lo hi v ps) : WaysAt W v ps hi := by
  refine ⟨?_, fun p hp => (h.nears p hp).at⟩
  have h1 := owns_rowAt h.row
  obtain ⟨a, cap, hv, h2⟩ := h1
  refine ⟨a, cap, hv, ?_⟩
  rcases h2 with h0 | ⟨b, off, ha, hb1, hx⟩
  · exact .inl h0
  · exact .inr ⟨b, off, ha, h.top b (by rw [hv, ha]; rfl), hx⟩

theorem WaysOwn.frame {W W' : World} {lo hi l2 h2 : Nat} {v : Value} {ps : List WP} (h : WaysOwn W lo hi v ps) (hb : Frame l2 h2 W W') (hB : hi ≤ l2 ∨ h2 ≤ lo) : WaysOwn W' lo hi v ps := h.keep (fun k h1 h2 h3 => hb.block k h3 (by omega))

/-- near rows of new records are behind all that was there -/
theorem apartW_add {W : World} {lo hi : Nat} {ps : List WP} {p : WP} (h : ps.Pairwise ApartW) (hn : ∀ q ∈ ps, HopOwn W lo hi q) (hp : ∀ k, p.2.ownBlock = some k → hi ≤ k) : (ps ++ [p]).Pairwise ApartW := by
  rw [List.pairwise_append]
  refine ⟨h, by simp, ?_⟩
  intro a ha b hb
  have : b = p := by simpa using hb
  subst this
  intro k hk he
  have h1 := (hn a ha).2 k hk
  have h2 := hp k he
  omega

/-- how many numbers a list has -/
def totW (ps : List WP) : Nat := (ps.map (fun p => 1 + p.1.hops.length)).sum

theorem totW_cons (p : WP) (ps : List WP) : totW (p :: ps) = 1 + p.1.hops.length + totW ps := by simp [totW]

theorem totW_len (ps : List WP) : ps.length ≤ totW ps := by
  induction ps with
  | nil => simp [totW]
  | cons p ps ih => rw [totW_cons, List.length_cons]; omega

theorem totW_mem {ps : List WP} {p : WP} (h : p ∈ ps) : p.1.hops.length ≤ totW ps := by
  induction ps with
  | nil => simp at h
  | cons q ps ih =>
    rw [totW_cons]
    rcases List.mem_cons.1 h with rfl | h1
    · omega
    · have := ih h1; omega

theorem WaysAt.cells {W : World} {v : Value} {ps : List WP} {B : Nat} (h : WaysAt W v ps B) (i : Nat) (p : WP) (hp : ps[i]? = some p) :
    ∃ b off cap, v = .slice (some ⟨b, off, none⟩) ps.length cap ∧ b < B ∧ W.cell? ⟨b, off + i * 3, none⟩ = some (.int .i64 p.1.to) ∧ W.cell? ⟨b, off + i * 3 + 1, none⟩ = some (.int .i64 p.1.cost) ∧ W.cell? ⟨b, off + i * 3 + 2, none⟩ = some p.2 ∧ HopsAt W p.2 p.1.hops B := by
  obtain ⟨b, off, cap, hv, hb, hc⟩ := StructsAt.cell h.1 encW_len i p hp
  exact ⟨b, off, cap, hv, hb, hc 0 _ rfl, hc 1 _ rfl, hc 2 _ rfl, h.2 p (List.mem_of_getElem? hp)⟩

end Go.Proofs.YthmmpmbnpfhloaaDoor
namespace Go.Proofs.YthmmpmbnpfhloaaDoor
open Go.RowKit

structure NetD where
  n : Int
  ls : List Lk
  ts : List Th
  deriving DecidableEq

/-- the value v is the net x, whose rows lie below B -/
def NetAt (W : World) (v : Value) (x : NetD) (B : Nat) : Prop := ∃ v1 v2, v = .agg #[.int .i64 x.n, v1, v2] ∧ LinksAt W v1 x.ls B ∧ ThingsAt W v2 x.ts B

theorem NetAt.then {W W' : World} {v : Value} {x : NetD} (h : NetAt W v x W.heap.size) (hb : Below W.heap.size W W') : NetAt W' v x W'.heap.size := by
  obtain ⟨v1, v2, hv, h1, h2⟩ := h
  exact ⟨v1, v2, hv, h1.then hb, h2.then hb⟩

end Go.Proofs.YthmmpmbnpfhloaaDoor
