/-
  laws.markWayS, heldWayS: only the list's own memory turns; what was marked is held.
  Lists of numbers of the caller's own; laws.toIntS, eqIntS, markIntS, heldIntS over them.
  Lists of records that may share the rows of others; spec.l04CopyList, impl.ownRecords.
  A packet, as a value; laws.szPacket, toPacket, eqPacket: their contracts.
-/
import Derived.Test.YtfccainebmbbdaaDoorRq20
import Derived.Test.YtfccainebmbbdaaDoorRq5
namespace Go.Proofs.YtfccainebmbbdaaDoor
open Go.RowKit

/-- the numbers of a record that is marked from c on -/
def mkW (c : Int) (p : WP) : WP := (⟨c, c + 1, marksI (c + 1 + 1) p.1.hops.length⟩, p.2)

def nxW (c : Int) (p : WP) : Int := c + 1 + 1 + (p.1.hops.length : Int)

def mkWL : Int → List WP → List WP
  | _, [] => []
  | c, p :: ps => mkW c p :: mkWL (nxW c p) ps

def mkWE : Int → List WP → Int
  | c, [] => c
  | c, p :: ps => mkWE (nxW c p) ps

theorem mkWL_len (c : Int) (ps : List WP) : (mkWL c ps).length = ps.length := by
  induction ps generalizing c with
  | nil => rfl
  | cons p ps ih => simp [mkWL, ih]

theorem mkWE_append (c : Int) (a b : List WP) : mkWE c (a ++ b) = mkWE (mkWE c a) b := by
  induction a generalizing c with
  | nil => rfl
  | cons p a ih => exact ih _

theorem mkWL_append (c : Int) (a b : List WP) : mkWL c (a ++ b) = mkWL c a ++ mkWL (mkWE c a) b := by
  induction a generalizing c with
  | nil => rfl
  | cons p a ih => simp only [List.cons_append, mkWL, mkWE, ih]

theorem mkWE_step {ps : List WP} {k : Nat} {p : WP} (c : Int) (h : ps[k]? = some p) : mkWE c (ps.take (k + 1)) = nxW (mkWE c (ps.take k)) p := by
  obtain ⟨hk, e⟩ := List.getElem?_eq_some_iff.1 h
  rw [List.take_succ_eq_append_getElem hk, mkWE_append, e]
  rfl

theorem mkWL_step {ps : List WP} {k : Nat} {p : WP} (c : Int) (h : ps[k]? = some p) : mkWL c (ps.take (k + 1)) = mkWL c (ps.take k) ++ [mkW (mkWE c (ps.take k)) p] := by
  obtain ⟨hk, e⟩ := List.getElem?_eq_some_iff.1 h
  rw [List.take_succ_eq_append_getElem hk, mkWL_append, e]
  rfl

theorem mkWE_tot (c : Int) (ps : List WP) : c + (totW ps : Int) ≤ mkWE c ps ∧ mkWE c ps ≤ c + 2 * (totW ps : Int) := by
  induction ps generalizing c with
  | nil => simp [mkWE, totW]
  | cons p ps ih =>
    have h := ih (nxW c p)
    rw [totW_cons]
    simp only [mkWE]
    unfold nxW at h ⊢
    omega

theorem totW_takeLe (ps : List WP) (k : Nat) : totW (ps.take k) ≤ totW ps := by
  have h := totW_append (ps.take k) (ps.drop k)
  rw [List.take_append_drop] at h
  omega

theorem mkWL_at {ps : List WP} {k : Nat} {p : WP} (c : Int) (h : ps[k]? = some p) : (mkWL c ps)[k]? = some (mkW (mkWE c (ps.take k)) p) := by
  obtain ⟨hk, e⟩ := List.getElem?_eq_some_iff.1 h
  have e2 : ps = ps.take k ++ (p :: ps.drop (k + 1)) := by
    rw [← e]
    simp
  have e3 : mkWL c ps = mkWL c (ps.take k) ++ (mkW (mkWE c (ps.take k)) p :: mkWL (nxW (mkWE c (ps.take k)) p) (ps.drop (k + 1))) := by
    conv => lhs; rw [e2]
    rw [mkWL_append]
    rfl
  rw [e3, List.getElem?_append_right (by rw [mkWL_len, List.length_take]; omega), mkWL_len, List.length_take, Nat.min_eq_left (by omega), Nat.sub_self]
  rfl

theorem apartW_snd (ps : List WP) : ps.Pairwise ApartW ↔ (ps.map (·.2)).Pairwise (fun a b : Value => ∀ k, a.ownBlock = some k → b.ownBlock ≠ some k) := by
  rw [List.pairwise_map]
  exact Iff.rfl

theorem apartW_at {ps : List WP} (h : ps.Pairwise ApartW) {i k : Nat} {p q : WP} (hi : ps[i]? = some p) (hk : ps[k]? = some q) (hne : i ≠ k) : ApartW p q := by
  obtain ⟨h1, e1⟩ := List.getElem?_eq_some_iff.1 hi
  obtain ⟨h2, e2⟩ := List.getElem?_eq_some_iff.1 hk
  rw [List.pairwise_iff_getElem] at h
  rcases Nat.lt_or_ge i k with hl | hl
  · have := h i k h1 h2 hl
    rw [e1, e2] at this
    exact this
  · have := h k i h2 h1 (by omega)
    rw [e1, e2] at this
    exact fun j hj he => this j he hj

theorem setW_snd {ps : List WP} {k : Nat} {p q : WP} (hk : ps[k]? = some p) (h : q.2 = p.2) : (ps.set k q).map (·.2) = ps.map (·.2) := by
  apply List.ext_getElem?
  intro i
  by_cases e : i = k
  · subst e
    obtain ⟨h1, e1⟩ := List.getElem?_eq_some_iff.1 hk
    rw [List.getElem?_map, List.getElem?_set_self h1, List.getElem?_map, hk]
    simp [h]
  · simp [List.getElem?_set_ne (Ne.symm e)]

theorem setW2 {xs : List WP} {k : Nat} {p q : WP} (hk : xs[k]? = some p) (hq : q.2 = p.2) : ((flat encW xs).set (k * 3) (.int .i64 q.1.to)).set (k * 3 + 1) (.int .i64 q.1.cost) = flat encW (xs.set k q) := by
  obtain ⟨hlt, _⟩ := List.getElem?_eq_some_iff.1 hk
  have e : (((flat encW xs).set (k * 3) (.int .i64 q.1.to)).set (k * 3 + 1) (.int .i64 q.1.cost)).set (k * 3 + 2) q.2 = flat encW (xs.set k q) := flat_set encW_len xs k q hlt
  rw [← e]
  have h5 : (((flat encW xs).set (k * 3) (.int .i64 q.1.to)).set (k * 3 + 1) (.int .i64 q.1.cost))[k * 3 + 2]? = some q.2 := by
    rw [List.getElem?_set_ne (by omega), List.getElem?_set_ne (by omega), flat_get encW_len xs k 2 p hk (by omega), hq]
    rfl
  obtain ⟨h6, e6⟩ := List.getElem?_eq_some_iff.1 h5
  rw [← e6]
  exact (List.set_getElem_self h6).symm

abbrev setM2 (W : World) (g o : Nat) (z : Int) : World := (W.setCell ⟨g, o, none⟩ (.int .i64 z)).setCell ⟨g, o + 1, none⟩ (.int .i64 (z + 1))

theorem setM2_grown (W : World) (g o : Nat) (z : Int) : W.grownBy (setM2 W g o z) (some g) := grown_trans (grown_set W g _ _) (grown_set _ g _ _)

end Go.Proofs.YtfccainebmbbdaaDoor
namespace Go.Proofs.YtfccainebmbbdaaDoor
open Go.RowKit

/-- a row of numbers of the caller's own, in blocks of lo .. hi -/
structure IntsOwn (W : World) (lo hi : Nat) (v : Value) (l : List Int) : Prop where
  row : W.ownsRow lo 3 1 v l.length (flat intE l)
  top : ∀ k, v.ownBlock = some k → k < hi

theorem IntsOwn.keep {W W' : World} {lo hi : Nat} {v : Value} {l : List Int} (h : IntsOwn W lo hi v l) (hk : ∀ k, lo ≤ k → k < hi → k < W.heap.size → W'.heap[k]? = W.heap[k]?) : IntsOwn W' lo hi v l :=
  ⟨owns_keepB h.row (fun k e => hk k (h.row.lt k e).1 (h.top k e) (h.row.lt k e).2), h.top⟩

theorem IntsOwn.below {W W' : World} {lo hi B : Nat} {v : Value} {l : List Int} (h : IntsOwn W lo hi v l) (hb : Below B W W') (hB : hi ≤ B) : IntsOwn W' lo hi v l := h.keep (fun k _ h2 _ => hb.block k (by omega))

theorem IntsOwn.frame {W W' : World} {lo hi l2 h2 : Nat} {v : Value} {l : List Int} (h : IntsOwn W lo hi v l) (hb : Frame l2 h2 W W') (hB : hi ≤ l2 ∨ h2 ≤ lo) : IntsOwn W' lo hi v l := h.keep (fun k h1 h2 h3 => hb.block k h3 (by omega))

theorem IntsOwn.wide {W : World} {lo hi lo' hi' : Nat} {v : Value} {l : List Int} (h : IntsOwn W lo hi v l) (hl : lo' ≤ lo) (hh : hi ≤ hi') : IntsOwn W lo' hi' v l := ⟨owns_baseS h.row hl, fun k e => Nat.lt_of_lt_of_le (h.top k e) hh⟩

theorem IntsOwn.at {W : World} {lo hi : Nat} {v : Value} {l : List Int} (h : IntsOwn W lo hi v l) : HopsAt W v l hi := by
  obtain ⟨a, cap, hv, h2⟩ := owns_rowAt h.row
  refine ⟨a, cap, hv, ?_⟩
  rcases h2 with h0 | ⟨b, off, ha, hb1, hx⟩
  · exact .inl h0
  · exact .inr ⟨b, off, ha, h.top b (by rw [hv, ha]; rfl), hx⟩

theorem IntsOwn.of {W : World} {lo : Nat} {v : Value} {l : List Int} (h : W.ownsRow lo 3 1 v l.length (flat intE l)) : IntsOwn W lo W.heap.size v l := ⟨h, fun k e => (h.lt k e).2⟩

theorem eqInts_own (v1 v2 : Value) (l : List Int) (l1 h1 l2 h2 : Nat) (w : World) (k1 : IntsOwn w l1 h1 v1 l) (k2 : IntsOwn w l2 h2 v2 l) (hn : l.length ≤ 1048576) (g1 : h1 ≤ w.heap.size) (g2 : h2 ≤ w.heap.size) :
    Calls Tryd.prog 18 #[v1, v2] w fun e w' => e = .returned (.bool true) ∧ Below w.heap.size w w' := by
  have h := eqI_any v1 v2 l l w (HopsAt.ints (RowAt.more k1.at g1)) (HopsAt.ints (RowAt.more k2.at g2)) hn
  rw [decide_eq_true rfl] at h
  exact h

theorem markInts_own (v : Value) (l : List Int) (lo hi : Nat) (q : Int) (w : World) (h : IntsOwn w lo hi v l) (hn : l.length ≤ 1048576) (hq : 0 ≤ q) (hq2 : q ≤ 1000000000) :
    Calls Tryd.prog 20 #[v, .int .i64 q] w fun e w' => e = .returned (.int .i64 (q + (l.length : Int))) ∧ IntsOwn w' lo hi v (marksI q l.length) ∧ Frame lo hi w w' := by
  refine (markG_any v lo l q w h.row hn hq hq2).mono ?_
  rintro e w' ⟨rfl, ho, hg⟩
  exact ⟨rfl, ⟨by rw [marksI_length]; exact ho, h.top⟩, Frame.grown hg (fun k hk => ⟨(h.row.lt k hk).1, h.top k hk⟩)⟩

theorem heldInts_own (v : Value) (n lo hi : Nat) (q : Int) (w : World) (h : IntsOwn w lo hi v (marksI q n)) (hn : n ≤ 1048576) (hq : 0 ≤ q) (hq2 : q ≤ 1000000000) (g : hi ≤ w.heap.size) :
    Calls Tryd.prog 22 #[v, .int .i64 q] w fun e w' => e = .returned (.int .i64 (q + (n : Int))) ∧ w = w' :=
  heldG_any v n q w (RowAt.more h.at g) hn hq hq2
end Go.Proofs.YtfccainebmbbdaaDoor
namespace Go.Proofs.YtfccainebmbbdaaDoor
open Go.RowKit

/-- a list whose records' rows are somebody's own, below hi -/
structure RecsIn (W : World) (hi : Nat) (v : Value) (ps : List RP) : Prop where
  row : W.ownsRow 0 39 8 v ps.length (flat encP ps)
  top : ∀ k, v.ownBlock = some k → k < hi
  nears : ∀ p ∈ ps, NearOwn W 0 hi p

theorem RecsOwn.in {W : World} {lo hi : Nat} {v : Value} {ps : List RP} (h : RecsOwn W lo hi v ps) : RecsIn W hi v ps := ⟨owns_baseS h.row (Nat.zero_le _), h.top, fun p hp => (h.nears p hp).wide (Nat.zero_le _) (Nat.le_refl _)⟩

theorem RecsIn.keep {W W' : World} {hi : Nat} {v : Value} {ps : List RP} (h : RecsIn W hi v ps) (hk : ∀ k, k < hi → k < W.heap.size → W'.heap[k]? = W.heap[k]?) : RecsIn W' hi v ps where
  row := owns_keepB h.row (fun k e => hk k (h.top k e) (h.row.lt k e).2)
  top := h.top
  nears := fun p hp => (h.nears p hp).keep (fun k _ h2 h3 => hk k h2 h3)

theorem RecsIn.below {W W' : World} {hi B : Nat} {v : Value} {ps : List RP} (h : RecsIn W hi v ps) (hb : Below B W W') (hB : hi ≤ B) : RecsIn W' hi v ps := h.keep (fun k h2 _ => hb.block k (by omega))

theorem RecsIn.wide {W : World} {hi hi' : Nat} {v : Value} {ps : List RP} (h : RecsIn W hi v ps) (hh : hi ≤ hi') : RecsIn W hi' v ps := ⟨h.row, fun k e => Nat.lt_of_lt_of_le (h.top k e) hh, fun p hp => (h.nears p hp).wide (Nat.le_refl _) hh⟩

theorem RecsIn.at {W : World} {hi : Nat} {v : Value} {ps : List RP} (h : RecsIn W hi v ps) : RecsAt W v ps hi := by
  refine ⟨?_, fun p hp => (h.nears p hp).at⟩
  have h1 := owns_rowAt h.row
  obtain ⟨a, cap, hv, h2⟩ := h1
  refine ⟨a, cap, hv, ?_⟩
  rcases h2 with h0 | ⟨b, off, ha, hb1, hx⟩
  · exact .inl h0
  · exact .inr ⟨b, off, ha, h.top b (by rw [hv, ha]; rfl), hx⟩

theorem true_filter (xs : List RecD) : xs.filter (fun _ => true) = xs := by simp

end Go.Proofs.YtfccainebmbbdaaDoor
namespace Go.Proofs.YtfccainebmbbdaaDoor
open Go.RowKit

theorem h3_0 (w : World) (a b c : Obj) : (((w.alloc a).alloc b).alloc c).heap[w.heap.size]? = some a := by
  rw [Below.heap_alloc _ _ _ (by simp; omega), Below.heap_alloc _ _ _ (by simp), heap_alloc_new]

theorem h3_1 (w : World) (a b c : Obj) : (((w.alloc a).alloc b).alloc c).heap[w.heap.size + 1]? = some b := by
  rw [Below.heap_alloc _ _ _ (by simp)]
  have := heap_alloc_new (w.alloc a) b
  simpa using this

theorem h3_2 (w : World) (a b c : Obj) : (((w.alloc a).alloc b).alloc c).heap[w.heap.size + 1 + 1]? = some c := by
  have := heap_alloc_new ((w.alloc a).alloc b) c
  simpa using this

structure PkD where
  kind : Int
  src : Int
  dst : Int
  area : Int
  heard : List Int

abbrev pkV (x : PkD) (v1 v2 : Value) : Value := .agg #[.int .i64 x.kind, .int .i64 x.src, .int .i64 x.dst, .int .i64 x.area, v1, v2]

/-- a packet to read -/
structure PkIn (W : World) (v1 v2 : Value) (x : PkD) (ps : List RP) (B : Nat) : Prop where
  heard : HopsAt W v1 x.heard B
  list : RecsAt W v2 ps B

def PkAt (W : World) (v : Value) (x : PkD) (ps : List RP) (B : Nat) : Prop := ∃ v1 v2, v = pkV x v1 v2 ∧ HopsAt W v1 x.heard B ∧ RecsAt W v2 ps B

def PkLen (x : PkD) (ps : List RP) : Prop := x.heard.length ≤ maxLen ∧ ps.length ≤ maxLen ∧ ∀ p ∈ ps, p.1.near.length ≤ maxLen

theorem PkAt.in {W : World} {v : Value} {x : PkD} {ps : List RP} {B : Nat} (h : PkAt W v x ps B) : ∃ v1 v2, v = pkV x v1 v2 ∧ PkIn W v1 v2 x ps B := by
  obtain ⟨v1, v2, h0, h1, h2⟩ := h
  exact ⟨v1, v2, h0, h1, h2⟩

theorem PkIn.later {W W' : World} {v1 v2 : Value} {x : PkD} {ps : List RP} {B C : Nat} (h : PkIn W v1 v2 x ps B) (hb : Below C W W') (hBC : B ≤ C) : PkIn W' v1 v2 x ps B :=
  ⟨RowAt.later h.heard hb hBC, h.list.later hb hBC⟩

theorem PkIn.more {W : World} {v1 v2 : Value} {x : PkD} {ps : List RP} {B C : Nat} (h : PkIn W v1 v2 x ps B) (hBC : B ≤ C) : PkIn W v1 v2 x ps C :=
  ⟨RowAt.more h.heard hBC, h.list.more hBC⟩

theorem PkIn.then {W W' : World} {v1 v2 : Value} {x : PkD} {ps : List RP} (h : PkIn W v1 v2 x ps W.heap.size) (hb : Below W.heap.size W W') : PkIn W' v1 v2 x ps W'.heap.size := (h.later hb (Nat.le_refl _)).more hb.size

theorem PkIn.shapes {W : World} {v1 v2 : Value} {x : PkD} {ps : List RP} {B : Nat} (h : PkIn W v1 v2 x ps B) : (∃ a c, v1 = .slice a x.heard.length c) ∧ ∃ a c, v2 = .slice a ps.length c :=
  ⟨h.heard.shape, h.list.shape⟩

/-- how many numbers it has -/
def totP (x : PkD) (ps : List RP) : Nat := x.heard.length + tot ps

/-- a packet of the caller's own -/
structure PkOwn (W : World) (lo hi : Nat) (v1 v2 : Value) (x : PkD) (ps : List RP) (m : Nat) : Prop where
  o1 : lo ≤ m
  o2 : m ≤ hi
  heard : IntsOwn W lo m v1 x.heard
  list : RecsOwn W m hi v2 ps

theorem PkOwn.in {W : World} {lo hi m : Nat} {v1 v2 : Value} {x : PkD} {ps : List RP} (h : PkOwn W lo hi v1 v2 x ps m) : PkIn W v1 v2 x ps hi where
  heard := RowAt.more h.heard.at h.o2
  list := h.list.at

theorem PkOwn.keep {W W' : World} {lo hi m : Nat} {v1 v2 : Value} {x : PkD} {ps : List RP} (h : PkOwn W lo hi v1 v2 x ps m) (hk : ∀ k, lo ≤ k → k < hi → k < W.heap.size → W'.heap[k]? = W.heap[k]?) : PkOwn W' lo hi v1 v2 x ps m where
  o1 := h.o1
  o2 := h.o2
  heard := h.heard.keep (fun k a b c => by have := h.o2; exact hk k a (by omega) c)
  list := h.list.keep (fun k a b c => by have := h.o1; exact hk k (by omega) b c)

theorem PkOwn.below {W W' : World} {lo hi m B : Nat} {v1 v2 : Value} {x : PkD} {ps : List RP} (h : PkOwn W lo hi v1 v2 x ps m) (hb : Below B W W') (hB : hi ≤ B) : PkOwn W' lo hi v1 v2 x ps m := h.keep (fun k _ h2 _ => hb.block k (by omega))

theorem PkOwn.frame {W W' : World} {lo hi m l2 h2 : Nat} {v1 v2 : Value} {x : PkD} {ps : List RP} (h : PkOwn W lo hi v1 v2 x ps m) (hb : Frame l2 h2 W W') (hB : hi ≤ l2 ∨ h2 ≤ lo) : PkOwn W' lo hi v1 v2 x ps m := h.keep (fun k a b c => hb.block k c (by omega))

theorem PkOwn.wide {W : World} {lo lo' hi hi' m : Nat} {v1 v2 : Value} {x : PkD} {ps : List RP} (h : PkOwn W lo hi v1 v2 x ps m) (hl : lo' ≤ lo) (hh : hi ≤ hi') : PkOwn W lo' hi' v1 v2 x ps m :=
  ⟨Nat.le_trans hl h.o1, Nat.le_trans h.o2 hh, h.heard.wide hl (Nat.le_refl _), h.list.wide (Nat.le_refl _) hh⟩

set_option maxRecDepth 100000 in
set_option maxHeartbeats 2000000 in
theorem eqPacket_any (v1 v2 u1 u2 : Value) (x : PkD) (ps qs : List RP) (w : World) (ht : totP x ps ≤ 1048576) (h1 : PkIn w v1 v2 x ps w.heap.size) (h2 : PkIn w u1 u2 x qs w.heap.size) (he : fsts ps = fsts qs) :
    Calls Tryd.prog 6 #[pkV x v1 v2, pkV x u1 u2] w fun e w' => e = .returned (.bool true) ∧ Below w.heap.size w w' := by
  obtain ⟨⟨a1, c1, rfl⟩, ⟨a2, c2, rfl⟩⟩ := h1.shapes
  obtain ⟨⟨b1, d1, rfl⟩, ⟨b2, d2, rfl⟩⟩ := h2.shapes
  have hlH : x.heard.length ≤ 1048576 := by unfold totP at ht; omega
  have hlR : tot ps ≤ 1048576 := by unfold totP at ht; omega
  have H1 := hide h1
  have H2 := hide h2
  have HE := hide he
  clear h1 h2 he ht
  go_enter Tryd.func6, Tryd.ntmps6
  go_wp2_with fail
  obtain ⟨w1, hw1⟩ : ∃ w1, w1 = (w.alloc (.cells #[.int .i64 x.kind, .int .i64 x.src, .int .i64 x.dst, .int .i64 x.area, .slice a1 x.heard.length c1, .slice a2 ps.length c2] 25)).alloc (.cells #[.int .i64 x.kind, .int .i64 x.src, .int .i64 x.dst, .int .i64 x.area, .slice b1 x.heard.length d1, .slice b2 qs.length d2] 25) := ⟨_, rfl⟩
  have B1 : Below w.heap.size w w1 := by rw [hw1]; exact below_two _ _
  have p0 : w1.heap[w.heap.size]? = some (.cells #[.int .i64 x.kind, .int .i64 x.src, .int .i64 x.dst, .int .i64 x.area, .slice a1 x.heard.length c1, .slice a2 ps.length c2] 25) := by rw [hw1, Below.heap_alloc _ _ _ (by simp), heap_alloc_new]
  have q0 : w1.heap[w.heap.size + 1]? = some (.cells #[.int .i64 x.kind, .int .i64 x.src, .int .i64 x.dst, .int .i64 x.area, .slice b1 x.heard.length d1, .slice b2 qs.length d2] 25) := by
    rw [hw1]
    have := heap_alloc_new (w.alloc (.cells #[.int .i64 x.kind, .int .i64 x.src, .int .i64 x.dst, .int .i64 x.area, .slice a1 x.heard.length c1, .slice a2 ps.length c2] 25)) (.cells #[.int .i64 x.kind, .int .i64 x.src, .int .i64 x.dst, .int .i64 x.area, .slice b1 x.heard.length d1, .slice b2 qs.length d2] 25)
    simpa using this
  rw [← hw1]
  clear hw1
  have HEI := eqI_any _ _ x.heard x.heard w1 (HopsAt.ints (H1.out.then B1).heard) (HopsAt.ints (H2.out.then B1).heard) hlH
  rw [decide_eq_true rfl] at HEI
  refine HEI.mono ?_
  rintro e w3 ⟨rfl, b3⟩
  have p1 := (b3.block _ (lt_of_heap p0)).trans p0
  have q1 := (b3.block _ (lt_of_heap q0)).trans q0
  have B3 : Below w.heap.size w w3 := B1.trans (b3.mono B1.size)
  have HER := eqRecordS_any _ _ ps qs w3 (H1.out.then B3).list (H2.out.then B3).list (Nat.le_trans (tot_len ps) hlR) (fun _ hp => Nat.le_trans (tot_mem hp) hlR)
  rw [decide_eq_true HE.out] at HER
  have HR := hide HER
  have s6 := cells_at p1 5
  have t6 := cells_at q1 5
  simp at s6 t6
  clear p0 q0 p1 q1 HER HEI b3
  go_wp2_with fail
  refine HR.out.mono ?_
  rintro e w4 ⟨rfl, b4⟩
  have B4 : Below w.heap.size w w4 := B3.trans (b4.mono B3.size)
  go_wp2
  go_ret
  exact ⟨rfl, B4⟩
end Go.Proofs.YtfccainebmbbdaaDoor
