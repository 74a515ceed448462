/-
  Nodes as values: a node's own, and its ears; laws.szNode, toNode, eqNode.
  Lists that ascend, lists all of whose elements are right.
  spec.l01In: its contract.
  impl.isIn, cmp.isNaN, cmp.Compare: their contracts.
  cmp.Compare, cmp.Or, impl.orderOfLinks, impl.orderOfThings: their contracts.
  spec.LinkOk, l03Ahead, l03Thing, NetOk: their contracts.
  impl.isIn, impl.LinkOk: their contracts.
  impl.ascends of links and of things: their contracts.
  impl.linksOk, thingsOk, NetOk: their contracts.
  What a node hears, as pairs of nodes and areas: the mathematics.
  Nodes: what a right one is, as mathematics.
  'append(out, x)' of a struct of four cells, out a row that the call itself made.
  'append(out, y1, y2)' of two ints, out a row that the call itself made.
-/
import Derived.Test.YtimbeeinognjbaaGreatDoorNk3
import Derived.Test.YtimbeeinognjbaaGreatDoorNk1
import Derived.Deep.RegionHeld3
import Derived.Test.YtimbeeinognjbaaGreatDoorNk2
namespace Go.Proofs.YtimbeeinognjbaaGreatDoor
open Go.RowKit

set_option linter.unusedSimpArgs false

abbrev nodeV (x : SelfD) (v1 v2 v3 v4 v5 : Value) : Value := .agg #[.int .i64 x.id, .int .i64 x.boot, .int .i64 x.net.n, v1, v2, v3, v4, v5]

/-- a node to read -/
structure NodeIn (W : World) (v1 v2 v3 v4 v5 : Value) (x : SelfD) (ps : List RP) (es : List Th) (B : Nat) : Prop where
  self : SelfIn W v1 v2 v3 v4 x ps B
  ears : ThingsAt W v5 es B

def NodeAt (W : World) (v : Value) (x : SelfD) (ps : List RP) (es : List Th) (B : Nat) : Prop := ∃ v1 v2 v3 v4 v5, v = nodeV x v1 v2 v3 v4 v5 ∧ SelfIn W v1 v2 v3 v4 x ps B ∧ ThingsAt W v5 es B

def NodeLen (x : SelfD) (ps : List RP) (es : List Th) : Prop := SelfLen x ps ∧ es.length ≤ maxLen

def totNd (x : SelfD) (ps : List RP) (es : List Th) : Nat := totS x ps + es.length

theorem NodeIn.then {W W' : World} {v1 v2 v3 v4 v5 : Value} {x : SelfD} {ps : List RP} {es : List Th} (h : NodeIn W v1 v2 v3 v4 v5 x ps es W.heap.size) (hb : Below W.heap.size W W') : NodeIn W' v1 v2 v3 v4 v5 x ps es W'.heap.size := ⟨h.self.then hb, h.ears.then hb⟩

theorem NodeIn.later {W W' : World} {v1 v2 v3 v4 v5 : Value} {x : SelfD} {ps : List RP} {es : List Th} {B C : Nat} (h : NodeIn W v1 v2 v3 v4 v5 x ps es B) (hb : Below C W W') (hBC : B ≤ C) : NodeIn W' v1 v2 v3 v4 v5 x ps es B := ⟨h.self.later hb hBC, RowAt.later h.ears hb hBC⟩

theorem NodeIn.more {W : World} {v1 v2 v3 v4 v5 : Value} {x : SelfD} {ps : List RP} {es : List Th} {B C : Nat} (h : NodeIn W v1 v2 v3 v4 v5 x ps es B) (hBC : B ≤ C) : NodeIn W v1 v2 v3 v4 v5 x ps es C := ⟨h.self.more hBC, RowAt.more h.ears hBC⟩

theorem NodeIn.shapes {W : World} {v1 v2 v3 v4 v5 : Value} {x : SelfD} {ps : List RP} {es : List Th} {B : Nat} (h : NodeIn W v1 v2 v3 v4 v5 x ps es B) : (∃ a c, v1 = .slice a x.net.ls.length c) ∧ (∃ a c, v2 = .slice a x.net.ts.length c) ∧ (∃ a c, v3 = .slice a x.heard.length c) ∧ (∃ a c, v4 = .slice a ps.length c) ∧ ∃ a c, v5 = .slice a es.length c :=
  ⟨h.self.shapes.1, h.self.shapes.2.1, h.self.shapes.2.2.1, h.self.shapes.2.2.2, h.ears.shape⟩

/-- a node of the caller's own -/
structure NodeOwn (W : World) (lo hi : Nat) (v1 v2 v3 v4 v5 : Value) (x : SelfD) (ps : List RP) (es : List Th) (m1 m2 m3 : Nat) : Prop where
  self : SelfOwn W lo m3 v1 v2 v3 v4 x ps m1 m2
  o3 : m3 ≤ hi
  ears : W.ownsRow m3 58 4 v5 es.length (flat thE es)
  etop : ∀ k, v5.ownBlock = some k → k < hi

theorem NodeOwn.in {W : World} {lo hi m1 m2 m3 : Nat} {v1 v2 v3 v4 v5 : Value} {x : SelfD} {ps : List RP} {es : List Th} (h : NodeOwn W lo hi v1 v2 v3 v4 v5 x ps es m1 m2 m3) : NodeIn W v1 v2 v3 v4 v5 x ps es hi :=
  ⟨h.self.in.more h.o3, rowAt_own h.ears h.etop⟩

theorem NodeOwn.keep {W W' : World} {lo hi m1 m2 m3 : Nat} {v1 v2 v3 v4 v5 : Value} {x : SelfD} {ps : List RP} {es : List Th} (h : NodeOwn W lo hi v1 v2 v3 v4 v5 x ps es m1 m2 m3) (hk : ∀ k, lo ≤ k → k < hi → k < W.heap.size → W'.heap[k]? = W.heap[k]?) : NodeOwn W' lo hi v1 v2 v3 v4 v5 x ps es m1 m2 m3 where
  self := h.self.keep (fun k a b c => hk k a (by have := h.o3; omega) c)
  o3 := h.o3
  ears := owns_keepB h.ears (fun k e => by have h1 := h.ears.lt k e; have := h.self.o1; have := h.self.o2; have := h.self.o3; exact hk k (by omega) (h.etop k e) h1.2)
  etop := h.etop

theorem NodeOwn.below {W W' : World} {lo hi m1 m2 m3 B : Nat} {v1 v2 v3 v4 v5 : Value} {x : SelfD} {ps : List RP} {es : List Th} (h : NodeOwn W lo hi v1 v2 v3 v4 v5 x ps es m1 m2 m3) (hb : Below B W W') (hB : hi ≤ B) : NodeOwn W' lo hi v1 v2 v3 v4 v5 x ps es m1 m2 m3 := h.keep (fun k _ h2 _ => hb.block k (by omega))

theorem NodeOwn.low {W : World} {lo lo' hi m1 m2 m3 : Nat} {v1 v2 v3 v4 v5 : Value} {x : SelfD} {ps : List RP} {es : List Th} (h : NodeOwn W lo hi v1 v2 v3 v4 v5 x ps es m1 m2 m3) (hl : lo' ≤ lo) : NodeOwn W lo' hi v1 v2 v3 v4 v5 x ps es m1 m2 m3 := ⟨h.self.low hl, h.o3, h.ears, h.etop⟩

theorem NodeOwn.high {W : World} {lo hi hi' m1 m2 m3 : Nat} {v1 v2 v3 v4 v5 : Value} {x : SelfD} {ps : List RP} {es : List Th} (h : NodeOwn W lo hi v1 v2 v3 v4 v5 x ps es m1 m2 m3) (hl : hi ≤ hi') : NodeOwn W lo hi' v1 v2 v3 v4 v5 x ps es m1 m2 m3 := ⟨h.self, Nat.le_trans h.o3 hl, h.ears, fun k e => Nat.lt_of_lt_of_le (h.etop k e) hl⟩

set_option maxRecDepth 100000 in
set_option maxHeartbeats 1000000 in
theorem szNode_any (v1 v2 v3 v4 v5 : Value) (x : SelfD) (ps : List RP) (es : List Th) (w : World) (hlen : NodeLen x ps es) (hv : NodeIn w v1 v2 v3 v4 v5 x ps es w.heap.size) :
    Calls Tryz.prog 5 #[nodeV x v1 v2 v3 v4 v5, .int .i64 1048576] w fun e w' => ∃ r : Int, e = .returned (.int .i64 r) ∧ (r < 0 ∨ (0 ≤ r ∧ r = 1048576 - (totNd x ps es : Int))) ∧ Below w.heap.size w w' := by
  obtain ⟨⟨a1, c1, rfl⟩, ⟨a2, c2, rfl⟩, ⟨a3, c3, rfl⟩, ⟨a4, c4, rfl⟩, ⟨a5, c5, rfl⟩⟩ := hv.shapes
  have hm : maxLen = 9223372036854775807 := rfl
  have l5 : (es.length : Int) ≤ 9223372036854775807 := by have := hlen.2; omega
  have HT := hide (show (totNd x ps es : Int) = (totS x ps : Int) + (es.length : Int) by unfold totNd; omega)
  have HS := hide (fun W (hb : Below w.heap.size w W) => szSelf_any _ _ _ _ x ps 1048576 W hlen.1 (by omega) (by omega) (hv.then hb).self)
  clear hv hlen hm
  go_enter Tryz.func5, Tryz.ntmps5
  go_wp2_with fail
  have B0 : Below w.heap.size w (w.alloc (.cells #[.int .i64 x.id, .int .i64 x.boot, .int .i64 x.net.n, .slice a1 x.net.ls.length c1, .slice a2 x.net.ts.length c2, .slice a3 x.heard.length c3, .slice a4 ps.length c4, .slice a5 es.length c5] 32)) := (Below.refl _ _).alloc (Nat.le_refl _) _
  have g0 := heap_alloc_new w (.cells #[.int .i64 x.id, .int .i64 x.boot, .int .i64 x.net.n, .slice a1 x.net.ls.length c1, .slice a2 x.net.ts.length c2, .slice a3 x.heard.length c3, .slice a4 ps.length c4, .slice a5 es.length c5] 32)
  obtain ⟨w0, hw0⟩ : ∃ W, W = w.alloc (.cells #[.int .i64 x.id, .int .i64 x.boot, .int .i64 x.net.n, .slice a1 x.net.ls.length c1, .slice a2 x.net.ts.length c2, .slice a3 x.heard.length c3, .slice a4 ps.length c4, .slice a5 es.length c5] 32) := ⟨_, rfl⟩
  rw [← hw0] at B0 g0 ⊢
  clear hw0
  refine (HS.out _ B0).mono ?_
  rintro e w1 ⟨r, rfl, hr, b1⟩
  have B1 : Below w.heap.size w w1 := B0.trans (b1.mono B0.size)
  have g1 := (b1.block _ (lt_of_heap g0)).trans g0
  have s7 := cells_at g1 7
  simp at s7
  clear b1 B0 g0 g1 HS
  rcases hr with hr | ⟨hr0, hr⟩
  · go_wp2
    go_ret
    exact ⟨-1, rfl, .inl (by omega), B1⟩
  have hr1 : ¬ r < 0 := by omega
  have hr2 : r ≤ 1048576 := by omega
  have HR := hide hr
  clear hr
  have HSI := hide (szEarS_any a5 es.length c5 r w1 l5 hr0 hr2)
  go_wp2_with fail
  refine HSI.out.mono ?_
  rintro e w2 ⟨rfl, rfl⟩
  clear s7 HSI
  by_cases h3 : r - (es.length : Int) < 0
  · rw [if_pos h3]
    go_wp2
    go_ret
    exact ⟨-1, rfl, .inl (by omega), B1⟩
  · rw [if_neg h3]
    obtain ⟨z, hz⟩ : ∃ z, z = r - (es.length : Int) := ⟨_, rfl⟩
    rw [← hz] at h3 ⊢
    have HZ := hide hz
    clear hz
    go_wp2
    go_ret
    exact ⟨z, rfl, .inr ⟨by omega, by rw [HT.out]; have := HR.out; have := HZ.out; omega⟩, B1⟩

set_option maxRecDepth 100000 in
set_option maxHeartbeats 4000000 in
theorem toNode_any (v1 v2 v3 v4 v5 : Value) (x : SelfD) (ps : List RP) (es : List Th) (w : World) (ht : totNd x ps es ≤ 1048576) (hv : NodeIn w v1 v2 v3 v4 v5 x ps es w.heap.size) :
    Calls Tryz.prog 7 #[nodeV x v1 v2 v3 v4 v5] w fun e w' => ∃ u1 u2 u3 u4 u5 qs m1 m2 m3, e = .returned (nodeV x u1 u2 u3 u4 u5) ∧ fsts qs = fsts ps ∧ NodeOwn w' w.heap.size w'.heap.size u1 u2 u3 u4 u5 x qs es m1 m2 m3 ∧ Below w.heap.size w w' := by
  obtain ⟨⟨a1, c1, rfl⟩, ⟨a2, c2, rfl⟩, ⟨a3, c3, rfl⟩, ⟨a4, c4, rfl⟩, ⟨a5, c5, rfl⟩⟩ := hv.shapes
  have hS : totS x ps ≤ 1048576 := by unfold totNd at ht; omega
  have hE : es.length ≤ 1048576 := by unfold totNd at ht; omega
  have HX := hide hv
  clear hv ht
  go_enter Tryz.func7, Tryz.ntmps7
  go_wp2_with fail
  have hw0 := heap3_0 w (.cells #[.int .i64 x.id, .int .i64 x.boot, .int .i64 x.net.n, .slice a1 x.net.ls.length c1, .slice a2 x.net.ts.length c2, .slice a3 x.heard.length c3, .slice a4 ps.length c4, .slice a5 es.length c5] 32) (.cells #[.int .i64 0, .int .i64 0, .int .i64 0, .slice none 0 0, .slice none 0 0, .slice none 0 0, .slice none 0 0, .slice none 0 0] 44) (.cells #[.int .i64 0, .int .i64 0, .int .i64 0, .slice none 0 0, .slice none 0 0, .slice none 0 0, .slice none 0 0, .slice none 0 0] 44)
  have hw1 := heap3_1 w (.cells #[.int .i64 x.id, .int .i64 x.boot, .int .i64 x.net.n, .slice a1 x.net.ls.length c1, .slice a2 x.net.ts.length c2, .slice a3 x.heard.length c3, .slice a4 ps.length c4, .slice a5 es.length c5] 32) (.cells #[.int .i64 0, .int .i64 0, .int .i64 0, .slice none 0 0, .slice none 0 0, .slice none 0 0, .slice none 0 0, .slice none 0 0] 44) (.cells #[.int .i64 0, .int .i64 0, .int .i64 0, .slice none 0 0, .slice none 0 0, .slice none 0 0, .slice none 0 0, .slice none 0 0] 44)
  have hw2 := heap3_2 w (.cells #[.int .i64 x.id, .int .i64 x.boot, .int .i64 x.net.n, .slice a1 x.net.ls.length c1, .slice a2 x.net.ts.length c2, .slice a3 x.heard.length c3, .slice a4 ps.length c4, .slice a5 es.length c5] 32) (.cells #[.int .i64 0, .int .i64 0, .int .i64 0, .slice none 0 0, .slice none 0 0, .slice none 0 0, .slice none 0 0, .slice none 0 0] 44) (.cells #[.int .i64 0, .int .i64 0, .int .i64 0, .slice none 0 0, .slice none 0 0, .slice none 0 0, .slice none 0 0, .slice none 0 0] 44)
  have bw := below_three (w := w) (.cells #[.int .i64 x.id, .int .i64 x.boot, .int .i64 x.net.n, .slice a1 x.net.ls.length c1, .slice a2 x.net.ts.length c2, .slice a3 x.heard.length c3, .slice a4 ps.length c4, .slice a5 es.length c5] 32) (.cells #[.int .i64 0, .int .i64 0, .int .i64 0, .slice none 0 0, .slice none 0 0, .slice none 0 0, .slice none 0 0, .slice none 0 0] 44) (.cells #[.int .i64 0, .int .i64 0, .int .i64 0, .slice none 0 0, .slice none 0 0, .slice none 0 0, .slice none 0 0, .slice none 0 0] 44)
  generalize (((w.alloc (.cells #[.int .i64 x.id, .int .i64 x.boot, .int .i64 x.net.n, .slice a1 x.net.ls.length c1, .slice a2 x.net.ts.length c2, .slice a3 x.heard.length c3, .slice a4 ps.length c4, .slice a5 es.length c5] 32)).alloc (.cells #[.int .i64 0, .int .i64 0, .int .i64 0, .slice none 0 0, .slice none 0 0, .slice none 0 0, .slice none 0 0, .slice none 0 0] 44)).alloc (.cells #[.int .i64 0, .int .i64 0, .int .i64 0, .slice none 0 0, .slice none 0 0, .slice none 0 0, .slice none 0 0, .slice none 0 0] 44)) = w1 at *
  refine (toSelf_any _ _ _ _ x ps w1 hS (HX.out.then bw).self).mono ?_
  rintro e w2 ⟨u1, u2, u3, u4, qs, m1, m2, rfl, fq, ow, b2⟩
  obtain ⟨⟨p1, d1, rfl⟩, ⟨p2, d2, rfl⟩, ⟨p3, d3, rfl⟩, ⟨p4, d4, rfl⟩⟩ := ow.in.shapes
  have l2 := lt_of_heap hw2
  rw [← b2.block _ (lt_of_heap hw0)] at hw0
  rw [← b2.block _ (lt_of_heap hw1)] at hw1
  rw [← b2.block _ l2] at hw2
  have hb12 : w.heap.size ≤ w1.heap.size := bw.size
  have hb22 : w1.heap.size ≤ w2.heap.size := b2.size
  have bw2 : Below w.heap.size w w2 := bw.trans (b2.mono hb12)
  have s0 := cells_at hw2 0
  have f0 := frozen_at hw2 0
  have s1 := cells_at hw2 1
  have f1 := frozen_at hw2 1
  have s2 := cells_at hw2 2
  have f2 := frozen_at hw2 2
  have s3 := cells_at hw2 3
  have f3 := frozen_at hw2 3
  have s4 := cells_at hw2 4
  have f4 := frozen_at hw2 4
  have s5 := cells_at hw2 5
  have f5 := frozen_at hw2 5
  have s6 := cells_at hw2 6
  have f6 := frozen_at hw2 6
  simp at s0 s1 s2 s3 s4 s5 s6
  have t7 := cells_at hw0 7
  simp at t7
  have O := hide ow
  have HW0 := hide hw0
  have HW1 := hide hw1
  have HW2 := hide hw2
  have FQ := hide fq
  clear ow hw0 hw1 hw2 fq
  go_wp2_with fail
  have o3 : SelfOwn (((((((w2.setCell ⟨w.heap.size + 1 + 1, 0, none⟩ (.int .i64 x.id)).setCell ⟨w.heap.size + 1 + 1, 1, none⟩ (.int .i64 x.boot)).setCell ⟨w.heap.size + 1 + 1, 2, none⟩ (.int .i64 x.net.n)).setCell ⟨w.heap.size + 1 + 1, 3, none⟩ (.slice p1 x.net.ls.length d1)).setCell ⟨w.heap.size + 1 + 1, 4, none⟩ (.slice p2 x.net.ts.length d2)).setCell ⟨w.heap.size + 1 + 1, 5, none⟩ (.slice p3 x.heard.length d3)).setCell ⟨w.heap.size + 1 + 1, 6, none⟩ (.slice p4 qs.length d4)) w1.heap.size w2.heap.size (.slice p1 x.net.ls.length d1) (.slice p2 x.net.ts.length d2) (.slice p3 x.heard.length d3) (.slice p4 qs.length d4) x qs m1 m2 := O.out.keep (fun k h1 _ _ => by
    rw [heap_setCell_other _ ⟨w.heap.size + 1 + 1, 6, none⟩ _ _ (by show k ≠ w.heap.size + 1 + 1; omega), heap_setCell_other _ ⟨w.heap.size + 1 + 1, 5, none⟩ _ _ (by show k ≠ w.heap.size + 1 + 1; omega), heap_setCell_other _ ⟨w.heap.size + 1 + 1, 4, none⟩ _ _ (by show k ≠ w.heap.size + 1 + 1; omega), heap_setCell_other _ ⟨w.heap.size + 1 + 1, 3, none⟩ _ _ (by show k ≠ w.heap.size + 1 + 1; omega), heap_setCell_other _ ⟨w.heap.size + 1 + 1, 2, none⟩ _ _ (by show k ≠ w.heap.size + 1 + 1; omega), heap_setCell_other _ ⟨w.heap.size + 1 + 1, 1, none⟩ _ _ (by show k ≠ w.heap.size + 1 + 1; omega), heap_setCell_other _ ⟨w.heap.size + 1 + 1, 0, none⟩ _ _ (by show k ≠ w.heap.size + 1 + 1; omega)])
  have q0 : (((((((w2.setCell ⟨w.heap.size + 1 + 1, 0, none⟩ (.int .i64 x.id)).setCell ⟨w.heap.size + 1 + 1, 1, none⟩ (.int .i64 x.boot)).setCell ⟨w.heap.size + 1 + 1, 2, none⟩ (.int .i64 x.net.n)).setCell ⟨w.heap.size + 1 + 1, 3, none⟩ (.slice p1 x.net.ls.length d1)).setCell ⟨w.heap.size + 1 + 1, 4, none⟩ (.slice p2 x.net.ts.length d2)).setCell ⟨w.heap.size + 1 + 1, 5, none⟩ (.slice p3 x.heard.length d3)).setCell ⟨w.heap.size + 1 + 1, 6, none⟩ (.slice p4 qs.length d4)).heap[w.heap.size]? = some (.cells #[.int .i64 x.id, .int .i64 x.boot, .int .i64 x.net.n, .slice a1 x.net.ls.length c1, .slice a2 x.net.ts.length c2, .slice a3 x.heard.length c3, .slice a4 ps.length c4, .slice a5 es.length c5] 32) := by
    rw [heap_setCell_other _ ⟨w.heap.size + 1 + 1, 6, none⟩ _ _ (by show w.heap.size ≠ w.heap.size + 1 + 1; omega), heap_setCell_other _ ⟨w.heap.size + 1 + 1, 5, none⟩ _ _ (by show w.heap.size ≠ w.heap.size + 1 + 1; omega), heap_setCell_other _ ⟨w.heap.size + 1 + 1, 4, none⟩ _ _ (by show w.heap.size ≠ w.heap.size + 1 + 1; omega), heap_setCell_other _ ⟨w.heap.size + 1 + 1, 3, none⟩ _ _ (by show w.heap.size ≠ w.heap.size + 1 + 1; omega), heap_setCell_other _ ⟨w.heap.size + 1 + 1, 2, none⟩ _ _ (by show w.heap.size ≠ w.heap.size + 1 + 1; omega), heap_setCell_other _ ⟨w.heap.size + 1 + 1, 1, none⟩ _ _ (by show w.heap.size ≠ w.heap.size + 1 + 1; omega), heap_setCell_other _ ⟨w.heap.size + 1 + 1, 0, none⟩ _ _ (by show w.heap.size ≠ w.heap.size + 1 + 1; omega)]
    exact HW0.out
  have q1 : (((((((w2.setCell ⟨w.heap.size + 1 + 1, 0, none⟩ (.int .i64 x.id)).setCell ⟨w.heap.size + 1 + 1, 1, none⟩ (.int .i64 x.boot)).setCell ⟨w.heap.size + 1 + 1, 2, none⟩ (.int .i64 x.net.n)).setCell ⟨w.heap.size + 1 + 1, 3, none⟩ (.slice p1 x.net.ls.length d1)).setCell ⟨w.heap.size + 1 + 1, 4, none⟩ (.slice p2 x.net.ts.length d2)).setCell ⟨w.heap.size + 1 + 1, 5, none⟩ (.slice p3 x.heard.length d3)).setCell ⟨w.heap.size + 1 + 1, 6, none⟩ (.slice p4 qs.length d4)).heap[w.heap.size + 1]? = some (.cells #[.int .i64 0, .int .i64 0, .int .i64 0, .slice none 0 0, .slice none 0 0, .slice none 0 0, .slice none 0 0, .slice none 0 0] 44) := by
    rw [heap_setCell_other _ ⟨w.heap.size + 1 + 1, 6, none⟩ _ _ (by show w.heap.size + 1 ≠ w.heap.size + 1 + 1; omega), heap_setCell_other _ ⟨w.heap.size + 1 + 1, 5, none⟩ _ _ (by show w.heap.size + 1 ≠ w.heap.size + 1 + 1; omega), heap_setCell_other _ ⟨w.heap.size + 1 + 1, 4, none⟩ _ _ (by show w.heap.size + 1 ≠ w.heap.size + 1 + 1; omega), heap_setCell_other _ ⟨w.heap.size + 1 + 1, 3, none⟩ _ _ (by show w.heap.size + 1 ≠ w.heap.size + 1 + 1; omega), heap_setCell_other _ ⟨w.heap.size + 1 + 1, 2, none⟩ _ _ (by show w.heap.size + 1 ≠ w.heap.size + 1 + 1; omega), heap_setCell_other _ ⟨w.heap.size + 1 + 1, 1, none⟩ _ _ (by show w.heap.size + 1 ≠ w.heap.size + 1 + 1; omega), heap_setCell_other _ ⟨w.heap.size + 1 + 1, 0, none⟩ _ _ (by show w.heap.size + 1 ≠ w.heap.size + 1 + 1; omega)]
    exact HW1.out
  have q2 : (((((((w2.setCell ⟨w.heap.size + 1 + 1, 0, none⟩ (.int .i64 x.id)).setCell ⟨w.heap.size + 1 + 1, 1, none⟩ (.int .i64 x.boot)).setCell ⟨w.heap.size + 1 + 1, 2, none⟩ (.int .i64 x.net.n)).setCell ⟨w.heap.size + 1 + 1, 3, none⟩ (.slice p1 x.net.ls.length d1)).setCell ⟨w.heap.size + 1 + 1, 4, none⟩ (.slice p2 x.net.ts.length d2)).setCell ⟨w.heap.size + 1 + 1, 5, none⟩ (.slice p3 x.heard.length d3)).setCell ⟨w.heap.size + 1 + 1, 6, none⟩ (.slice p4 qs.length d4)).heap[w.heap.size + 1 + 1]? = some (.cells #[.int .i64 x.id, .int .i64 x.boot, .int .i64 x.net.n, .slice p1 x.net.ls.length d1, .slice p2 x.net.ts.length d2, .slice p3 x.heard.length d3, .slice p4 qs.length d4, .slice none 0 0] 44) := by
    have k0 := HW2.out
    have k1 := heap_setCell_same _ _ 0 _ _ (.int .i64 x.id) k0
    have k2 := heap_setCell_same _ _ 1 _ _ (.int .i64 x.boot) k1
    have k3 := heap_setCell_same _ _ 2 _ _ (.int .i64 x.net.n) k2
    have k4 := heap_setCell_same _ _ 3 _ _ (.slice p1 x.net.ls.length d1) k3
    have k5 := heap_setCell_same _ _ 4 _ _ (.slice p2 x.net.ts.length d2) k4
    have k6 := heap_setCell_same _ _ 5 _ _ (.slice p3 x.heard.length d3) k5
    have k7 := heap_setCell_same _ _ 6 _ _ (.slice p4 qs.length d4) k6
    exact k7
  have bw3 : Below w.heap.size w (((((((w2.setCell ⟨w.heap.size + 1 + 1, 0, none⟩ (.int .i64 x.id)).setCell ⟨w.heap.size + 1 + 1, 1, none⟩ (.int .i64 x.boot)).setCell ⟨w.heap.size + 1 + 1, 2, none⟩ (.int .i64 x.net.n)).setCell ⟨w.heap.size + 1 + 1, 3, none⟩ (.slice p1 x.net.ls.length d1)).setCell ⟨w.heap.size + 1 + 1, 4, none⟩ (.slice p2 x.net.ts.length d2)).setCell ⟨w.heap.size + 1 + 1, 5, none⟩ (.slice p3 x.heard.length d3)).setCell ⟨w.heap.size + 1 + 1, 6, none⟩ (.slice p4 qs.length d4)) := (((((((bw2.setCell (by show w.heap.size ≤ w.heap.size + 1 + 1; omega) _).setCell (by show w.heap.size ≤ w.heap.size + 1 + 1; omega) _).setCell (by show w.heap.size ≤ w.heap.size + 1 + 1; omega) _).setCell (by show w.heap.size ≤ w.heap.size + 1 + 1; omega) _).setCell (by show w.heap.size ≤ w.heap.size + 1 + 1; omega) _).setCell (by show w.heap.size ≤ w.heap.size + 1 + 1; omega) _).setCell (by show w.heap.size ≤ w.heap.size + 1 + 1; omega) _)
  have z3 : (((((((w2.setCell ⟨w.heap.size + 1 + 1, 0, none⟩ (.int .i64 x.id)).setCell ⟨w.heap.size + 1 + 1, 1, none⟩ (.int .i64 x.boot)).setCell ⟨w.heap.size + 1 + 1, 2, none⟩ (.int .i64 x.net.n)).setCell ⟨w.heap.size + 1 + 1, 3, none⟩ (.slice p1 x.net.ls.length d1)).setCell ⟨w.heap.size + 1 + 1, 4, none⟩ (.slice p2 x.net.ts.length d2)).setCell ⟨w.heap.size + 1 + 1, 5, none⟩ (.slice p3 x.heard.length d3)).setCell ⟨w.heap.size + 1 + 1, 6, none⟩ (.slice p4 qs.length d4)).heap.size = w2.heap.size := by simp
  generalize (((((((w2.setCell ⟨w.heap.size + 1 + 1, 0, none⟩ (.int .i64 x.id)).setCell ⟨w.heap.size + 1 + 1, 1, none⟩ (.int .i64 x.boot)).setCell ⟨w.heap.size + 1 + 1, 2, none⟩ (.int .i64 x.net.n)).setCell ⟨w.heap.size + 1 + 1, 3, none⟩ (.slice p1 x.net.ls.length d1)).setCell ⟨w.heap.size + 1 + 1, 4, none⟩ (.slice p2 x.net.ts.length d2)).setCell ⟨w.heap.size + 1 + 1, 5, none⟩ (.slice p3 x.heard.length d3)).setCell ⟨w.heap.size + 1 + 1, 6, none⟩ (.slice p4 qs.length d4)) = w3 at *
  clear s0 s1 s2 s3 s4 s5 s6 f0 f1 f2 f3 f4 f5 f6 t7 HW0 HW1 HW2 O
  refine (toEarS_any _ es w3 hE (HX.out.ears.then bw3)).mono ?_
  rintro e w4 ⟨u5, rfl, ho5, b4⟩
  obtain ⟨p5, d5, rfl⟩ := owns_lenS ho5
  have hl3 := lt_of_heap q2
  rw [← b4.block _ (lt_of_heap q1)] at q1
  rw [← b4.block _ hl3] at q2
  have hz4 := b4.size
  have bw4 : Below w.heap.size w w4 := bw3.trans (b4.mono bw3.size)
  have OW := hide (show NodeOwn w4 w1.heap.size w4.heap.size (.slice p1 x.net.ls.length d1) (.slice p2 x.net.ts.length d2) (.slice p3 x.heard.length d3) (.slice p4 qs.length d4) (.slice p5 es.length d5) x qs es m1 m2 w3.heap.size from
    ⟨(o3.high (by omega)).below b4 (by omega), hz4, ho5, fun k hk => (ho5.lt k hk).2⟩)
  have r0 := cells_at q1 0
  have t0 := cells_at q2 0
  have g0 := frozen_at q1 0
  have r1 := cells_at q1 1
  have t1 := cells_at q2 1
  have g1 := frozen_at q1 1
  have r2 := cells_at q1 2
  have t2 := cells_at q2 2
  have g2 := frozen_at q1 2
  have r3 := cells_at q1 3
  have t3 := cells_at q2 3
  have g3 := frozen_at q1 3
  have r4 := cells_at q1 4
  have t4 := cells_at q2 4
  have g4 := frozen_at q1 4
  have r5 := cells_at q1 5
  have t5 := cells_at q2 5
  have g5 := frozen_at q1 5
  have r6 := cells_at q1 6
  have t6 := cells_at q2 6
  have g6 := frozen_at q1 6
  have r7 := cells_at q1 7
  have t7 := cells_at q2 7
  have g7 := frozen_at q1 7
  have e7 := frozen_at q2 7
  simp at r0 r1 r2 r3 r4 r5 r6 r7 t0 t1 t2 t3 t4 t5 t6 t7
  have Q1 := hide q1
  have Q2 := hide q2
  have hl6 := lt_of_heap q2
  clear o3 ho5 q0 q1 q2
  go_wp2
  have hfin : (((((((((w4.setCell ⟨w.heap.size + 1 + 1, 7, none⟩ (.slice p5 es.length d5)).setCell ⟨w.heap.size + 1, 0, none⟩ (.int .i64 x.id)).setCell ⟨w.heap.size + 1, 1, none⟩ (.int .i64 x.boot)).setCell ⟨w.heap.size + 1, 2, none⟩ (.int .i64 x.net.n)).setCell ⟨w.heap.size + 1, 3, none⟩ (.slice p1 x.net.ls.length d1)).setCell ⟨w.heap.size + 1, 4, none⟩ (.slice p2 x.net.ts.length d2)).setCell ⟨w.heap.size + 1, 5, none⟩ (.slice p3 x.heard.length d3)).setCell ⟨w.heap.size + 1, 6, none⟩ (.slice p4 qs.length d4)).setCell ⟨w.heap.size + 1, 7, none⟩ (.slice p5 es.length d5)).heap[w.heap.size + 1]? = some (.cells #[.int .i64 x.id, .int .i64 x.boot, .int .i64 x.net.n, .slice p1 x.net.ls.length d1, .slice p2 x.net.ts.length d2, .slice p3 x.heard.length d3, .slice p4 qs.length d4, .slice p5 es.length d5] 44) := by
    have k0 : (w4.setCell ⟨w.heap.size + 1 + 1, 7, none⟩ (.slice p5 es.length d5)).heap[w.heap.size + 1]? = some (.cells #[.int .i64 0, .int .i64 0, .int .i64 0, .slice none 0 0, .slice none 0 0, .slice none 0 0, .slice none 0 0, .slice none 0 0] 44) := by
      rw [heap_setCell_other _ ⟨w.heap.size + 1 + 1, 7, none⟩ _ _ (by show w.heap.size + 1 ≠ w.heap.size + 1 + 1; omega)]
      exact Q1.out
    have k1 := heap_setCell_same _ _ 0 _ _ (.int .i64 x.id) k0
    have k2 := heap_setCell_same _ _ 1 _ _ (.int .i64 x.boot) k1
    have k3 := heap_setCell_same _ _ 2 _ _ (.int .i64 x.net.n) k2
    have k4 := heap_setCell_same _ _ 3 _ _ (.slice p1 x.net.ls.length d1) k3
    have k5 := heap_setCell_same _ _ 4 _ _ (.slice p2 x.net.ts.length d2) k4
    have k6 := heap_setCell_same _ _ 5 _ _ (.slice p3 x.heard.length d3) k5
    have k7 := heap_setCell_same _ _ 6 _ _ (.slice p4 qs.length d4) k6
    have k8 := heap_setCell_same _ _ 7 _ _ (.slice p5 es.length d5) k7
    exact k8
  have hkeep : ∀ k, w1.heap.size ≤ k → (((((((((w4.setCell ⟨w.heap.size + 1 + 1, 7, none⟩ (.slice p5 es.length d5)).setCell ⟨w.heap.size + 1, 0, none⟩ (.int .i64 x.id)).setCell ⟨w.heap.size + 1, 1, none⟩ (.int .i64 x.boot)).setCell ⟨w.heap.size + 1, 2, none⟩ (.int .i64 x.net.n)).setCell ⟨w.heap.size + 1, 3, none⟩ (.slice p1 x.net.ls.length d1)).setCell ⟨w.heap.size + 1, 4, none⟩ (.slice p2 x.net.ts.length d2)).setCell ⟨w.heap.size + 1, 5, none⟩ (.slice p3 x.heard.length d3)).setCell ⟨w.heap.size + 1, 6, none⟩ (.slice p4 qs.length d4)).setCell ⟨w.heap.size + 1, 7, none⟩ (.slice p5 es.length d5)).heap[k]? = w4.heap[k]? := fun k hk => by
    rw [heap_setCell_other _ ⟨w.heap.size + 1, 7, none⟩ _ _ (by show k ≠ w.heap.size + 1; omega), heap_setCell_other _ ⟨w.heap.size + 1, 6, none⟩ _ _ (by show k ≠ w.heap.size + 1; omega), heap_setCell_other _ ⟨w.heap.size + 1, 5, none⟩ _ _ (by show k ≠ w.heap.size + 1; omega), heap_setCell_other _ ⟨w.heap.size + 1, 4, none⟩ _ _ (by show k ≠ w.heap.size + 1; omega), heap_setCell_other _ ⟨w.heap.size + 1, 3, none⟩ _ _ (by show k ≠ w.heap.size + 1; omega), heap_setCell_other _ ⟨w.heap.size + 1, 2, none⟩ _ _ (by show k ≠ w.heap.size + 1; omega), heap_setCell_other _ ⟨w.heap.size + 1, 1, none⟩ _ _ (by show k ≠ w.heap.size + 1; omega), heap_setCell_other _ ⟨w.heap.size + 1, 0, none⟩ _ _ (by show k ≠ w.heap.size + 1; omega), heap_setCell_other _ ⟨w.heap.size + 1 + 1, 7, none⟩ _ _ (by show k ≠ w.heap.size + 1 + 1; omega)]
  have hsize : (((((((((w4.setCell ⟨w.heap.size + 1 + 1, 7, none⟩ (.slice p5 es.length d5)).setCell ⟨w.heap.size + 1, 0, none⟩ (.int .i64 x.id)).setCell ⟨w.heap.size + 1, 1, none⟩ (.int .i64 x.boot)).setCell ⟨w.heap.size + 1, 2, none⟩ (.int .i64 x.net.n)).setCell ⟨w.heap.size + 1, 3, none⟩ (.slice p1 x.net.ls.length d1)).setCell ⟨w.heap.size + 1, 4, none⟩ (.slice p2 x.net.ts.length d2)).setCell ⟨w.heap.size + 1, 5, none⟩ (.slice p3 x.heard.length d3)).setCell ⟨w.heap.size + 1, 6, none⟩ (.slice p4 qs.length d4)).setCell ⟨w.heap.size + 1, 7, none⟩ (.slice p5 es.length d5)).heap.size = w4.heap.size := by simp
  have hbel : Below w.heap.size w (((((((((w4.setCell ⟨w.heap.size + 1 + 1, 7, none⟩ (.slice p5 es.length d5)).setCell ⟨w.heap.size + 1, 0, none⟩ (.int .i64 x.id)).setCell ⟨w.heap.size + 1, 1, none⟩ (.int .i64 x.boot)).setCell ⟨w.heap.size + 1, 2, none⟩ (.int .i64 x.net.n)).setCell ⟨w.heap.size + 1, 3, none⟩ (.slice p1 x.net.ls.length d1)).setCell ⟨w.heap.size + 1, 4, none⟩ (.slice p2 x.net.ts.length d2)).setCell ⟨w.heap.size + 1, 5, none⟩ (.slice p3 x.heard.length d3)).setCell ⟨w.heap.size + 1, 6, none⟩ (.slice p4 qs.length d4)).setCell ⟨w.heap.size + 1, 7, none⟩ (.slice p5 es.length d5)) := (((((((((bw4.setCell (by show w.heap.size ≤ w.heap.size + 1 + 1; omega) _).setCell (by show w.heap.size ≤ w.heap.size + 1; omega) _).setCell (by show w.heap.size ≤ w.heap.size + 1; omega) _).setCell (by show w.heap.size ≤ w.heap.size + 1; omega) _).setCell (by show w.heap.size ≤ w.heap.size + 1; omega) _).setCell (by show w.heap.size ≤ w.heap.size + 1; omega) _).setCell (by show w.heap.size ≤ w.heap.size + 1; omega) _).setCell (by show w.heap.size ≤ w.heap.size + 1; omega) _).setCell (by show w.heap.size ≤ w.heap.size + 1; omega) _)
  try simp only [Exit.inBlock, Exit.then]
  refine bodyPost_ret (results_cell_row rfl _ _ (w.heap.size + 1) 44 #[.int .i64 x.id, .int .i64 x.boot, .int .i64 x.net.n, .slice p1 x.net.ls.length d1, .slice p2 x.net.ts.length d2, .slice p3 x.heard.length d3, .slice p4 qs.length d4, .slice p5 es.length d5] (0, 0) _ rfl hfin Tryz.underlying44 rfl (by kernel_rfl)) rfl ?_
  exact ⟨_, _, _, _, _, qs, _, _, _, rfl, FQ.out, ((OW.out.keep (fun k h1 _ _ => hkeep k h1)).low (by omega)).high (by rw [hsize]; omega), hbel⟩

set_option maxRecDepth 100000 in
set_option maxHeartbeats 2000000 in
theorem eqNode_any (v1 v2 v3 v4 v5 u1 u2 u3 u4 u5 : Value) (x : SelfD) (ps qs : List RP) (es : List Th) (w : World) (ht : totNd x ps es ≤ 1048576) (h1 : NodeIn w v1 v2 v3 v4 v5 x ps es w.heap.size) (h2 : NodeIn w u1 u2 u3 u4 u5 x qs es w.heap.size) (he : fsts ps = fsts qs) :
    Calls Tryz.prog 9 #[nodeV x v1 v2 v3 v4 v5, nodeV x u1 u2 u3 u4 u5] w fun e w' => e = .returned (.bool true) ∧ Below w.heap.size w w' := by
  obtain ⟨⟨a1, c1, rfl⟩, ⟨a2, c2, rfl⟩, ⟨a3, c3, rfl⟩, ⟨a4, c4, rfl⟩, ⟨a5, c5, rfl⟩⟩ := h1.shapes
  obtain ⟨⟨b1, d1, rfl⟩, ⟨b2, d2, rfl⟩, ⟨b3, d3, rfl⟩, ⟨b4, d4, rfl⟩, ⟨b5, d5, rfl⟩⟩ := h2.shapes
  have hS : totS x ps ≤ 1048576 := by unfold totNd at ht; omega
  have hE : es.length ≤ 1048576 := by unfold totNd at ht; omega
  have H1 := hide h1
  have H2 := hide h2
  have HE := hide he
  clear h1 h2 he ht
  go_enter Tryz.func9, Tryz.ntmps9
  go_wp2_with fail
  obtain ⟨w1, hw1⟩ : ∃ w1, w1 = (w.alloc (.cells #[.int .i64 x.id, .int .i64 x.boot, .int .i64 x.net.n, .slice a1 x.net.ls.length c1, .slice a2 x.net.ts.length c2, .slice a3 x.heard.length c3, .slice a4 ps.length c4, .slice a5 es.length c5] 44)).alloc (.cells #[.int .i64 x.id, .int .i64 x.boot, .int .i64 x.net.n, .slice b1 x.net.ls.length d1, .slice b2 x.net.ts.length d2, .slice b3 x.heard.length d3, .slice b4 qs.length d4, .slice b5 es.length d5] 44) := ⟨_, rfl⟩
  have B1 : Below w.heap.size w w1 := by rw [hw1]; exact below_two _ _
  have p0 : w1.heap[w.heap.size]? = some (.cells #[.int .i64 x.id, .int .i64 x.boot, .int .i64 x.net.n, .slice a1 x.net.ls.length c1, .slice a2 x.net.ts.length c2, .slice a3 x.heard.length c3, .slice a4 ps.length c4, .slice a5 es.length c5] 44) := by rw [hw1, Below.heap_alloc _ _ _ (by simp), heap_alloc_new]
  have q0 : w1.heap[w.heap.size + 1]? = some (.cells #[.int .i64 x.id, .int .i64 x.boot, .int .i64 x.net.n, .slice b1 x.net.ls.length d1, .slice b2 x.net.ts.length d2, .slice b3 x.heard.length d3, .slice b4 qs.length d4, .slice b5 es.length d5] 44) := by
    rw [hw1]
    have := heap_alloc_new (w.alloc (.cells #[.int .i64 x.id, .int .i64 x.boot, .int .i64 x.net.n, .slice a1 x.net.ls.length c1, .slice a2 x.net.ts.length c2, .slice a3 x.heard.length c3, .slice a4 ps.length c4, .slice a5 es.length c5] 44)) (.cells #[.int .i64 x.id, .int .i64 x.boot, .int .i64 x.net.n, .slice b1 x.net.ls.length d1, .slice b2 x.net.ts.length d2, .slice b3 x.heard.length d3, .slice b4 qs.length d4, .slice b5 es.length d5] 44)
    simpa using this
  rw [← hw1]
  clear hw1
  refine (eqSelf_any _ _ _ _ _ _ _ _ x ps qs w1 hS (H1.out.then B1).self (H2.out.then B1).self HE.out).mono ?_
  rintro e w2 ⟨rfl, b2⟩
  have p1 := (b2.block _ (lt_of_heap p0)).trans p0
  have q1 := (b2.block _ (lt_of_heap q0)).trans q0
  have B2 : Below w.heap.size w w2 := B1.trans (b2.mono B1.size)
  have s7 := cells_at p1 7
  have t7 := cells_at q1 7
  simp at s7 t7
  have HEI := eqEarS_any _ _ es es w2 (H1.out.then B2).ears (H2.out.then B2).ears hE
  rw [decide_eq_true rfl] at HEI
  have HI := hide HEI
  clear p0 q0 p1 q1 HEI b2
  go_wp2_with fail
  refine HI.out.mono ?_
  rintro e w3 ⟨rfl, b3⟩
  have B3 : Below w.heap.size w w3 := B2.trans (b3.mono B2.size)
  go_wp2
  go_ret
  exact ⟨rfl, B3⟩
end Go.Proofs.YtimbeeinognjbaaGreatDoor
namespace Go.Proofs.YtimbeeinognjbaaGreatDoor
open Go.RowKit

def ascAt {α : Type} (ord : α → α → Int) (ls : List α) : Nat → Bool
  | 0 => true
  | k + 1 => match ls[k]?, ls[k + 1]? with
    | some p, some l => decide (ord p l < 0)
    | _, _ => true

theorem ascAt_eq {α : Type} {ord : α → α → Int} {ls : List α} {j : Nat} {p l : α} (hp : ls[j]? = some p) (hl : ls[j + 1]? = some l) : ascAt ord ls (j + 1) = decide (ord p l < 0) := by
  simp only [ascAt, hp, hl]

def ascB {α : Type} (ord : α → α → Int) (ls : List α) : Bool := (List.range ls.length).all (ascAt ord ls)

theorem all_false {n k : Nat} {p : Nat → Bool} (hk : k < n) (h : p k = false) : (List.range n).all p = false := by
  cases e : (List.range n).all p with
  | false => rfl
  | true => rw [List.all_eq_true.1 e k (List.mem_range.2 hk)] at h; cases h

theorem all_true {n : Nat} {p : Nat → Bool} (h : ∀ j, j < n → p j = true) : (List.range n).all p = true := List.all_eq_true.2 fun j hj => h j (List.mem_range.1 hj)

theorem next_true {k : Nat} {p : Nat → Bool} (h : ∀ j, j < k → p j = true) (hk : p k = true) : ∀ j, j < k + 1 → p j = true := fun j hj => by
  by_cases e : j = k
  · subst e; exact hk
  · exact h j (by omega)

def okAt {α : Type} (ok : α → Bool) (ls : List α) (k : Nat) : Bool := match ls[k]? with
  | some l => ok l
  | none => true

theorem okAt_eq {α : Type} {ok : α → Bool} {ls : List α} {k : Nat} {l : α} (h : ls[k]? = some l) : okAt ok ls k = ok l := by simp only [okAt, h]

def allOk {α : Type} (ok : α → Bool) (ls : List α) : Bool := (List.range ls.length).all (okAt ok ls)

end Go.Proofs.YtimbeeinognjbaaGreatDoor
namespace Go.Proofs.YtimbeeinognjbaaGreatDoor
open Go.RowKit

def inB (x a b : Int) : Bool := decide (a ≤ x) && decide (x ≤ b)

set_option maxHeartbeats 400000 in
theorem in_any (x a b : Int) (w : World) : Calls Tryz.prog 20 #[.int .i64 x, .int .i64 a, .int .i64 b] w fun e w' => e = .returned (.bool (inB x a b)) ∧ w = w' := by
  by_cases h1 : a ≤ x <;> by_cases h2 : x ≤ b
  all_goals
    go_enter Tryz.func20, Tryz.ntmps20
    go_wp2
    go_ret
    exact ⟨by simp [inB, h1, h2], rfl⟩

end Go.Proofs.YtimbeeinognjbaaGreatDoor
namespace Go.Proofs.YtimbeeinognjbaaGreatDoor
open Go.RowKit

set_option maxRecDepth 100000 in
set_option maxHeartbeats 2000000 in
theorem isIn_any (x a b : Int) (w : World) : Calls Tryz.prog 90 #[.int .i64 x, .int .i64 a, .int .i64 b] w fun e w' => e = .returned (.bool (inB x a b)) ∧ w = w' := by
  by_cases h1 : a ≤ x <;> by_cases h2 : x ≤ b
  all_goals
    go_enter Tryz.func90, Tryz.ntmps90
    go_wp2
    go_ret
    exact ⟨by simp [inB, h1, h2], rfl⟩

def cmpN (a b : Int) : Int := if a < b then -1 else if b < a then 1 else 0

theorem cmpN_zero {a b : Int} : cmpN a b = 0 ↔ a = b := by unfold cmpN; split <;> (try split) <;> omega

theorem cmpN_neg {a b : Int} : cmpN a b < 0 ↔ a < b := by unfold cmpN; split <;> (try split) <;> omega

theorem ret_i {a b : Int} (h : b = a) : Ending.returned (.int .i64 a) = .returned (.int .i64 b) := by rw [h]

set_option maxRecDepth 100000 in
set_option maxHeartbeats 1000000 in
theorem isNaN_any (a : Int) (w : World) : Calls Tryz.prog 186 #[.int .i64 a] w fun e w' => e = .returned (.bool false) ∧ w = w' := by
  go_enter Tryz.func186, Tryz.ntmps186
  go_wp2
  go_ret
  exact ⟨by simp, rfl⟩

set_option maxRecDepth 100000 in
set_option maxHeartbeats 1000000 in
theorem compare_any (a b : Int) (w : World) : Calls Tryz.prog 163 #[.int .i64 a, .int .i64 b] w fun e w' => e = .returned (.int .i64 (cmpN a b)) ∧ w = w' := by
  go_enter Tryz.func163, Tryz.ntmps163
  go_wp2_with fail
  refine (isNaN_any a _).mono ?_
  rintro e w1 ⟨rfl, rfl⟩
  go_wp2_with fail
  refine (isNaN_any b _).mono ?_
  rintro e w1 ⟨rfl, rfl⟩
  go_wp2
  all_goals go_ret
  all_goals refine ⟨ret_i ?_, rfl⟩
  all_goals (unfold cmpN; grind)
end Go.Proofs.YtimbeeinognjbaaGreatDoor
namespace Go.Proofs.YtimbeeinognjbaaGreatDoor
open Go.RowKit

/-- the first that is not 0 -/
def orN : List Int → Int
  | [] => 0
  | x :: xs => if x = 0 then orN xs else x

theorem orN_skip : ∀ (k : Nat) (l : List Int), (∀ j, j < k → l.getD j 0 = 0) → orN l = orN (l.drop k)
  | 0, l, _ => by simp
  | k + 1, [], _ => by simp
  | k + 1, x :: xs, h => by
    have h0 : x = 0 := by simpa using h 0 (by omega)
    subst h0
    have e : orN (0 :: xs) = orN xs := by simp [orN]
    rw [e, List.drop_succ_cons]
    exact orN_skip k xs (fun j hj => by simpa using h (j + 1) (by omega))

theorem orN_at {k : Nat} {l : List Int} (h : ∀ j, j < k → l.getD j 0 = 0) (hk : k < l.length) (hx : l.getD k 0 ≠ 0) : orN l = l.getD k 0 := by
  rw [orN_skip k l h, List.drop_eq_getElem_cons hk]
  have e : l.getD k 0 = l[k] := by simp [List.getElem?_eq_getElem hk]
  rw [e] at hx ⊢
  simp only [orN]
  rw [if_neg hx]

theorem orN_none {k : Nat} {l : List Int} (h : ∀ j, j < k → l.getD j 0 = 0) (hk : k = l.length) : orN l = 0 := by
  rw [orN_skip k l h, List.drop_of_length_le (by omega)]
  rfl

set_option maxRecDepth 100000 in
set_option maxHeartbeats 1000000 in
theorem or_any (b n : Nat) (l : List Int) (w : World) (hn : n = l.length) (hs : l.length ≤ 1000) (hc : ∀ j, j < l.length → w.cell? ⟨b, j, none⟩ = some (.int .i64 (l.getD j 0))) :
    Calls Tryz.prog 162 #[.slice (some ⟨b, 0, none⟩) n n] w fun e w' => e = .returned (.int .i64 (orN l)) ∧ w = w' := by
  subst hn
  have HC := hide hc
  clear hc
  go_enter Tryz.func162, Tryz.ntmps162
  go_wp2
  go_loopw [8] (fun i wr => ∃ k : Nat, k ≤ l.length ∧ i = .int .i64 k ∧ (∀ j, j < k → l.getD j 0 = 0) ∧ w = wr) (fun i _ => l.length - (intOf i).toNat)
  case atStart => exact ⟨0, by omega, rfl, by omega, rfl⟩
  case round =>
    obtain ⟨k, hk, rfl, hno, rfl⟩ := hrel
    have HNO := hide hno
    clear hno
    by_cases hlt : k < l.length
    · have hcell := HC.out k hlt
      by_cases h0 : l.getD k 0 = 0
      · have hnx : ∀ j, j < k + 1 → l.getD j 0 = 0 := fun j hj => by
          by_cases e : j = k
          · subst e; exact h0
          · exact HNO.out j (by omega)
        rw [h0] at hcell
        have HN := hide hnx
        clear h0 hnx
        go_wp2
        go_roundw
        case rel => exact ⟨k + 1, by omega, by go_num, HN.out, trivial⟩
        case measure => simp [intOf]; omega
      · obtain ⟨y, hy⟩ : ∃ y, y = l.getD k 0 := ⟨_, rfl⟩
        rw [← hy] at hcell h0
        have hor : orN l = y := by rw [hy]; exact orN_at HNO.out hlt (by rw [← hy]; exact h0)
        have HO := hide hor
        clear hy hor
        go_wp2
        go_ret
        exact ⟨ret_i HO.out, rfl⟩
    · have hk' : k = l.length := by omega
      have HK := hide hk'
      clear hk'
      go_wp2
      go_ret
      exact ⟨ret_i (orN_none HNO.out HK.out), rfl⟩

theorem or_three (b : Nat) (x y z : Int) (w : World) (h0 : w.cell? ⟨b, 0, none⟩ = some (.int .i64 x)) (h1 : w.cell? ⟨b, 1, none⟩ = some (.int .i64 y)) (h2 : w.cell? ⟨b, 2, none⟩ = some (.int .i64 z)) :
    Calls Tryz.prog 162 #[.slice (some ⟨b, 0, none⟩) 3 3] w fun e w' => e = .returned (.int .i64 (orN [x, y, z])) ∧ w = w' :=
  or_any b 3 [x, y, z] w rfl (by simp) (fun j hj => by
    match j, hj with
    | 0, _ => exact h0
    | 1, _ => exact h1
    | 2, _ => exact h2
    | j + 3, hj => exact absurd hj (by simp only [List.length_cons, List.length_nil]; omega))

theorem or_two (b : Nat) (x y : Int) (w : World) (h0 : w.cell? ⟨b, 0, none⟩ = some (.int .i64 x)) (h1 : w.cell? ⟨b, 1, none⟩ = some (.int .i64 y)) :
    Calls Tryz.prog 162 #[.slice (some ⟨b, 0, none⟩) 2 2] w fun e w' => e = .returned (.int .i64 (orN [x, y])) ∧ w = w' :=
  or_any b 2 [x, y] w rfl (by simp) (fun j hj => by
    match j, hj with
    | 0, _ => exact h0
    | 1, _ => exact h1
    | j + 2, hj => exact absurd hj (by simp only [List.length_cons, List.length_nil]; omega))

theorem new_cell (w1 : World) (cs : Array Value) (t : TypeId) (j : Nat) (v : Value) (h : cs[j]? = some v) : (w1.alloc (.cells cs t)).drew.cell? ⟨w1.heap.size, j, none⟩ = some v := by
  have := cells_at (heap_alloc_new w1 (.cells cs t)) j
  rw [h] at this
  exact this

def ordL (l m : Lk) : Int := orN [cmpN l.a m.a, cmpN l.b m.b, cmpN l.r m.r]

def ordT (l m : Th) : Int := orN [cmpN l.k m.k, cmpN l.o m.o]

set_option maxRecDepth 100000 in
set_option maxHeartbeats 4000000 in
theorem ordL_any (l m : Lk) (w : World) : Calls Tryz.prog 159 #[lkV l, lkV m] w fun e w' => e = .returned (.int .i64 (ordL l m)) ∧ Below w.heap.size w w' := by
  obtain ⟨a, b, c, r⟩ := l
  obtain ⟨a', b', c', r'⟩ := m
  unfold lkV ordL
  simp only []
  go_enter Tryz.func159, Tryz.ntmps159
  go_wp2
  obtain ⟨w1, hw1⟩ : ∃ w1, w1 = (w.alloc (.cells #[.int .i64 a, .int .i64 b, .int .i64 c, .int .i64 r] 84)).alloc (.cells #[.int .i64 a', .int .i64 b', .int .i64 c', .int .i64 r'] 84) := ⟨_, rfl⟩
  have B1 : Below w.heap.size w w1 := by rw [hw1]; exact below_two _ _
  have p0 : w1.heap[w.heap.size]? = some (.cells #[.int .i64 a, .int .i64 b, .int .i64 c, .int .i64 r] 84) := by rw [hw1, Below.heap_alloc _ _ _ (by simp), heap_alloc_new]
  have q0 : w1.heap[w.heap.size + 1]? = some (.cells #[.int .i64 a', .int .i64 b', .int .i64 c', .int .i64 r'] 84) := by
    rw [hw1]
    have := heap_alloc_new (w.alloc (.cells #[.int .i64 a, .int .i64 b, .int .i64 c, .int .i64 r] 84)) (.cells #[.int .i64 a', .int .i64 b', .int .i64 c', .int .i64 r'] 84)
    simpa using this
  rw [← hw1]
  clear hw1
  have s0 := cells_at p0 0
  have s1 := cells_at p0 1
  have s3 := cells_at p0 3
  have t0 := cells_at q0 0
  have t1 := cells_at q0 1
  have t3 := cells_at q0 3
  have hz0 := lt_of_heap p0
  have hz1 := lt_of_heap q0
  simp at s0 s1 s3 t0 t1 t3
  clear p0 q0
  have hz2 := B1.size
  go_region_held3 (fun W => W.cell? ⟨w.heap.size, 0, none⟩ = some (.int .i64 a) ∧ W.cell? ⟨w.heap.size, 1, none⟩ = some (.int .i64 b) ∧ W.cell? ⟨w.heap.size, 3, none⟩ = some (.int .i64 r) ∧ W.cell? ⟨w.heap.size + 1, 0, none⟩ = some (.int .i64 a') ∧ W.cell? ⟨w.heap.size + 1, 1, none⟩ = some (.int .i64 b') ∧ W.cell? ⟨w.heap.size + 1, 3, none⟩ = some (.int .i64 r')) (first | go_keep | assumption) (first | (go_at_call 163; refine (compare_any _ _ _).mono ?_; rintro e w' ⟨rfl, rfl⟩) | (go_at_call 162; refine (or_three _ (cmpN a a') (cmpN b b') (cmpN r r') _ ?_ ?_ ?_).mono ?_; (exact new_cell _ _ _ _ _ rfl); (exact new_cell _ _ _ _ _ rfl); (exact new_cell _ _ _ _ _ rfl); rintro e w' ⟨rfl, rfl⟩))
  go_wp2
  go_ret
  exact ⟨rfl, B1.drew.alloc B1.size _⟩
set_option maxRecDepth 100000 in
set_option maxHeartbeats 4000000 in
theorem ordT_any (l m : Th) (w : World) : Calls Tryz.prog 161 #[thV l, thV m] w fun e w' => e = .returned (.int .i64 (ordT l m)) ∧ Below w.heap.size w w' := by
  obtain ⟨o, k, c, f⟩ := l
  obtain ⟨o', k', c', f'⟩ := m
  unfold thV ordT
  simp only []
  go_enter Tryz.func161, Tryz.ntmps161
  go_wp2
  obtain ⟨w1, hw1⟩ : ∃ w1, w1 = (w.alloc (.cells #[.int .i64 o, .int .i64 k, .int .i64 c, .bool f] 123)).alloc (.cells #[.int .i64 o', .int .i64 k', .int .i64 c', .bool f'] 123) := ⟨_, rfl⟩
  have B1 : Below w.heap.size w w1 := by rw [hw1]; exact below_two _ _
  have p0 : w1.heap[w.heap.size]? = some (.cells #[.int .i64 o, .int .i64 k, .int .i64 c, .bool f] 123) := by rw [hw1, Below.heap_alloc _ _ _ (by simp), heap_alloc_new]
  have q0 : w1.heap[w.heap.size + 1]? = some (.cells #[.int .i64 o', .int .i64 k', .int .i64 c', .bool f'] 123) := by
    rw [hw1]
    have := heap_alloc_new (w.alloc (.cells #[.int .i64 o, .int .i64 k, .int .i64 c, .bool f] 123)) (.cells #[.int .i64 o', .int .i64 k', .int .i64 c', .bool f'] 123)
    simpa using this
  rw [← hw1]
  clear hw1
  have s0 := cells_at p0 0
  have s1 := cells_at p0 1
  have t0 := cells_at q0 0
  have t1 := cells_at q0 1
  have hz0 := lt_of_heap p0
  have hz1 := lt_of_heap q0
  simp at s0 s1 t0 t1
  clear p0 q0
  have hz2 := B1.size
  go_region_held3 (fun W => W.cell? ⟨w.heap.size, 0, none⟩ = some (.int .i64 o) ∧ W.cell? ⟨w.heap.size, 1, none⟩ = some (.int .i64 k) ∧ W.cell? ⟨w.heap.size + 1, 0, none⟩ = some (.int .i64 o') ∧ W.cell? ⟨w.heap.size + 1, 1, none⟩ = some (.int .i64 k')) (first | go_keep | assumption) (first | (go_at_call 163; refine (compare_any _ _ _).mono ?_; rintro e w' ⟨rfl, rfl⟩) | (go_at_call 162; refine (or_two _ (cmpN k k') (cmpN o o') _ ?_ ?_).mono ?_; (exact new_cell _ _ _ _ _ rfl); (exact new_cell _ _ _ _ _ rfl); rintro e w' ⟨rfl, rfl⟩))
  go_wp2
  go_ret
  exact ⟨rfl, B1.drew.alloc B1.size _⟩
end Go.Proofs.YtimbeeinognjbaaGreatDoor
namespace Go.Proofs.YtimbeeinognjbaaGreatDoor
open Go.RowKit

def linkOkB (n : Int) (l : Lk) : Bool := inB n 1 6 && inB l.a 1 n && inB l.b 1 n && decide (l.a < l.b) && inB l.c 1 1000 && inB l.r 0 2

def aheadB (a b : Lk) : Bool := decide (a.a < b.a) || (a.a == b.a && (decide (a.b < b.b) || (a.b == b.b && decide (a.r < b.r))))

def thingB (a b : Th) : Bool := decide (a.k < b.k) || (a.k == b.k && decide (a.o < b.o))

set_option maxRecDepth 100000 in
set_option maxHeartbeats 2000000 in
theorem slinkOk_any (n : Int) (l : Lk) (w : World) : Calls Tryz.prog 77 #[.int .i64 n, lkV l] w fun e w' => e = .returned (.bool (linkOkB n l)) ∧ Below w.heap.size w w' := by
  obtain ⟨a, b, c, r⟩ := l
  unfold lkV linkOkB
  simp only []
  generalize hq1 : inB n 1 6 = q1
  generalize hq2 : inB a 1 n = q2
  generalize hq3 : inB b 1 n = q3
  generalize hq4 : inB c 1 1000 = q4
  generalize hq5 : inB r 0 2 = q5
  have h1 := in_any n 1 6
  have h2 := in_any a 1 n
  have h3 := in_any b 1 n
  have h4 := in_any c 1 1000
  have h5 := in_any r 0 2
  rw [hq1] at h1
  rw [hq2] at h2
  rw [hq3] at h3
  rw [hq4] at h4
  rw [hq5] at h5
  have H1 := hide h1
  have H2 := hide h2
  have H3 := hide h3
  have H4 := hide h4
  have H5 := hide h5
  clear h1 h2 h3 h4 h5 hq1 hq2 hq3 hq4 hq5
  cases q1
  · go_enter Tryz.func77, Tryz.ntmps77
    go_wp2_with fail
    refine (H1.out _).mono ?_
    rintro e w1 ⟨rfl, rfl⟩
    go_wp2
    go_ret
    exact ⟨by simp, (Below.refl _ _).alloc (Nat.le_refl _) _⟩
  cases q2
  · go_enter Tryz.func77, Tryz.ntmps77
    go_wp2_with fail
    refine (H1.out _).mono ?_
    rintro e w1 ⟨rfl, rfl⟩
    go_wp2_with fail
    refine (H2.out _).mono ?_
    rintro e w1 ⟨rfl, rfl⟩
    go_wp2
    go_ret
    exact ⟨by simp, (Below.refl _ _).alloc (Nat.le_refl _) _⟩
  cases q3
  · go_enter Tryz.func77, Tryz.ntmps77
    go_wp2_with fail
    refine (H1.out _).mono ?_
    rintro e w1 ⟨rfl, rfl⟩
    go_wp2_with fail
    refine (H2.out _).mono ?_
    rintro e w1 ⟨rfl, rfl⟩
    go_wp2_with fail
    refine (H3.out _).mono ?_
    rintro e w1 ⟨rfl, rfl⟩
    go_wp2
    go_ret
    exact ⟨by simp, (Below.refl _ _).alloc (Nat.le_refl _) _⟩
  by_cases hab : a < b
  · cases q4
    · go_enter Tryz.func77, Tryz.ntmps77
      go_wp2_with fail
      refine (H1.out _).mono ?_
      rintro e w1 ⟨rfl, rfl⟩
      go_wp2_with fail
      refine (H2.out _).mono ?_
      rintro e w1 ⟨rfl, rfl⟩
      go_wp2_with fail
      refine (H3.out _).mono ?_
      rintro e w1 ⟨rfl, rfl⟩
      go_wp2_with fail
      refine (H4.out _).mono ?_
      rintro e w1 ⟨rfl, rfl⟩
      go_wp2
      go_ret
      exact ⟨by simp, (Below.refl _ _).alloc (Nat.le_refl _) _⟩
    · go_enter Tryz.func77, Tryz.ntmps77
      go_wp2_with fail
      refine (H1.out _).mono ?_
      rintro e w1 ⟨rfl, rfl⟩
      go_wp2_with fail
      refine (H2.out _).mono ?_
      rintro e w1 ⟨rfl, rfl⟩
      go_wp2_with fail
      refine (H3.out _).mono ?_
      rintro e w1 ⟨rfl, rfl⟩
      go_wp2_with fail
      refine (H4.out _).mono ?_
      rintro e w1 ⟨rfl, rfl⟩
      go_wp2_with fail
      refine (H5.out _).mono ?_
      rintro e w1 ⟨rfl, rfl⟩
      go_wp2
      go_ret
      exact ⟨ret_bool (by rw [decide_eq_true hab]; simp), (Below.refl _ _).alloc (Nat.le_refl _) _⟩
  · go_enter Tryz.func77, Tryz.ntmps77
    go_wp2_with fail
    refine (H1.out _).mono ?_
    rintro e w1 ⟨rfl, rfl⟩
    go_wp2_with fail
    refine (H2.out _).mono ?_
    rintro e w1 ⟨rfl, rfl⟩
    go_wp2_with fail
    refine (H3.out _).mono ?_
    rintro e w1 ⟨rfl, rfl⟩
    go_wp2
    go_ret
    exact ⟨ret_bool (by rw [decide_eq_false (show ¬ a < b by omega)]; simp), (Below.refl _ _).alloc (Nat.le_refl _) _⟩

set_option maxRecDepth 100000 in
set_option maxHeartbeats 2000000 in
theorem sahead_any (l m : Lk) (w : World) : Calls Tryz.prog 78 #[lkV l, lkV m] w fun e w' => e = .returned (.bool (aheadB l m)) ∧ Below w.heap.size w w' := by
  obtain ⟨a, b, c, r⟩ := l
  obtain ⟨a', b', c', r'⟩ := m
  unfold lkV
  go_enter Tryz.func78, Tryz.ntmps78
  go_wp2
  all_goals go_ret
  all_goals refine ⟨ret_bool ?_, below_two _ _⟩
  all_goals (simp only [aheadB]; grind)

set_option maxRecDepth 100000 in
set_option maxHeartbeats 2000000 in
theorem sthing_any (l m : Th) (w : World) : Calls Tryz.prog 79 #[thV l, thV m] w fun e w' => e = .returned (.bool (thingB l m)) ∧ Below w.heap.size w w' := by
  obtain ⟨a, b, c, r⟩ := l
  obtain ⟨a', b', c', r'⟩ := m
  unfold thV
  go_enter Tryz.func79, Tryz.ntmps79
  go_wp2
  all_goals go_ret
  all_goals refine ⟨ret_bool ?_, below_two _ _⟩
  all_goals (simp only [thingB]; grind)
end Go.Proofs.YtimbeeinognjbaaGreatDoor
namespace Go.Proofs.YtimbeeinognjbaaGreatDoor
open Go.RowKit

set_option maxRecDepth 100000 in
set_option maxHeartbeats 2000000 in
theorem ilinkOk_any (n : Int) (l : Lk) (w : World) : Calls Tryz.prog 157 #[.int .i64 n, lkV l] w fun e w' => e = .returned (.bool (linkOkB n l)) ∧ Below w.heap.size w w' := by
  obtain ⟨a, b, c, r⟩ := l
  unfold lkV linkOkB
  simp only []
  generalize hq1 : inB n 1 6 = q1
  generalize hq2 : inB a 1 n = q2
  generalize hq3 : inB b 1 n = q3
  generalize hq4 : inB c 1 1000 = q4
  generalize hq5 : inB r 0 2 = q5
  have h1 := isIn_any n 1 6
  have h2 := isIn_any a 1 n
  have h3 := isIn_any b 1 n
  have h4 := isIn_any c 1 1000
  have h5 := isIn_any r 0 2
  rw [hq1] at h1
  rw [hq2] at h2
  rw [hq3] at h3
  rw [hq4] at h4
  rw [hq5] at h5
  have H1 := hide h1
  have H2 := hide h2
  have H3 := hide h3
  have H4 := hide h4
  have H5 := hide h5
  clear h1 h2 h3 h4 h5 hq1 hq2 hq3 hq4 hq5
  cases q1
  · go_enter Tryz.func157, Tryz.ntmps157
    go_wp2_with fail
    refine (H1.out _).mono ?_
    rintro e w1 ⟨rfl, rfl⟩
    go_wp2
    go_ret
    exact ⟨by simp, (Below.refl _ _).alloc (Nat.le_refl _) _⟩
  cases q2
  · go_enter Tryz.func157, Tryz.ntmps157
    go_wp2_with fail
    refine (H1.out _).mono ?_
    rintro e w1 ⟨rfl, rfl⟩
    go_wp2_with fail
    refine (H2.out _).mono ?_
    rintro e w1 ⟨rfl, rfl⟩
    go_wp2
    go_ret
    exact ⟨by simp, (Below.refl _ _).alloc (Nat.le_refl _) _⟩
  cases q3
  · go_enter Tryz.func157, Tryz.ntmps157
    go_wp2_with fail
    refine (H1.out _).mono ?_
    rintro e w1 ⟨rfl, rfl⟩
    go_wp2_with fail
    refine (H2.out _).mono ?_
    rintro e w1 ⟨rfl, rfl⟩
    go_wp2_with fail
    refine (H3.out _).mono ?_
    rintro e w1 ⟨rfl, rfl⟩
    go_wp2
    go_ret
    exact ⟨by simp, (Below.refl _ _).alloc (Nat.le_refl _) _⟩
  by_cases hab : a < b
  · cases q4
    · go_enter Tryz.func157, Tryz.ntmps157
      go_wp2_with fail
      refine (H1.out _).mono ?_
      rintro e w1 ⟨rfl, rfl⟩
      go_wp2_with fail
      refine (H2.out _).mono ?_
      rintro e w1 ⟨rfl, rfl⟩
      go_wp2_with fail
      refine (H3.out _).mono ?_
      rintro e w1 ⟨rfl, rfl⟩
      go_wp2_with fail
      refine (H4.out _).mono ?_
      rintro e w1 ⟨rfl, rfl⟩
      go_wp2
      go_ret
      exact ⟨by simp, (Below.refl _ _).alloc (Nat.le_refl _) _⟩
    · go_enter Tryz.func157, Tryz.ntmps157
      go_wp2_with fail
      refine (H1.out _).mono ?_
      rintro e w1 ⟨rfl, rfl⟩
      go_wp2_with fail
      refine (H2.out _).mono ?_
      rintro e w1 ⟨rfl, rfl⟩
      go_wp2_with fail
      refine (H3.out _).mono ?_
      rintro e w1 ⟨rfl, rfl⟩
      go_wp2_with fail
      refine (H4.out _).mono ?_
      rintro e w1 ⟨rfl, rfl⟩
      go_wp2_with fail
      refine (H5.out _).mono ?_
      rintro e w1 ⟨rfl, rfl⟩
      go_wp2
      go_ret
      exact ⟨ret_bool (by rw [decide_eq_true hab]; simp), (Below.refl _ _).alloc (Nat.le_refl _) _⟩
  · go_enter Tryz.func157, Tryz.ntmps157
    go_wp2_with fail
    refine (H1.out _).mono ?_
    rintro e w1 ⟨rfl, rfl⟩
    go_wp2_with fail
    refine (H2.out _).mono ?_
    rintro e w1 ⟨rfl, rfl⟩
    go_wp2_with fail
    refine (H3.out _).mono ?_
    rintro e w1 ⟨rfl, rfl⟩
    go_wp2
    go_ret
    exact ⟨ret_bool (by rw [decide_eq_false (show ¬ a < b by omega)]; simp), (Below.refl _ _).alloc (Nat.le_refl _) _⟩


end Go.Proofs.YtimbeeinognjbaaGreatDoor
namespace Go.Proofs.YtimbeeinognjbaaGreatDoor
open Go.RowKit

set_option maxRecDepth 100000 in
set_option maxHeartbeats 4000000 in
theorem ascL_any (v : Value) (ls : List Lk) (w : World) (hls : ls.length ≤ 1048576) (hv : LinksAt w v ls w.heap.size) :
    Calls Tryz.prog 158 #[v, .func (.func 159) #[] #[]] w fun e w' => e = .returned (.bool (ascB ordL ls)) ∧ Below w.heap.size w w' := by
  obtain ⟨a, cap, rfl⟩ := hv.shape
  have HV := hide hv
  clear hv
  go_enter Tryz.func158, Tryz.ntmps158
  go_wp2
  go_loopw [5] (fun i wr => ∃ k : Nat, 1 ≤ k ∧ (k ≤ ls.length ∨ k = 1) ∧ i = .int .i64 k ∧ (∀ j, j < k → ascAt ordL ls j = true) ∧ Below w.heap.size w wr) (fun i _ => ls.length + 1 - (intOf i).toNat)
  case atStart => exact ⟨1, by omega, by omega, rfl, fun j hj => by obtain rfl : j = 0 := by omega
                                                                    rfl, Below.refl _ _⟩
  case round =>
    obtain ⟨k, hk1, hk, rfl, hno, hb⟩ := hrel
    have HNO := hide hno
    clear hno
    by_cases hlt : k < ls.length
    · obtain ⟨l, hl⟩ : ∃ l, ls[k]? = some l := ⟨ls[k], List.getElem?_eq_getElem hlt⟩
      obtain ⟨j, hj⟩ : ∃ j, k = j + 1 := ⟨k - 1, by omega⟩
      obtain ⟨p, hp⟩ : ∃ p, ls[j]? = some p := ⟨ls[j], List.getElem?_eq_getElem (by omega)⟩
      obtain ⟨b, off, cap', hve, hbb, c0, c1, c2, c3⟩ := HV.out.cells k l hl
      cases hve
      obtain ⟨b', off', cap2, hve2, hbb2, d0, d1, d2, d3⟩ := HV.out.cells j p hp
      cases hve2
      rw [← hb.cell (p := ⟨b, off + k * 4, none⟩) hbb] at c0
      rw [← hb.cell (p := ⟨b, off + k * 4 + 1, none⟩) hbb] at c1
      rw [← hb.cell (p := ⟨b, off + k * 4 + 2, none⟩) hbb] at c2
      rw [← hb.cell (p := ⟨b, off + k * 4 + 3, none⟩) hbb] at c3
      rw [← hb.cell (p := ⟨b, off + j * 4, none⟩) hbb] at d0
      rw [← hb.cell (p := ⟨b, off + j * 4 + 1, none⟩) hbb] at d1
      rw [← hb.cell (p := ⟨b, off + j * 4 + 2, none⟩) hbb] at d2
      rw [← hb.cell (p := ⟨b, off + j * 4 + 3, none⟩) hbb] at d3
      have hat : ascAt ordL ls k = decide (ordL p l < 0) := by rw [hj]; exact ascAt_eq hp (by rw [← hj]; exact hl)
      have hzr := hb.size
      have hbr : b < wr.heap.size := by omega
      have hki : (0 : Int) ≤ (k : Int) := by omega
      have hkj : (k : Int) < (ls.length : Int) := by omega
      have hj1 : (k : Int) - 1 = (j : Int) := by omega
      have hj2 : (0 : Int) ≤ (j : Int) := by omega
      have hj3 : (j : Int) < (ls.length : Int) := by omega
      have hj5 : IntKind.i64.wrap (j : Int) = (j : Int) := wrap_fit _ (by omega) (by omega)
      have HORD := hide (ordL_any p l)
      have HAT := hide hat
      have HJ := hide hj
      clear hl hp hat hj
      obtain ⟨x, hx⟩ : ∃ x, x = ordL p l := ⟨_, rfl⟩
      rw [← hx] at HORD HAT
      clear hx
      unfold lkV at HORD
      by_cases hx0 : x < 0
      · have hx1 : ¬ (0 : Int) ≤ x := by omega
        rw [decide_eq_true hx0] at HAT
        go_wp2
        go_region_held3 (fun W => W.cell? ⟨b, off + k * 4, none⟩ = some (.int .i64 l.a) ∧ W.cell? ⟨b, off + k * 4 + 1, none⟩ = some (.int .i64 l.b) ∧ W.cell? ⟨b, off + k * 4 + 2, none⟩ = some (.int .i64 l.c) ∧ W.cell? ⟨b, off + k * 4 + 3, none⟩ = some (.int .i64 l.r) ∧ W.cell? ⟨b, off + j * 4, none⟩ = some (.int .i64 p.a) ∧ W.cell? ⟨b, off + j * 4 + 1, none⟩ = some (.int .i64 p.b) ∧ W.cell? ⟨b, off + j * 4 + 2, none⟩ = some (.int .i64 p.c) ∧ W.cell? ⟨b, off + j * 4 + 3, none⟩ = some (.int .i64 p.r)) (first | go_keep | (refine ⟨?_, ?_, ?_, ?_, ?_, ?_, ?_, ?_⟩ <;> (rw [hbc.cell (by assumption)]; assumption))) (first | (go_at_call 159; refine (HORD.out _).mono ?_; rintro e w2 ⟨rfl, hbc⟩))
        go_wp2
        exact ⟨⟨k + 1, by omega, by omega, by go_num, next_true HNO.out HAT.out, hb.drew.trans (hbc.mono hb.size)⟩, by simp [intOf]; omega⟩
      · have hx1 : (0 : Int) ≤ x := by omega
        rw [decide_eq_false hx0] at HAT
        have hf : ascB ordL ls = false := all_false hlt HAT.out
        have HF := hide hf
        clear hf
        go_wp2
        go_region_held3 (fun W => W.cell? ⟨b, off + k * 4, none⟩ = some (.int .i64 l.a) ∧ W.cell? ⟨b, off + k * 4 + 1, none⟩ = some (.int .i64 l.b) ∧ W.cell? ⟨b, off + k * 4 + 2, none⟩ = some (.int .i64 l.c) ∧ W.cell? ⟨b, off + k * 4 + 3, none⟩ = some (.int .i64 l.r) ∧ W.cell? ⟨b, off + j * 4, none⟩ = some (.int .i64 p.a) ∧ W.cell? ⟨b, off + j * 4 + 1, none⟩ = some (.int .i64 p.b) ∧ W.cell? ⟨b, off + j * 4 + 2, none⟩ = some (.int .i64 p.c) ∧ W.cell? ⟨b, off + j * 4 + 3, none⟩ = some (.int .i64 p.r)) (first | go_keep | (refine ⟨?_, ?_, ?_, ?_, ?_, ?_, ?_, ?_⟩ <;> (rw [hbc.cell (by assumption)]; assumption))) (first | (go_at_call 159; refine (HORD.out _).mono ?_; rintro e w2 ⟨rfl, hbc⟩))
        go_wp2
        go_ret
        exact ⟨ret_bool HF.out, hb.drew.trans (hbc.mono hb.size)⟩
    · have hall : ascB ordL ls = true := all_true fun i hi => HNO.out i (by omega)
      have HA := hide hall
      clear hall
      go_wp2
      go_ret
      exact ⟨ret_bool HA.out, hb⟩
set_option maxRecDepth 100000 in
set_option maxHeartbeats 4000000 in
theorem ascT_any (v : Value) (ls : List Th) (w : World) (hls : ls.length ≤ 1048576) (hv : ThingsAt w v ls w.heap.size) :
    Calls Tryz.prog 160 #[v, .func (.func 161) #[] #[]] w fun e w' => e = .returned (.bool (ascB ordT ls)) ∧ Below w.heap.size w w' := by
  obtain ⟨a, cap, rfl⟩ := hv.shape
  have HV := hide hv
  clear hv
  go_enter Tryz.func160, Tryz.ntmps160
  go_wp2
  go_loopw [5] (fun i wr => ∃ k : Nat, 1 ≤ k ∧ (k ≤ ls.length ∨ k = 1) ∧ i = .int .i64 k ∧ (∀ j, j < k → ascAt ordT ls j = true) ∧ Below w.heap.size w wr) (fun i _ => ls.length + 1 - (intOf i).toNat)
  case atStart => exact ⟨1, by omega, by omega, rfl, fun j hj => by obtain rfl : j = 0 := by omega
                                                                    rfl, Below.refl _ _⟩
  case round =>
    obtain ⟨k, hk1, hk, rfl, hno, hb⟩ := hrel
    have HNO := hide hno
    clear hno
    by_cases hlt : k < ls.length
    · obtain ⟨l, hl⟩ : ∃ l, ls[k]? = some l := ⟨ls[k], List.getElem?_eq_getElem hlt⟩
      obtain ⟨j, hj⟩ : ∃ j, k = j + 1 := ⟨k - 1, by omega⟩
      obtain ⟨p, hp⟩ : ∃ p, ls[j]? = some p := ⟨ls[j], List.getElem?_eq_getElem (by omega)⟩
      obtain ⟨b, off, cap', hve, hbb, c0, c1, c2, c3⟩ := HV.out.cells k l hl
      cases hve
      obtain ⟨b', off', cap2, hve2, hbb2, d0, d1, d2, d3⟩ := HV.out.cells j p hp
      cases hve2
      rw [← hb.cell (p := ⟨b, off + k * 4, none⟩) hbb] at c0
      rw [← hb.cell (p := ⟨b, off + k * 4 + 1, none⟩) hbb] at c1
      rw [← hb.cell (p := ⟨b, off + k * 4 + 2, none⟩) hbb] at c2
      rw [← hb.cell (p := ⟨b, off + k * 4 + 3, none⟩) hbb] at c3
      rw [← hb.cell (p := ⟨b, off + j * 4, none⟩) hbb] at d0
      rw [← hb.cell (p := ⟨b, off + j * 4 + 1, none⟩) hbb] at d1
      rw [← hb.cell (p := ⟨b, off + j * 4 + 2, none⟩) hbb] at d2
      rw [← hb.cell (p := ⟨b, off + j * 4 + 3, none⟩) hbb] at d3
      have hat : ascAt ordT ls k = decide (ordT p l < 0) := by rw [hj]; exact ascAt_eq hp (by rw [← hj]; exact hl)
      have hzr := hb.size
      have hbr : b < wr.heap.size := by omega
      have hki : (0 : Int) ≤ (k : Int) := by omega
      have hkj : (k : Int) < (ls.length : Int) := by omega
      have hj1 : (k : Int) - 1 = (j : Int) := by omega
      have hj2 : (0 : Int) ≤ (j : Int) := by omega
      have hj3 : (j : Int) < (ls.length : Int) := by omega
      have hj5 : IntKind.i64.wrap (j : Int) = (j : Int) := wrap_fit _ (by omega) (by omega)
      have HORD := hide (ordT_any p l)
      have HAT := hide hat
      have HJ := hide hj
      clear hl hp hat hj
      obtain ⟨x, hx⟩ : ∃ x, x = ordT p l := ⟨_, rfl⟩
      rw [← hx] at HORD HAT
      clear hx
      unfold thV at HORD
      by_cases hx0 : x < 0
      · have hx1 : ¬ (0 : Int) ≤ x := by omega
        rw [decide_eq_true hx0] at HAT
        go_wp2
        go_region_held3 (fun W => W.cell? ⟨b, off + k * 4, none⟩ = some (.int .i64 l.o) ∧ W.cell? ⟨b, off + k * 4 + 1, none⟩ = some (.int .i64 l.k) ∧ W.cell? ⟨b, off + k * 4 + 2, none⟩ = some (.int .i64 l.c) ∧ W.cell? ⟨b, off + k * 4 + 3, none⟩ = some (.bool l.f) ∧ W.cell? ⟨b, off + j * 4, none⟩ = some (.int .i64 p.o) ∧ W.cell? ⟨b, off + j * 4 + 1, none⟩ = some (.int .i64 p.k) ∧ W.cell? ⟨b, off + j * 4 + 2, none⟩ = some (.int .i64 p.c) ∧ W.cell? ⟨b, off + j * 4 + 3, none⟩ = some (.bool p.f)) (first | go_keep | (refine ⟨?_, ?_, ?_, ?_, ?_, ?_, ?_, ?_⟩ <;> (rw [hbc.cell (by assumption)]; assumption))) (first | (go_at_call 161; refine (HORD.out _).mono ?_; rintro e w2 ⟨rfl, hbc⟩))
        go_wp2
        exact ⟨⟨k + 1, by omega, by omega, by go_num, next_true HNO.out HAT.out, hb.drew.trans (hbc.mono hb.size)⟩, by simp [intOf]; omega⟩
      · have hx1 : (0 : Int) ≤ x := by omega
        rw [decide_eq_false hx0] at HAT
        have hf : ascB ordT ls = false := all_false hlt HAT.out
        have HF := hide hf
        clear hf
        go_wp2
        go_region_held3 (fun W => W.cell? ⟨b, off + k * 4, none⟩ = some (.int .i64 l.o) ∧ W.cell? ⟨b, off + k * 4 + 1, none⟩ = some (.int .i64 l.k) ∧ W.cell? ⟨b, off + k * 4 + 2, none⟩ = some (.int .i64 l.c) ∧ W.cell? ⟨b, off + k * 4 + 3, none⟩ = some (.bool l.f) ∧ W.cell? ⟨b, off + j * 4, none⟩ = some (.int .i64 p.o) ∧ W.cell? ⟨b, off + j * 4 + 1, none⟩ = some (.int .i64 p.k) ∧ W.cell? ⟨b, off + j * 4 + 2, none⟩ = some (.int .i64 p.c) ∧ W.cell? ⟨b, off + j * 4 + 3, none⟩ = some (.bool p.f)) (first | go_keep | (refine ⟨?_, ?_, ?_, ?_, ?_, ?_, ?_, ?_⟩ <;> (rw [hbc.cell (by assumption)]; assumption))) (first | (go_at_call 161; refine (HORD.out _).mono ?_; rintro e w2 ⟨rfl, hbc⟩))
        go_wp2
        go_ret
        exact ⟨ret_bool HF.out, hb.drew.trans (hbc.mono hb.size)⟩
    · have hall : ascB ordT ls = true := all_true fun i hi => HNO.out i (by omega)
      have HA := hide hall
      clear hall
      go_wp2
      go_ret
      exact ⟨ret_bool HA.out, hb⟩
end Go.Proofs.YtimbeeinognjbaaGreatDoor
namespace Go.Proofs.YtimbeeinognjbaaGreatDoor
open Go.RowKit

def linksB (n : Int) (ls : List Lk) : Bool := decide (ls.length ≤ 12) && allOk (linkOkB n) ls && ascB ordL ls

set_option maxRecDepth 100000 in
set_option maxHeartbeats 4000000 in
theorem linksOk_any (n : Int) (v : Value) (ls : List Lk) (w : World) (hls : ls.length ≤ 1048576) (hv : LinksAt w v ls w.heap.size) :
    Calls Tryz.prog 126 #[.int .i64 n, v] w fun e w' => e = .returned (.bool (linksB n ls)) ∧ Below w.heap.size w w' := by
  obtain ⟨a, cap, rfl⟩ := hv.shape
  have HV := hide hv
  clear hv
  by_cases h12 : ls.length ≤ 12
  case neg =>
    have hno : linksB n ls = false := by unfold linksB; rw [decide_eq_false h12]; rfl
    rw [hno]
    have h12' : (12 : Int) < (ls.length : Int) := by omega
    clear hno
    go_enter Tryz.func126, Tryz.ntmps126
    go_wp2
    go_ret
    exact ⟨rfl, Below.refl _ _⟩
  have h12' : ¬ (12 : Int) < (ls.length : Int) := by omega
  have hB : linksB n ls = (allOk (linkOkB n) ls && ascB ordL ls) := by unfold linksB; rw [decide_eq_true h12]; rfl
  have HB := hide hB
  clear hB
  go_enter Tryz.func126, Tryz.ntmps126
  go_wp2
  go_loopw [12] (fun i wr => ∃ k : Nat, k ≤ ls.length ∧ i = .int .i64 k ∧ (∀ j, j < k → okAt (linkOkB n) ls j = true) ∧ Below w.heap.size w wr) (fun i _ => ls.length - (intOf i).toNat)
  case atStart => exact ⟨0, by omega, rfl, by omega, Below.refl _ _⟩
  case round =>
    obtain ⟨k, hk, rfl, hno, hb⟩ := hrel
    have HNO := hide hno
    clear hno
    by_cases hlt : k < ls.length
    · obtain ⟨l, hl⟩ : ∃ l, ls[k]? = some l := ⟨ls[k], List.getElem?_eq_getElem hlt⟩
      obtain ⟨b, off, cap', hve, hbb, c0, c1, c2, c3⟩ := HV.out.cells k l hl
      cases hve
      rw [← hb.cell (p := ⟨b, off + k * 4, none⟩) hbb] at c0
      rw [← hb.cell (p := ⟨b, off + k * 4 + 1, none⟩) hbb] at c1
      rw [← hb.cell (p := ⟨b, off + k * 4 + 2, none⟩) hbb] at c2
      rw [← hb.cell (p := ⟨b, off + k * 4 + 3, none⟩) hbb] at c3
      have HAT := hide (okAt_eq (ok := linkOkB n) hl)
      have HOK := hide (ilinkOk_any n l)
      clear hl
      obtain ⟨q, hq⟩ : ∃ q, q = linkOkB n l := ⟨_, rfl⟩
      rw [← hq] at HAT HOK
      unfold lkV at HOK
      clear hq
      have hzr := hb.size
      go_wp2_with fail
      refine (HOK.out _).mono ?_
      rintro e w2 ⟨rfl, hbc⟩
      have B2 : Below w.heap.size w w2 := (hb.alloc hb.size _).trans (hbc.mono (by simp; omega))
      cases q
      · have hf : linksB n ls = false := by rw [HB.out]; unfold allOk; rw [all_false hlt HAT.out]; rfl
        have HF := hide hf
        clear hf
        go_wp2
        go_ret
        exact ⟨ret_bool HF.out, B2⟩
      · go_wp2
        exact ⟨⟨k + 1, by omega, by go_num, next_true HNO.out HAT.out, B2⟩, by simp [intOf]; omega⟩
    · have hall : allOk (linkOkB n) ls = true := all_true fun i hi => HNO.out i (by omega)
      have hF : linksB n ls = ascB ordL ls := by rw [HB.out, hall]; rfl
      have HF := hide hF
      clear hF hall
      have HVR := hide (HV.out.then hb)
      go_wp2_with fail
      refine (ascL_any _ ls _ hls HVR.out).mono ?_
      rintro e w2 ⟨rfl, hbc⟩
      go_wp2
      go_ret
      exact ⟨ret_bool HF.out, hb.trans (hbc.mono hb.size)⟩
def thOkB (n : Int) (t : Th) : Bool := inB t.k 1 9 && inB t.o 1 n && inB t.c 1 1000

def thingsB (n : Int) (ls : List Th) : Bool := decide (ls.length ≤ 4) && allOk (thOkB n) ls && ascB ordT ls

set_option maxRecDepth 100000 in
set_option maxHeartbeats 4000000 in
theorem thingsOk_any (n : Int) (v : Value) (ls : List Th) (w : World) (hls : ls.length ≤ 1048576) (hv : ThingsAt w v ls w.heap.size) :
    Calls Tryz.prog 127 #[.int .i64 n, v] w fun e w' => e = .returned (.bool (thingsB n ls)) ∧ Below w.heap.size w w' := by
  obtain ⟨a, cap, rfl⟩ := hv.shape
  have HV := hide hv
  clear hv
  by_cases h12 : ls.length ≤ 4
  case neg =>
    have hno : thingsB n ls = false := by unfold thingsB; rw [decide_eq_false h12]; rfl
    rw [hno]
    have h12' : (4 : Int) < (ls.length : Int) := by omega
    clear hno
    go_enter Tryz.func127, Tryz.ntmps127
    go_wp2
    go_ret
    exact ⟨rfl, Below.refl _ _⟩
  have h12' : ¬ (4 : Int) < (ls.length : Int) := by omega
  have hB : thingsB n ls = (allOk (thOkB n) ls && ascB ordT ls) := by unfold thingsB; rw [decide_eq_true h12]; rfl
  have HB := hide hB
  clear hB
  go_enter Tryz.func127, Tryz.ntmps127
  go_wp2
  go_loopw [12] (fun i wr => ∃ k : Nat, k ≤ ls.length ∧ i = .int .i64 k ∧ (∀ j, j < k → okAt (thOkB n) ls j = true) ∧ Below w.heap.size w wr) (fun i _ => ls.length - (intOf i).toNat)
  case atStart => exact ⟨0, by omega, rfl, by omega, Below.refl _ _⟩
  case round =>
    obtain ⟨k, hk, rfl, hno, hb⟩ := hrel
    have HNO := hide hno
    clear hno
    by_cases hlt : k < ls.length
    · obtain ⟨l, hl⟩ : ∃ l, ls[k]? = some l := ⟨ls[k], List.getElem?_eq_getElem hlt⟩
      obtain ⟨b, off, cap', hve, hbb, c0, c1, c2, c3⟩ := HV.out.cells k l hl
      cases hve
      rw [← hb.cell (p := ⟨b, off + k * 4, none⟩) hbb] at c0
      rw [← hb.cell (p := ⟨b, off + k * 4 + 1, none⟩) hbb] at c1
      rw [← hb.cell (p := ⟨b, off + k * 4 + 2, none⟩) hbb] at c2
      rw [← hb.cell (p := ⟨b, off + k * 4 + 3, none⟩) hbb] at c3
      have HAT := hide (okAt_eq (ok := thOkB n) hl)
      obtain ⟨q1, hq1⟩ : ∃ q, q = inB l.k 1 9 := ⟨_, rfl⟩
      obtain ⟨q2, hq2⟩ : ∃ q, q = inB l.o 1 n := ⟨_, rfl⟩
      obtain ⟨q3, hq3⟩ : ∃ q, q = inB l.c 1 1000 := ⟨_, rfl⟩
      have hok : thOkB n l = (q1 && q2 && q3) := by unfold thOkB; rw [hq1, hq2, hq3]
      have H1 := hide (isIn_any l.k 1 9)
      have H2 := hide (isIn_any l.o 1 n)
      have H3 := hide (isIn_any l.c 1 1000)
      rw [← hq1] at H1
      rw [← hq2] at H2
      rw [← hq3] at H3
      rw [hok] at HAT
      clear hl hq1 hq2 hq3 hok
      have hzr := hb.size
      have B2 : Below w.heap.size w (wr.alloc (.cells #[.int .i64 l.o, .int .i64 l.k, .int .i64 l.c, .bool l.f] 123)) := hb.alloc hb.size _
      cases q1
      · have hf : thingsB n ls = false := by rw [HB.out]; unfold allOk; rw [all_false hlt HAT.out]; rfl
        have HF := hide hf
        clear hf
        go_wp2_with fail
        refine (H1.out _).mono ?_
        rintro e w2 ⟨rfl, rfl⟩
        go_wp2
        go_ret
        exact ⟨ret_bool HF.out, B2⟩
      cases q2
      · have hf : thingsB n ls = false := by rw [HB.out]; unfold allOk; rw [all_false hlt HAT.out]; rfl
        have HF := hide hf
        clear hf
        go_wp2_with fail
        refine (H1.out _).mono ?_
        rintro e w2 ⟨rfl, rfl⟩
        go_wp2_with fail
        refine (H2.out _).mono ?_
        rintro e w2 ⟨rfl, rfl⟩
        go_wp2
        go_ret
        exact ⟨ret_bool HF.out, B2⟩
      cases q3
      · have hf : thingsB n ls = false := by rw [HB.out]; unfold allOk; rw [all_false hlt HAT.out]; rfl
        have HF := hide hf
        clear hf
        go_wp2_with fail
        refine (H1.out _).mono ?_
        rintro e w2 ⟨rfl, rfl⟩
        go_wp2_with fail
        refine (H2.out _).mono ?_
        rintro e w2 ⟨rfl, rfl⟩
        go_wp2_with fail
        refine (H3.out _).mono ?_
        rintro e w2 ⟨rfl, rfl⟩
        go_wp2
        go_ret
        exact ⟨ret_bool HF.out, B2⟩
      · go_wp2_with fail
        refine (H1.out _).mono ?_
        rintro e w2 ⟨rfl, rfl⟩
        go_wp2_with fail
        refine (H2.out _).mono ?_
        rintro e w2 ⟨rfl, rfl⟩
        go_wp2_with fail
        refine (H3.out _).mono ?_
        rintro e w2 ⟨rfl, rfl⟩
        go_wp2
        exact ⟨⟨k + 1, by omega, by go_num, next_true HNO.out HAT.out, B2⟩, by simp [intOf]; omega⟩
    · have hall : allOk (thOkB n) ls = true := all_true fun i hi => HNO.out i (by omega)
      have hF : thingsB n ls = ascB ordT ls := by rw [HB.out, hall]; rfl
      have HF := hide hF
      clear hF hall
      have HVR := hide (HV.out.then hb)
      go_wp2_with fail
      refine (ascT_any _ ls _ hls HVR.out).mono ?_
      rintro e w2 ⟨rfl, hbc⟩
      go_wp2
      go_ret
      exact ⟨ret_bool HF.out, hb.trans (hbc.mono hb.size)⟩

def netOkI (x : NetD) : Bool := inB x.n 1 6 && linksB x.n x.ls && thingsB x.n x.ts

set_option maxRecDepth 100000 in
set_option maxHeartbeats 4000000 in
theorem inetOk_any (v : Value) (x : NetD) (w : World) (hl : x.ls.length ≤ 1048576) (ht : x.ts.length ≤ 1048576) (hv : NetAt w v x w.heap.size) :
    Calls Tryz.prog 89 #[v] w fun e w' => e = .returned (.bool (netOkI x)) ∧ Below w.heap.size w w' := by
  obtain ⟨n, ls, ts⟩ := x
  obtain ⟨v1, v2, rfl, h1, h2⟩ := hv
  simp only [] at h1 h2 hl ht ⊢
  obtain ⟨a1, c1, rfl⟩ := h1.shape
  obtain ⟨a2, c2, rfl⟩ := h2.shape
  obtain ⟨q1, hq1⟩ : ∃ q, q = inB n 1 6 := ⟨_, rfl⟩
  obtain ⟨q2, hq2⟩ : ∃ q, q = linksB n ls := ⟨_, rfl⟩
  obtain ⟨q3, hq3⟩ : ∃ q, q = thingsB n ts := ⟨_, rfl⟩
  have hok : netOkI ⟨n, ls, ts⟩ = (q1 && q2 && q3) := by unfold netOkI; rw [hq1, hq2, hq3]
  rw [hok]
  have HIN := hide (isIn_any n 1 6)
  rw [← hq1] at HIN
  have HL := hide (fun W (h : Below w.heap.size w W) => linksOk_any n _ ls W hl (h1.then h))
  have HT := hide (fun W (h : Below w.heap.size w W) => thingsOk_any n _ ts W ht (h2.then h))
  rw [← hq2] at HL
  rw [← hq3] at HT
  clear hq1 hq2 hq3 hok h1 h2
  have B0 : Below w.heap.size w (w.alloc (.cells #[.int .i64 n, .slice a1 ls.length c1, .slice a2 ts.length c2] 38)) := (Below.refl _ _).alloc (Nat.le_refl _) _
  have hnew := heap_alloc_new w (.cells #[.int .i64 n, .slice a1 ls.length c1, .slice a2 ts.length c2] 38)
  have NEW := hide hnew
  clear hnew
  cases q1
  · go_enter Tryz.func89, Tryz.ntmps89
    go_wp2_with fail
    refine (HIN.out _).mono ?_
    rintro e w1 ⟨rfl, rfl⟩
    go_wp2
    go_ret
    exact ⟨by simp, B0⟩
  cases q2
  · go_enter Tryz.func89, Tryz.ntmps89
    go_wp2_with fail
    refine (HIN.out _).mono ?_
    rintro e w1 ⟨rfl, rfl⟩
    go_wp2_with fail
    refine (HL.out _ B0).mono ?_
    rintro e w1 ⟨rfl, b1⟩
    go_wp2
    go_ret
    exact ⟨by simp, B0.trans (b1.mono B0.size)⟩
  · go_enter Tryz.func89, Tryz.ntmps89
    go_wp2_with fail
    refine (HIN.out _).mono ?_
    rintro e w1 ⟨rfl, rfl⟩
    go_wp2_with fail
    refine (HL.out _ B0).mono ?_
    rintro e w1 ⟨rfl, b1⟩
    have g1 : w1.heap[w.heap.size]? = some (.cells #[.int .i64 n, .slice a1 ls.length c1, .slice a2 ts.length c2] 38) := by rw [b1.block _ (by simp)]; exact NEW.out
    have B1 : Below w.heap.size w w1 := B0.trans (b1.mono B0.size)
    have s0 := cells_at g1 0
    have s2 := cells_at g1 2
    simp at s0 s2
    clear g1 b1 B0
    go_wp2_with fail
    refine (HT.out _ B1).mono ?_
    rintro e w2 ⟨rfl, b2⟩
    go_wp2
    go_ret
    exact ⟨by simp, B1.trans (b2.mono B1.size)⟩
end Go.Proofs.YtimbeeinognjbaaGreatDoor
namespace Go.Proofs.YtimbeeinognjbaaGreatDoor
open Go.RowKit

/-- two numbers each -/
def pairsOf : List Int → List (Int × Int)
  | a :: b :: l => (a, b) :: pairsOf l
  | _ => []

theorem pairs_len : ∀ l : List Int, (pairsOf l).length = l.length / 2
  | [] => rfl
  | [_] => by simp [pairsOf]
  | a :: b :: l => by
    simp only [pairsOf, List.length_cons, pairs_len l]
    omega

theorem pairs_at : ∀ (l : List Int) (i : Nat) (a b : Int), l[2 * i]? = some a → l[2 * i + 1]? = some b → (pairsOf l)[i]? = some (a, b)
  | [], _, _, _, h, _ => by simp at h
  | [_], 0, _, _, _, h => by simp at h
  | [_], i + 1, _, _, h, _ => by simp at h
  | x :: y :: l, 0, a, b, h1, h2 => by
    simp at h1 h2
    simp [pairsOf, h1, h2]
  | x :: y :: l, i + 1, a, b, h1, h2 => by
    have e1 : 2 * (i + 1) = 2 * i + 1 + 1 := by omega
    rw [e1] at h1 h2
    simp only [List.getElem?_cons_succ] at h1 h2
    simp only [pairsOf, List.getElem?_cons_succ]
    exact pairs_at l i a b h1 h2

theorem pairs_take (l : List Int) (i : Nat) (a b : Int) (h1 : l[2 * i]? = some a) (h2 : l[2 * i + 1]? = some b) : (pairsOf l).take (i + 1) = (pairsOf l).take i ++ [(a, b)] := by
  have h := pairs_at l i a b h1 h2
  obtain ⟨hi, e⟩ := List.getElem?_eq_some_iff.1 h
  rw [List.take_succ_eq_append_getElem hi, e]

/-- by node, then by area -/
def ordH (p q : Int × Int) : Int := orN [cmpN p.1 q.1, cmpN p.2 q.2]

theorem ordH_lt (p q : Int × Int) : ordH p q < 0 ↔ p.1 < q.1 ∨ (p.1 = q.1 ∧ p.2 < q.2) := by
  unfold ordH cmpN
  simp only [orN]
  rcases Int.lt_trichotomy p.1 q.1 with h | h | h
  · simp [h]
  · rcases Int.lt_trichotomy p.2 q.2 with h2 | h2 | h2
    · simp [h, h2]
    · simp [h, h2]
    · have h3 : ¬ p.2 < q.2 := by omega
      simp [h, h2, h3]
  · have h3 : ¬ p.1 < q.1 := by omega
    have h4 : ¬ p.1 = q.1 := by omega
    simp [h, h3, h4]

def hitP (ls : List Lk) (id : Int) (e : Int × Int) : Bool := !(costN ls id e.1 e.2 == 0)

/-- what impl's heardOk answers -/
def heardB (ls : List Lk) (id : Int) (h : List Int) : Bool := (pairsOf h).all (hitP ls id) && (decide (h.length % 2 = 0) && ascB ordH (pairsOf h))

theorem asc_len : ∀ (l : List Int) (a b : Int), l.Pairwise (· < ·) → (∀ x ∈ l, a ≤ x ∧ x ≤ b) → (l.length : Int) ≤ max 0 (b - a + 1)
  | [], _, _, _, _ => by simp; omega
  | x :: l, a, b, hp, hx => by
    rw [List.pairwise_cons] at hp
    have h1 := hx x (by simp)
    have h2 := asc_len l (x + 1) b hp.2 (fun y hy => ⟨by have := hp.1 y hy; omega, (hx y (by simp [hy])).2⟩)
    simp only [List.length_cons]
    omega

theorem chain_asc {l : List (Int × Int)} (h : ascB ordH l = true) : ∀ (d i : Nat) (p q : Int × Int), l[i]? = some p → l[i + d + 1]? = some q → p.1 < q.1 ∨ (p.1 = q.1 ∧ p.2 < q.2)
  | 0, i, p, q, hp, hq => by
    obtain ⟨hl, _⟩ := List.getElem?_eq_some_iff.1 hq
    have h1 := List.all_eq_true.1 h (i + 1) (List.mem_range.2 hl)
    rw [ascAt_eq hp hq] at h1
    exact (ordH_lt p q).1 (by simpa using h1)
  | d + 1, i, p, q, hp, hq => by
    obtain ⟨hl, _⟩ := List.getElem?_eq_some_iff.1 hq
    obtain ⟨m, hm⟩ : ∃ m, l[i + d + 1]? = some m := ⟨l[i + d + 1]'(by omega), List.getElem?_eq_getElem (by omega)⟩
    have h1 := chain_asc h d i p m hp hm
    have h2 := List.all_eq_true.1 h (i + d + 1 + 1) (List.mem_range.2 hl)
    rw [ascAt_eq hm hq] at h2
    have h3 := (ordH_lt m q).1 (by simpa using h2)
    omega

theorem cost_hits {ls : List Lk} {f t r : Int} (h : costN ls f t r ≠ 0) : ∃ l ∈ ls, lkHit f t r l = true := by
  unfold costN at h
  cases e : ls.find? (lkHit f t r) with
  | none => rw [e] at h; simp at h
  | some l => exact ⟨l, List.mem_of_find?_eq_some e, List.find?_some e⟩

theorem linksOf_ok {n : Int} {ls : List Lk} (h : linksB n ls = true) : ∀ l ∈ ls, linkOkB n l = true := by
  intro l hl
  unfold linksB at h
  simp only [Bool.and_eq_true] at h
  obtain ⟨i, hi, e⟩ := List.mem_iff_getElem.1 hl
  have h1 := List.all_eq_true.1 h.1.2 i (List.mem_range.2 hi)
  rw [okAt_eq (List.getElem?_eq_getElem hi), e] at h1
  exact h1

/-- a right node hears no more than 18 -/
theorem heard_short {x : NetD} {id : Int} {h : List Int} (hn : netOkI x = true) (hh : heardB x.ls id h = true) : h.length ≤ 60 := by
  unfold heardB at hh
  simp only [Bool.and_eq_true, decide_eq_true_eq] at hh
  obtain ⟨h1, h2, h3⟩ := hh
  have hn2 := hn
  simp only [netOkI, Bool.and_eq_true] at hn2
  have hnn : 1 ≤ x.n ∧ x.n ≤ 6 := by
    have := hn2.1.1
    simp only [inB, Bool.and_eq_true, decide_eq_true_eq] at this
    exact this
  have hlk := linksOf_ok hn2.1.2
  have hrange : ∀ e ∈ pairsOf h, 1 ≤ e.1 ∧ e.1 ≤ 6 ∧ 0 ≤ e.2 ∧ e.2 ≤ 2 := by
    intro e he
    have hc := List.all_eq_true.1 h1 e he
    unfold hitP at hc
    obtain ⟨l, hl, hit⟩ := cost_hits (by simpa using hc)
    have hok := hlk l hl
    simp only [linkOkB, inB, Bool.and_eq_true, decide_eq_true_eq] at hok
    simp only [lkHit, Bool.and_eq_true, Bool.or_eq_true, beq_iff_eq] at hit
    omega
  have hp : ((pairsOf h).map (fun e => 3 * e.1 + e.2)).Pairwise (· < ·) := by
    rw [List.pairwise_map, List.pairwise_iff_getElem]
    intro i j hi hj hij
    have hc := chain_asc h3 (j - i - 1) i _ _ (List.getElem?_eq_getElem hi) (by rw [show i + (j - i - 1) + 1 = j by omega]; exact List.getElem?_eq_getElem hj)
    have r1 := hrange _ (List.getElem_mem hi)
    have r2 := hrange _ (List.getElem_mem hj)
    omega
  have hl := asc_len _ 3 20 hp (fun y hy => by
    obtain ⟨e, he, rfl⟩ := List.mem_map.1 hy
    have := hrange e he
    omega)
  rw [List.length_map, pairs_len] at hl
  omega
end Go.Proofs.YtimbeeinognjbaaGreatDoor
namespace Go.Proofs.YtimbeeinognjbaaGreatDoor
open Go.RowKit

/-- the ears that a new node has, of the first k pairs of a node and an area -/
def freshTo (ls : List Lk) (id : Int) : Nat → List Th
  | 0 => []
  | k + 1 => freshTo ls id k ++ (if 0 < costN ls id ((k / 3 : Nat) + 1) ((k % 3 : Nat) : Int) then [⟨((k / 3 : Nat) : Int) + 1, ((k % 3 : Nat) : Int), 0, false⟩] else [])

theorem fresh_len (ls : List Lk) (id : Int) : ∀ k, (freshTo ls id k).length ≤ k
  | 0 => Nat.le_refl _
  | k + 1 => by
    have := fresh_len ls id k
    unfold freshTo
    split <;> simp <;> omega

theorem fresh_at {ls : List Lk} {id : Int} {v a : Nat} (ha : a < 3) : freshTo ls id (3 * v + a + 1) = freshTo ls id (3 * v + a) ++ (if 0 < costN ls id ((v : Int) + 1) (a : Int) then [⟨(v : Int) + 1, (a : Int), 0, false⟩] else []) := by
  have e1 : (3 * v + a) / 3 = v := by omega
  have e2 : (3 * v + a) % 3 = a := by omega
  show freshTo ls id (3 * v + a) ++ _ = _
  rw [e1, e2]

theorem fresh_hit {ls : List Lk} {id : Int} {v a : Nat} (ha : a < 3) (h : 0 < costN ls id ((v : Int) + 1) (a : Int)) : freshTo ls id (3 * v + a + 1) = freshTo ls id (3 * v + a) ++ [⟨(v : Int) + 1, (a : Int), 0, false⟩] := by rw [fresh_at ha, if_pos h]

theorem fresh_no {ls : List Lk} {id : Int} {v a : Nat} (ha : a < 3) (h : ¬ 0 < costN ls id ((v : Int) + 1) (a : Int)) : freshTo ls id (3 * v + a + 1) = freshTo ls id (3 * v + a) := by rw [fresh_at ha, if_neg h, List.append_nil]

theorem fresh_pre (ls : List Lk) (id : Int) (k : Nat) : ∀ d, ∃ l, freshTo ls id (k + d) = freshTo ls id k ++ l
  | 0 => ⟨[], by simp⟩
  | d + 1 => by
    obtain ⟨l, hl⟩ := fresh_pre ls id k d
    exact ⟨l ++ _, by rw [← Nat.add_assoc, freshTo, hl, List.append_assoc]⟩

def earOkB (e f : Th) : Bool := e.o == f.o && (e.k == f.k && (inB e.c 0 3 && (!e.f || decide (0 < e.c))))

def matchB : List Th → List Th → Bool
  | [], [] => true
  | e :: es, f :: fs => earOkB e f && matchB es fs
  | _, _ => false

theorem matchB_iff : ∀ (es fs : List Th), matchB es fs = true ↔ es.length = fs.length ∧ ∀ (i : Nat) (e f : Th), es[i]? = some e → fs[i]? = some f → earOkB e f = true
  | [], [] => by simp [matchB]
  | [], _ :: _ => by simp [matchB]
  | _ :: _, [] => by simp [matchB]
  | e :: es, f :: fs => by
    have ih := matchB_iff es fs
    simp only [matchB, Bool.and_eq_true, ih, List.length_cons, Nat.add_right_cancel_iff]
    constructor
    · rintro ⟨h1, h2, h3⟩
      refine ⟨h2, fun i e' f' he hf => ?_⟩
      cases i with
      | zero => simp at he hf; subst he hf; exact h1
      | succ i => simp at he hf; exact h3 i e' f' he hf
    · rintro ⟨h2, h3⟩
      exact ⟨h3 0 e f rfl rfl, h2, fun i e' f' he hf => h3 (i + 1) e' f' (by simpa using he) (by simpa using hf)⟩

theorem matchB_no {es fs : List Th} {i : Nat} {e f : Th} (he : es[i]? = some e) (hf : fs[i]? = some f) (h : earOkB e f = false) : matchB es fs = false := by
  cases hc : matchB es fs with
  | false => rfl
  | true =>
    have := ((matchB_iff es fs).1 hc).2 i e f he hf
    rw [h] at this
    exact absurd this (by decide)

theorem matchB_len {es fs : List Th} (h : es.length ≠ fs.length) : matchB es fs = false := by
  cases hc : matchB es fs with
  | false => rfl
  | true => exact absurd ((matchB_iff es fs).1 hc).1 h

theorem matchB_yes {es fs : List Th} (h : es.length = fs.length) (h2 : ∀ i, i < es.length → ∀ e f, es[i]? = some e → fs[i]? = some f → earOkB e f = true) : matchB es fs = true :=
  (matchB_iff es fs).2 ⟨h, fun i e f he hf => h2 i (by have := List.getElem?_eq_some_iff.1 he; exact this.1) e f he hf⟩

/-- what is heard, by the ears -/
def heardE (es : List Th) : List Int := es.flatMap (fun e => if e.f then [e.o, e.k] else [])

theorem heardE_yes {es : List Th} {k : Nat} {e : Th} (h : es[k]? = some e) (hf : e.f = true) : heardE (es.take (k + 1)) = heardE (es.take k) ++ [e.o, e.k] := by
  unfold heardE
  rw [List.take_add_one, h]
  simp [hf]

theorem heardE_no {es : List Th} {k : Nat} {e : Th} (h : es[k]? = some e) (hf : e.f = false) : heardE (es.take (k + 1)) = heardE (es.take k) := by
  unfold heardE
  rw [List.take_add_one, h]
  simp [hf]

theorem heardE_len (es : List Th) : (heardE es).length ≤ 2 * es.length := by
  unfold heardE
  induction es with
  | nil => simp
  | cons e es ih =>
    simp only [List.flatMap_cons, List.length_append, List.length_cons]
    split <;> simp only [List.length_cons, List.length_nil] <;> omega

theorem heardE_all (es : List Th) : heardE (es.take es.length) = heardE es := by rw [List.take_length]

theorem cost_nonneg {n : Int} {ls : List Lk} (h : ∀ l ∈ ls, linkOkB n l = true) (f t r : Int) : 0 ≤ costN ls f t r := by
  unfold costN
  cases hf : ls.find? (lkHit f t r) with
  | none => simp
  | some l =>
    have := h l (List.mem_of_find?_eq_some hf)
    unfold linkOkB inB at this
    simp only [Bool.and_eq_true, decide_eq_true_eq] at this
    simp
    omega
end Go.Proofs.YtimbeeinognjbaaGreatDoor
namespace Go.Proofs.YtimbeeinognjbaaGreatDoor
open Go.RowKit

end Go.Proofs.YtimbeeinognjbaaGreatDoor
namespace Go.Proofs.YtimbeeinognjbaaGreatDoor
open Go.RowKit

/-- 'append(out, y1, y2)' of two ints -/
theorem wpList_append_two {bytes : Nat} (hbb : bytes ≤ 100) {P : Program} (w : World) {ops : Array Oper} {rest : List Oper} {o : Oper} {a : Act} {Q : Exit → Act → World → Prop} (hgd : o.guard = none) (s x : Operand) (t : TypeId)
    (ho : o.op = .call { callee := .builtin .append, args := #[s, x], argTypes := #[t, t] }) (base : Nat) (e : TypeId) (ht : P.underlying t = some (.slice e))
    (hinfo : (P.info? e).map (fun i => (i.zero, i.size, i.bytes)) = some (some (.int .i64 0), 1, bytes))
    (v : Value) (l : List Int) (y1 y2 : Int) (hs : a.eval s = v) (hown : w.ownsRow base e 1 v l.length (flat intE l))
    (ad : Addr) (c : Nat) (hx : a.eval x = .slice (some ad) 2 c) (hnews : ∀ j u, ([.int .i64 y1, .int .i64 y2] : List Value)[j]? = some u → w.cell? (ad.add j) = some u)
    (hl : l.length + 2 ≤ 1000000000) (hbase : base ≤ w.heap.size)
    (h : ∀ v' w' l', Hid (l' = l ++ [y1, y2]) → w'.ownsRow base e 1 v' l'.length (flat intE l') → w.grownBy w' v.ownBlock → wpList P ops Q rest (a.put o.dst v') w') : wpList P ops Q (o :: rest) a w := by
  obtain ⟨i0, hi, hz0, hz1, hz2⟩ := info_parts hinfo
  refine wpList_append_own_at w hgd s x t ho base e i0 (.int .i64 0) 1 bytes ht hi hz0 hz1 hz2 rfl (by decide) v l.length (flat intE l) hs hown ad 2 c [.int .i64 y1, .int .i64 y2] hx rfl hnews (by simp [Value.oneCell']) (by unfold maxLen; omega) ?_ hbase ?_
  · have : (l.length + 2) * bytes ≤ 1000000000 * 100 := Nat.mul_le_mul hl hbb
    omega
  · intro v' w' h1 h2 _ _
    have e1 : flat intE l ++ [.int .i64 y1, .int .i64 y2] = flat intE (l ++ [y1, y2]) := by rw [flat_append]; simp [flat, intE]
    rw [e1] at h1
    exact h v' w' (l ++ [y1, y2]) rfl (by simpa using h1) h2
end Go.Proofs.YtimbeeinognjbaaGreatDoor
