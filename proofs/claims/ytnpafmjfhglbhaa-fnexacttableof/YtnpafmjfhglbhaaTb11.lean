/-
  Routes as values; laws.szRoute, toRoute, eqRoute.
  Lists of routes, each with a row of its own.
-/
import Derived.Test.YtnpafmjfhglbhaaTb3
import Derived.Handy
import Derived.Test.YtnpafmjfhglbhaaTb9
namespace Go.Proofs.Ytnpafmjfhglbhaa
open Go.RowKit

structure RtD where
  thing : Bool
  to : Int
  kind : Int
  cost : Int
  far : Int
  hops : List Int
  deriving DecidableEq

def rtC (x : RtD) (v : Value) : Array Value := #[.bool x.thing, .int .i64 x.to, .int .i64 x.kind, .int .i64 x.cost, .int .i64 x.far, v]

/-- the value v is the way x, whose row lies below B -/
def RtAt (W : World) (v : Value) (x : RtD) (B : Nat) : Prop := ∃ v1, v = .agg (rtC x v1) ∧ HopsAt W v1 x.hops B

theorem RtAt.then {W W' : World} {v : Value} {x : RtD} (h : RtAt W v x W.heap.size) (hb : Below W.heap.size W W') : RtAt W' v x W'.heap.size := by
  obtain ⟨v1, hv, h1⟩ := h
  exact ⟨v1, hv, h1.then hb⟩

theorem rtAt_of {W : World} {lo : Nat} {x : RtD} {u : Value} (h : W.ownsRow lo 3 1 u x.hops.length (flat intE x.hops)) : RtAt W (.agg (rtC x u)) x W.heap.size := ⟨u, rfl, hops_of h⟩

set_option maxRecDepth 100000 in
set_option maxHeartbeats 1000000 in
theorem szRoute_any (x : RtD) (a : Option Addr) (n c : Nat) (q : Int) (w : World) (hn : (n : Int) ≤ 9223372036854775807) (hq0 : 0 ≤ q) (hq : q ≤ 1048576) :
    Calls Try.prog 24 #[.agg (rtC x (.slice a n c)), .int .i64 q] w fun e w' => e = .returned (.int .i64 (szW q n)) ∧ Below w.heap.size w w' := by
  unfold szW rtC
  have HS := hide (szIntS_any a n c q)
  by_cases h : q - (n : Int) < 0
  · rw [if_pos h] at HS ⊢
    go_enter Try.func24, Try.ntmps24
    go_wp2_with fail
    refine (HS.out _ hn hq0 hq).mono ?_
    rintro e w1 ⟨rfl, rfl⟩
    go_wp2
    go_ret
    exact ⟨rfl, (Below.refl _ _).alloc (Nat.le_refl _) _⟩
  · rw [if_neg h] at HS ⊢
    go_enter Try.func24, Try.ntmps24
    go_wp2_with fail
    refine (HS.out _ hn hq0 hq).mono ?_
    rintro e w1 ⟨rfl, rfl⟩
    go_wp2
    go_ret
    exact ⟨rfl, (Below.refl _ _).alloc (Nat.le_refl _) _⟩

set_option maxRecDepth 100000 in
set_option maxHeartbeats 4000000 in
theorem toRoute_any (v : Value) (x : RtD) (w : World) (hl : x.hops.length ≤ 1048576) (hv : RtAt w v x w.heap.size) :
    Calls Try.prog 27 #[v] w fun e w' => ∃ v1, e = .returned (.agg (rtC x v1)) ∧ w'.ownsRow w.heap.size 3 1 v1 x.hops.length (flat intE x.hops) ∧ Below w.heap.size w w' := by
  obtain ⟨u1, rfl, h1⟩ := hv
  obtain ⟨a1, c1, rfl⟩ := h1.shape
  have H1 := hide h1
  clear h1
  unfold rtC
  go_enter Try.func27, Try.ntmps27
  go_wp2_with fail
  have hw0 := heap3_0 w (.cells #[.bool x.thing, .int .i64 x.to, .int .i64 x.kind, .int .i64 x.cost, .int .i64 x.far, .slice a1 x.hops.length c1] 48) (.cells #[.bool false, .int .i64 0, .int .i64 0, .int .i64 0, .int .i64 0, .slice none 0 0] 49) (.cells #[.bool x.thing, .int .i64 x.to, .int .i64 x.kind, .int .i64 x.cost, .int .i64 x.far, .slice none 0 0] 49)
  have hw1 := heap3_1 w (.cells #[.bool x.thing, .int .i64 x.to, .int .i64 x.kind, .int .i64 x.cost, .int .i64 x.far, .slice a1 x.hops.length c1] 48) (.cells #[.bool false, .int .i64 0, .int .i64 0, .int .i64 0, .int .i64 0, .slice none 0 0] 49) (.cells #[.bool x.thing, .int .i64 x.to, .int .i64 x.kind, .int .i64 x.cost, .int .i64 x.far, .slice none 0 0] 49)
  have hw2 := heap3_2 w (.cells #[.bool x.thing, .int .i64 x.to, .int .i64 x.kind, .int .i64 x.cost, .int .i64 x.far, .slice a1 x.hops.length c1] 48) (.cells #[.bool false, .int .i64 0, .int .i64 0, .int .i64 0, .int .i64 0, .slice none 0 0] 49) (.cells #[.bool x.thing, .int .i64 x.to, .int .i64 x.kind, .int .i64 x.cost, .int .i64 x.far, .slice none 0 0] 49)
  have bw := below_three (w := w) (.cells #[.bool x.thing, .int .i64 x.to, .int .i64 x.kind, .int .i64 x.cost, .int .i64 x.far, .slice a1 x.hops.length c1] 48) (.cells #[.bool false, .int .i64 0, .int .i64 0, .int .i64 0, .int .i64 0, .slice none 0 0] 49) (.cells #[.bool x.thing, .int .i64 x.to, .int .i64 x.kind, .int .i64 x.cost, .int .i64 x.far, .slice none 0 0] 49)
  generalize (((w.alloc (.cells #[.bool x.thing, .int .i64 x.to, .int .i64 x.kind, .int .i64 x.cost, .int .i64 x.far, .slice a1 x.hops.length c1] 48)).alloc (.cells #[.bool false, .int .i64 0, .int .i64 0, .int .i64 0, .int .i64 0, .slice none 0 0] 49)).alloc (.cells #[.bool x.thing, .int .i64 x.to, .int .i64 x.kind, .int .i64 x.cost, .int .i64 x.far, .slice none 0 0] 49)) = w1 at *
  refine (toIntS_any _ x.hops w1 hl (H1.out.then bw)).mono ?_
  rintro e w2 ⟨v1, rfl, ho1, b2⟩
  obtain ⟨p1, q1, rfl⟩ := owns_lenS ho1
  have l2 := lt_of_heap hw2
  rw [← b2.block _ (lt_of_heap hw1)] at hw1
  rw [← b2.block _ l2] at hw2
  have hb12 : w.heap.size ≤ w1.heap.size := bw.size
  have bw2 : Below w.heap.size w w2 := bw.trans (b2.mono hb12)
  have t0 := cells_at hw2 0
  have t1 := cells_at hw2 1
  have t2 := cells_at hw2 2
  have t3 := cells_at hw2 3
  have t4 := cells_at hw2 4
  have t5 := cells_at hw2 5
  have r0 := cells_at hw1 0
  have r1 := cells_at hw1 1
  have r2 := cells_at hw1 2
  have r3 := cells_at hw1 3
  have r4 := cells_at hw1 4
  have r5 := cells_at hw1 5
  simp at t0 t1 t2 t3 t4 t5 r0 r1 r2 r3 r4 r5
  have f2 := frozen_at hw2
  have f1 := frozen_at hw1
  have O1 := hide ho1
  have HW1 := hide hw1
  clear ho1 hw0 hw1 hw2 H1
  go_wp2
  have k0 : (w2.setCell ⟨w.heap.size + 1 + 1, 5, none⟩ (.slice p1 x.hops.length q1)).heap[w.heap.size + 1]? = some (.cells #[.bool false, .int .i64 0, .int .i64 0, .int .i64 0, .int .i64 0, .slice none 0 0] 49) := by
    rw [heap_setCell_other _ ⟨w.heap.size + 1 + 1, 5, none⟩ _ _ (by show w.heap.size + 1 ≠ w.heap.size + 1 + 1; omega)]
    exact HW1.out
  have k1 := heap_setCell_same _ _ 0 _ _ (.bool x.thing) k0
  have k2 := heap_setCell_same _ _ 1 _ _ (.int .i64 x.to) k1
  have k3 := heap_setCell_same _ _ 2 _ _ (.int .i64 x.kind) k2
  have k4 := heap_setCell_same _ _ 3 _ _ (.int .i64 x.cost) k3
  have k5 := heap_setCell_same _ _ 4 _ _ (.int .i64 x.far) k4
  have k6 := heap_setCell_same _ _ 5 _ _ (.slice p1 x.hops.length q1) k5
  have hfin := k6
  simp only [List.setIfInBounds_toArray, List.set_cons_zero, List.set_cons_succ] at hfin
  clear k0 k1 k2 k3 k4 k5 k6
  (try simp only [Exit.inBlock, Exit.then])
  refine bodyPost_ret (results_cell_row rfl _ _ (w.heap.size + 1) 49 #[.bool x.thing, .int .i64 x.to, .int .i64 x.kind, .int .i64 x.cost, .int .i64 x.far, .slice p1 x.hops.length q1] (0, 0) _ rfl hfin Try.underlying49 rfl (by kernel_rfl)) rfl ?_
  refine ⟨_, rfl, ?_, ?_⟩
  · refine owns_baseS (b1 := w1.heap.size) ?_ (by omega)
    have hlt : w.heap.size + 1 < w1.heap.size := by omega
    have hlt2 : w.heap.size + 1 + 1 < w1.heap.size := by omega
    exact owns_set (j := 5) (owns_set (j := 4) (owns_set (j := 3) (owns_set (j := 2) (owns_set (j := 1) (owns_set (j := 0) (owns_set (j := 5) O1.out hlt2) hlt) hlt) hlt) hlt) hlt) hlt
  · exact (((((((bw2.setCell (p := ⟨w.heap.size + 1 + 1, 5, none⟩) (by show w.heap.size ≤ w.heap.size + 1 + 1; omega) _).setCell (p := ⟨w.heap.size + 1, 0, none⟩) (by show w.heap.size ≤ w.heap.size + 1; omega) _).setCell (p := ⟨w.heap.size + 1, 1, none⟩) (by show w.heap.size ≤ w.heap.size + 1; omega) _).setCell (p := ⟨w.heap.size + 1, 2, none⟩) (by show w.heap.size ≤ w.heap.size + 1; omega) _).setCell (p := ⟨w.heap.size + 1, 3, none⟩) (by show w.heap.size ≤ w.heap.size + 1; omega) _).setCell (p := ⟨w.heap.size + 1, 4, none⟩) (by show w.heap.size ≤ w.heap.size + 1; omega) _).setCell (p := ⟨w.heap.size + 1, 5, none⟩) (by show w.heap.size ≤ w.heap.size + 1; omega) _)

set_option maxRecDepth 100000 in
set_option maxHeartbeats 1000000 in
theorem eqRoute_any (v1 v2 : Value) (x y : RtD) (w : World) (h1 : RtAt w v1 x w.heap.size) (h2 : RtAt w v2 y w.heap.size) (hl : x.hops.length ≤ 1048576) :
    Calls Try.prog 33 #[v1, v2] w fun e w' => e = .returned (.bool (decide (x = y))) ∧ Below w.heap.size w w' := by
  obtain ⟨a0, a1, a2, a3, a4, ns⟩ := x
  obtain ⟨b0, b1, b2, b3, b4, ms⟩ := y
  obtain ⟨u1, rfl, k1⟩ := h1
  obtain ⟨u2, rfl, k2⟩ := h2
  simp only [] at k1 k2 hl
  have K1 := hide k1
  have K2 := hide k2
  clear k1 k2
  unfold rtC
  simp only []
  by_cases h0 : a0 = b0
  case neg =>
    have hd : (!(a0 == b0)) = true := by cases a0 <;> cases b0 <;> simp_all
    have hne : decide ((⟨a0, a1, a2, a3, a4, ns⟩ : RtD) = ⟨b0, b1, b2, b3, b4, ms⟩) = false := decide_eq_false (fun h => by cases h; exact h0 rfl)
    rw [hne]
    clear hne
    go_enter Try.func33, Try.ntmps33
    go_wp2
    go_ret
    exact ⟨rfl, below_two _ _⟩
  subst h0
  have hb0 : (!(a0 == a0)) = false := by cases a0 <;> rfl
  by_cases h1 : a1 = b1
  case neg =>
    have hd : (a1 != b1) = true := by simpa using h1
    have hne : decide ((⟨a0, a1, a2, a3, a4, ns⟩ : RtD) = ⟨a0, b1, b2, b3, b4, ms⟩) = false := decide_eq_false (fun h => by cases h; exact h1 rfl)
    rw [hne]
    clear hne
    go_enter Try.func33, Try.ntmps33
    go_wp2
    go_ret
    exact ⟨rfl, below_two _ _⟩
  subst h1
  by_cases h2 : a2 = b2
  case neg =>
    have hd : (a2 != b2) = true := by simpa using h2
    have hne : decide ((⟨a0, a1, a2, a3, a4, ns⟩ : RtD) = ⟨a0, a1, b2, b3, b4, ms⟩) = false := decide_eq_false (fun h => by cases h; exact h2 rfl)
    rw [hne]
    clear hne
    go_enter Try.func33, Try.ntmps33
    go_wp2
    go_ret
    exact ⟨rfl, below_two _ _⟩
  subst h2
  by_cases h3 : a3 = b3
  case neg =>
    have hd : (a3 != b3) = true := by simpa using h3
    have hne : decide ((⟨a0, a1, a2, a3, a4, ns⟩ : RtD) = ⟨a0, a1, a2, b3, b4, ms⟩) = false := decide_eq_false (fun h => by cases h; exact h3 rfl)
    rw [hne]
    clear hne
    go_enter Try.func33, Try.ntmps33
    go_wp2
    go_ret
    exact ⟨rfl, below_two _ _⟩
  subst h3
  by_cases h4 : a4 = b4
  case neg =>
    have hd : (a4 != b4) = true := by simpa using h4
    have hne : decide ((⟨a0, a1, a2, a3, a4, ns⟩ : RtD) = ⟨a0, a1, a2, a3, b4, ms⟩) = false := decide_eq_false (fun h => by cases h; exact h4 rfl)
    rw [hne]
    clear hne
    go_enter Try.func33, Try.ntmps33
    go_wp2
    go_ret
    exact ⟨rfl, below_two _ _⟩
  subst h4
  obtain ⟨R, hR⟩ : ∃ R, R = decide (ns = ms) := ⟨_, rfl⟩
  have hRR : decide ((⟨a0, a1, a2, a3, a4, ns⟩ : RtD) = ⟨a0, a1, a2, a3, a4, ms⟩) = R := by rw [hR]; simp
  rw [hRR]
  have HE := fun W h1 h2 => eqI_any u1 u2 ns ms W h1 h2 hl
  rw [← hR] at HE
  have HEQ := hide HE
  clear HE hR hRR
  cases R
  · go_enter Try.func33, Try.ntmps33
    go_wp2_with fail
    refine (HEQ.out _ (K1.out.then (below_two _ _)).ints (K2.out.then (below_two _ _)).ints).mono ?_
    rintro e w1 ⟨rfl, bb1⟩
    go_wp2
    go_ret
    exact ⟨rfl, (below_two _ _).trans (bb1.mono (by simp; omega))⟩
  · go_enter Try.func33, Try.ntmps33
    go_wp2_with fail
    refine (HEQ.out _ (K1.out.then (below_two _ _)).ints (K2.out.then (below_two _ _)).ints).mono ?_
    rintro e w1 ⟨rfl, bb1⟩
    go_wp2
    go_ret
    exact ⟨rfl, (below_two _ _).trans (bb1.mono (by simp; omega))⟩
end Go.Proofs.Ytnpafmjfhglbhaa
namespace Go.Proofs.Ytnpafmjfhglbhaa
open Go.RowKit

/-- a way, and the value of its row -/
abbrev QP := RtD × Value

def encQ (p : QP) : List Value := [.bool p.1.thing, .int .i64 p.1.to, .int .i64 p.1.kind, .int .i64 p.1.cost, .int .i64 p.1.far, p.2]

def zeroQD : RtD := ⟨false, 0, 0, 0, 0, []⟩

def zQ : QP := (zeroQD, .slice none 0 0)

theorem encQ_len (p : QP) : (encQ p).length = 6 := rfl

/-- a list to read: its cells, and each record's row, below B -/
def RtsAt (W : World) (v : Value) (ps : List QP) (B : Nat) : Prop := StructsAt encQ 6 W v ps B ∧ ∀ p ∈ ps, HopsAt W p.2 p.1.hops B

theorem RtsAt.shape {W : World} {v : Value} {ps : List QP} {B : Nat} (h : RtsAt W v ps B) : ∃ a cap, v = .slice a ps.length cap := by
  obtain ⟨⟨a, cap, h, _⟩, _⟩ := h
  exact ⟨a, cap, h⟩

theorem RtsAt.later {W W' : World} {v : Value} {ps : List QP} {B C : Nat} (h : RtsAt W v ps B) (hb : Below C W W') (hBC : B ≤ C) : RtsAt W' v ps B :=
  ⟨RowAt.later h.1 hb hBC, fun p hp => RowAt.later (h.2 p hp) hb hBC⟩

theorem RtsAt.more {W : World} {v : Value} {ps : List QP} {B C : Nat} (h : RtsAt W v ps B) (hBC : B ≤ C) : RtsAt W v ps C :=
  ⟨RowAt.more h.1 hBC, fun p hp => RowAt.more (h.2 p hp) hBC⟩

theorem RtsAt.then {W W' : World} {v : Value} {ps : List QP} (h : RtsAt W v ps W.heap.size) (hb : Below W.heap.size W W') : RtsAt W' v ps W'.heap.size := (h.later hb (Nat.le_refl _)).more hb.size

/-- its row is the caller's own, in blocks of lo .. hi -/
def RHopOwn (W : World) (lo hi : Nat) (p : QP) : Prop := W.ownsRow lo 3 1 p.2 p.1.hops.length (flat intE p.1.hops) ∧ ∀ k, p.2.ownBlock = some k → k < hi

def ApartQ (p q : QP) : Prop := ∀ k, p.2.ownBlock = some k → q.2.ownBlock ≠ some k

/-- a list of the caller's own: its row and those of its records, no two in one block, all in blocks of lo .. hi -/
structure RtsOwn (W : World) (lo hi : Nat) (v : Value) (ps : List QP) : Prop where
  row : W.ownsRow lo 49 6 v ps.length (flat encQ ps)
  top : ∀ k, v.ownBlock = some k → k < hi
  nears : ∀ p ∈ ps, RHopOwn W lo hi p
  apart : ps.Pairwise ApartQ

theorem RHopOwn.keep {W W' : World} {lo hi : Nat} {p : QP} (h : RHopOwn W lo hi p) (hk : ∀ k, lo ≤ k → k < hi → k < W.heap.size → W'.heap[k]? = W.heap[k]?) : RHopOwn W' lo hi p :=
  ⟨owns_keepB h.1 (fun k e => hk k (h.1.lt k e).1 (h.2 k e) (h.1.lt k e).2), h.2⟩

theorem RHopOwn.wide {W : World} {lo hi lo' hi' : Nat} {p : QP} (h : RHopOwn W lo hi p) (hl : lo' ≤ lo) (hh : hi ≤ hi') : RHopOwn W lo' hi' p :=
  ⟨owns_baseS h.1 hl, fun k e => Nat.lt_of_lt_of_le (h.2 k e) hh⟩

theorem RHopOwn.at {W : World} {lo hi : Nat} {p : QP} (h : RHopOwn W lo hi p) : HopsAt W p.2 p.1.hops hi := by
  have h1 := owns_rowAt h.1
  obtain ⟨a, cap, hv, h2⟩ := h1
  refine ⟨a, cap, hv, ?_⟩
  rcases h2 with h0 | ⟨b, off, ha, hb1, hx⟩
  · exact .inl h0
  · exact .inr ⟨b, off, ha, h.2 b (by rw [hv, ha]; rfl), hx⟩

theorem RtsOwn.keep {W W' : World} {lo hi : Nat} {v : Value} {ps : List QP} (h : RtsOwn W lo hi v ps) (hk : ∀ k, lo ≤ k → k < hi → k < W.heap.size → W'.heap[k]? = W.heap[k]?) : RtsOwn W' lo hi v ps where
  row := owns_keepB h.row (fun k e => hk k (h.row.lt k e).1 (h.top k e) (h.row.lt k e).2)
  top := h.top
  nears := fun p hp => (h.nears p hp).keep hk
  apart := h.apart

theorem RtsOwn.below {W W' : World} {lo hi B : Nat} {v : Value} {ps : List QP} (h : RtsOwn W lo hi v ps) (hb : Below B W W') (hB : hi ≤ B) : RtsOwn W' lo hi v ps := h.keep (fun k _ h2 _ => hb.block k (by omega))

theorem RtsOwn.wide {W : World} {lo hi lo' hi' : Nat} {v : Value} {ps : List QP} (h : RtsOwn W lo hi v ps) (hl : lo' ≤ lo) (hh : hi ≤ hi') : RtsOwn W lo' hi' v ps where
  row := owns_baseS h.row hl
  top := fun k e => Nat.lt_of_lt_of_le (h.top k e) hh
  nears := fun p hp => (h.nears p hp).wide hl hh
  apart := h.apart

theorem RtsOwn.at {W : World} {lo hi : Nat} {v : Value} {ps : List QP} (h : RtsOwn W lo hi v ps) : RtsAt W v ps hi := by
  refine ⟨?_, fun p hp => (h.nears p hp).at⟩
  have h1 := owns_rowAt h.row
  obtain ⟨a, cap, hv, h2⟩ := h1
  refine ⟨a, cap, hv, ?_⟩
  rcases h2 with h0 | ⟨b, off, ha, hb1, hx⟩
  · exact .inl h0
  · exact .inr ⟨b, off, ha, h.top b (by rw [hv, ha]; rfl), hx⟩

theorem RtsOwn.frame {W W' : World} {lo hi l2 h2 : Nat} {v : Value} {ps : List QP} (h : RtsOwn W lo hi v ps) (hb : Frame l2 h2 W W') (hB : hi ≤ l2 ∨ h2 ≤ lo) : RtsOwn W' lo hi v ps := h.keep (fun k h1 h2 h3 => hb.block k h3 (by omega))

/-- near rows of new records are behind all that was there -/
theorem apartQ_add {W : World} {lo hi : Nat} {ps : List QP} {p : QP} (h : ps.Pairwise ApartQ) (hn : ∀ q ∈ ps, RHopOwn W lo hi q) (hp : ∀ k, p.2.ownBlock = some k → hi ≤ k) : (ps ++ [p]).Pairwise ApartQ := by
  rw [List.pairwise_append]
  refine ⟨h, by simp, ?_⟩
  intro a ha b hb
  have : b = p := by simpa using hb
  subst this
  intro k hk he
  have h1 := (hn a ha).2 k hk
  have h2 := hp k he
  omega

/-- how many numbers a list has -/
def totQ (ps : List QP) : Nat := (ps.map (fun p => 1 + p.1.hops.length)).sum

theorem totQ_cons (p : QP) (ps : List QP) : totQ (p :: ps) = 1 + p.1.hops.length + totQ ps := by simp [totQ]

theorem totQ_append (a b : List QP) : totQ (a ++ b) = totQ a + totQ b := by simp [totQ]

theorem totQ_len (ps : List QP) : ps.length ≤ totQ ps := by
  induction ps with
  | nil => simp [totQ]
  | cons p ps ih => rw [totQ_cons, List.length_cons]; omega

theorem totQ_mem {ps : List QP} {p : QP} (h : p ∈ ps) : p.1.hops.length ≤ totQ ps := by
  induction ps with
  | nil => simp at h
  | cons q ps ih =>
    rw [totQ_cons]
    rcases List.mem_cons.1 h with rfl | h1
    · omega
    · have := ih h1; omega

theorem totQ_map {ps qs : List QP} (h : ps.map (·.1) = qs.map (·.1)) : totQ ps = totQ qs := by
  have e : ∀ l : List QP, totQ l = ((l.map (·.1)).map (fun x => 1 + x.hops.length)).sum := fun l => by simp [totQ, List.map_map, Function.comp_def]
  rw [e, e, h]

theorem totQ_take {ps : List QP} {k : Nat} {p : QP} (h : ps[k]? = some p) : totQ (ps.take (k + 1)) = totQ (ps.take k) + (1 + p.1.hops.length) := by
  obtain ⟨hk, e⟩ := List.getElem?_eq_some_iff.1 h
  rw [List.take_succ_eq_append_getElem hk, totQ_append, e]
  simp [totQ]

theorem mapQ_take {ps : List QP} {k : Nat} {p : QP} (h : ps[k]? = some p) : (ps.take (k + 1)).map (·.1) = (ps.take k).map (·.1) ++ [p.1] := by
  obtain ⟨hk, e⟩ := List.getElem?_eq_some_iff.1 h
  rw [List.take_succ_eq_append_getElem hk, List.map_append, e]
  rfl
theorem RtsAt.cells {W : World} {v : Value} {ps : List QP} {B : Nat} (h : RtsAt W v ps B) (i : Nat) (p : QP) (hp : ps[i]? = some p) :
    ∃ b off cap, v = .slice (some ⟨b, off, none⟩) ps.length cap ∧ b < B ∧ W.cell? ⟨b, off + i * 6, none⟩ = some (.bool p.1.thing) ∧ W.cell? ⟨b, off + i * 6 + 1, none⟩ = some (.int .i64 p.1.to) ∧ W.cell? ⟨b, off + i * 6 + 2, none⟩ = some (.int .i64 p.1.kind) ∧ W.cell? ⟨b, off + i * 6 + 3, none⟩ = some (.int .i64 p.1.cost) ∧ W.cell? ⟨b, off + i * 6 + 4, none⟩ = some (.int .i64 p.1.far) ∧ W.cell? ⟨b, off + i * 6 + 5, none⟩ = some p.2 ∧ HopsAt W p.2 p.1.hops B := by
  obtain ⟨b, off, cap, hv, hb, hc⟩ := StructsAt.cell h.1 encQ_len i p hp
  exact ⟨b, off, cap, hv, hb, hc 0 _ rfl, hc 1 _ rfl, hc 2 _ rfl, hc 3 _ rfl, hc 4 _ rfl, hc 5 _ rfl, h.2 p (List.mem_of_getElem? hp)⟩

/-- six cells laid at o of block g -/
abbrev putQ (W : World) (g o : Nat) (p : QP) : World := (((((W.setCell ⟨g, o, none⟩ (.bool p.1.thing)).setCell ⟨g, o + 1, none⟩ (.int .i64 p.1.to)).setCell ⟨g, o + 2, none⟩ (.int .i64 p.1.kind)).setCell ⟨g, o + 3, none⟩ (.int .i64 p.1.cost)).setCell ⟨g, o + 4, none⟩ (.int .i64 p.1.far)).setCell ⟨g, o + 5, none⟩ p.2

theorem putQ_grown (W : World) (g o : Nat) (p : QP) : W.grownBy (putQ W g o p) (some g) := grown_trans (grown_trans (grown_trans (grown_trans (grown_trans (grown_set W g _ _) (grown_set _ g _ _)) (grown_set _ g _ _)) (grown_set _ g _ _)) (grown_set _ g _ _)) (grown_set _ g _ _)

theorem putQ_owns {W : World} {base g cap n j : Nat} {xs : List QP} {p : QP} (h : W.ownsRow base 49 6 (.slice (some ⟨g, 0, none⟩) n cap) n (flat encQ xs)) (hj : j < xs.length) :
    (putQ W g (j * 6) p).ownsRow base 49 6 (.slice (some ⟨g, 0, none⟩) n cap) n (flat encQ (xs.set j p)) := by
  have e : (((((((flat encQ xs).set (j * 6) (.bool p.1.thing)).set (j * 6 + 1) (.int .i64 p.1.to)).set (j * 6 + 2) (.int .i64 p.1.kind)).set (j * 6 + 3) (.int .i64 p.1.cost)).set (j * 6 + 4) (.int .i64 p.1.far)).set (j * 6 + 5) (p.2)) = flat encQ (xs.set j p) := flat_set encQ_len xs j p hj
  rw [← e]
  exact ((((((h.stored (j * 6) _).1.stored (j * 6 + 1) _).1.stored (j * 6 + 2) _).1.stored (j * 6 + 3) _).1.stored (j * 6 + 4) _).1.stored (j * 6 + 5) _).1
end Go.Proofs.Ytnpafmjfhglbhaa
