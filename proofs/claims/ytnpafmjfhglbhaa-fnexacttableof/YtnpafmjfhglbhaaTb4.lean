/-
  Lines as values; laws.szLine, toLine, eqLine.
  Lists of lines, each with a row of its own.
-/
import Derived.Test.YtnpafmjfhglbhaaTb3
import Derived.Handy
import Derived.Test.YtnpafmjfhglbhaaTb2
namespace Go.Proofs.Ytnpafmjfhglbhaa
open Go.RowKit

structure LnD where
  thing : Bool
  to : Int
  hops : List Int
  deriving DecidableEq

def lnC (x : LnD) (v : Value) : Array Value := #[.bool x.thing, .int .i64 x.to, v]

/-- the value v is the way x, whose row lies below B -/
def LnAt (W : World) (v : Value) (x : LnD) (B : Nat) : Prop := ∃ v1, v = .agg (lnC x v1) ∧ HopsAt W v1 x.hops B

theorem LnAt.then {W W' : World} {v : Value} {x : LnD} (h : LnAt W v x W.heap.size) (hb : Below W.heap.size W W') : LnAt W' v x W'.heap.size := by
  obtain ⟨v1, hv, h1⟩ := h
  exact ⟨v1, hv, h1.then hb⟩

theorem lnAt_of {W : World} {lo : Nat} {x : LnD} {u : Value} (h : W.ownsRow lo 3 1 u x.hops.length (flat intE x.hops)) : LnAt W (.agg (lnC x u)) x W.heap.size := ⟨u, rfl, hops_of h⟩

set_option maxRecDepth 100000 in
set_option maxHeartbeats 1000000 in
theorem szLine_any (x : LnD) (a : Option Addr) (n c : Nat) (q : Int) (w : World) (hn : (n : Int) ≤ 9223372036854775807) (hq0 : 0 ≤ q) (hq : q ≤ 1048576) :
    Calls Try.prog 44 #[.agg (lnC x (.slice a n c)), .int .i64 q] w fun e w' => e = .returned (.int .i64 (szW q n)) ∧ Below w.heap.size w w' := by
  unfold szW lnC
  have HS := hide (szIntS_any a n c q)
  by_cases h : q - (n : Int) < 0
  · rw [if_pos h] at HS ⊢
    go_enter Try.func44, Try.ntmps44
    go_wp2_with fail
    refine (HS.out _ hn hq0 hq).mono ?_
    rintro e w1 ⟨rfl, rfl⟩
    go_wp2
    go_ret
    exact ⟨rfl, (Below.refl _ _).alloc (Nat.le_refl _) _⟩
  · rw [if_neg h] at HS ⊢
    go_enter Try.func44, Try.ntmps44
    go_wp2_with fail
    refine (HS.out _ hn hq0 hq).mono ?_
    rintro e w1 ⟨rfl, rfl⟩
    go_wp2
    go_ret
    exact ⟨rfl, (Below.refl _ _).alloc (Nat.le_refl _) _⟩

set_option maxRecDepth 100000 in
set_option maxHeartbeats 4000000 in
theorem toLine_any (v : Value) (x : LnD) (w : World) (hl : x.hops.length ≤ 1048576) (hv : LnAt w v x w.heap.size) :
    Calls Try.prog 45 #[v] w fun e w' => ∃ v1, e = .returned (.agg (lnC x v1)) ∧ w'.ownsRow w.heap.size 3 1 v1 x.hops.length (flat intE x.hops) ∧ Below w.heap.size w w' := by
  obtain ⟨u1, rfl, h1⟩ := hv
  obtain ⟨a1, c1, rfl⟩ := h1.shape
  have H1 := hide h1
  clear h1
  unfold lnC
  go_enter Try.func45, Try.ntmps45
  go_wp2_with fail
  have hw0 := heap3_0 w (.cells #[.bool x.thing, .int .i64 x.to, .slice a1 x.hops.length c1] 77) (.cells #[.bool false, .int .i64 0, .slice none 0 0] 51) (.cells #[.bool x.thing, .int .i64 x.to, .slice none 0 0] 51)
  have hw1 := heap3_1 w (.cells #[.bool x.thing, .int .i64 x.to, .slice a1 x.hops.length c1] 77) (.cells #[.bool false, .int .i64 0, .slice none 0 0] 51) (.cells #[.bool x.thing, .int .i64 x.to, .slice none 0 0] 51)
  have hw2 := heap3_2 w (.cells #[.bool x.thing, .int .i64 x.to, .slice a1 x.hops.length c1] 77) (.cells #[.bool false, .int .i64 0, .slice none 0 0] 51) (.cells #[.bool x.thing, .int .i64 x.to, .slice none 0 0] 51)
  have bw := below_three (w := w) (.cells #[.bool x.thing, .int .i64 x.to, .slice a1 x.hops.length c1] 77) (.cells #[.bool false, .int .i64 0, .slice none 0 0] 51) (.cells #[.bool x.thing, .int .i64 x.to, .slice none 0 0] 51)
  generalize (((w.alloc (.cells #[.bool x.thing, .int .i64 x.to, .slice a1 x.hops.length c1] 77)).alloc (.cells #[.bool false, .int .i64 0, .slice none 0 0] 51)).alloc (.cells #[.bool x.thing, .int .i64 x.to, .slice none 0 0] 51)) = w1 at *
  refine (toIntS_any _ x.hops w1 hl (H1.out.then bw)).mono ?_
  rintro e w2 ⟨v1, rfl, ho1, b2⟩
  obtain ⟨p1, q1, rfl⟩ := owns_lenS ho1
  have l2 := lt_of_heap hw2
  rw [← b2.block _ (lt_of_heap hw1)] at hw1
  rw [← b2.block _ l2] at hw2
  have hb12 : w.heap.size ≤ w1.heap.size := bw.size
  have bw2 : Below w.heap.size w w2 := bw.trans (b2.mono hb12)
  have t0 := cells_at hw2 0
  have t1 := cells_at hw2 1
  have t2 := cells_at hw2 2
  have r0 := cells_at hw1 0
  have r1 := cells_at hw1 1
  have r2 := cells_at hw1 2
  simp at t0 t1 t2 r0 r1 r2
  have f2 := frozen_at hw2
  have f1 := frozen_at hw1
  have O1 := hide ho1
  have HW1 := hide hw1
  clear ho1 hw0 hw1 hw2 H1
  go_wp2
  have k0 : (w2.setCell ⟨w.heap.size + 1 + 1, 2, none⟩ (.slice p1 x.hops.length q1)).heap[w.heap.size + 1]? = some (.cells #[.bool false, .int .i64 0, .slice none 0 0] 51) := by
    rw [heap_setCell_other _ ⟨w.heap.size + 1 + 1, 2, none⟩ _ _ (by show w.heap.size + 1 ≠ w.heap.size + 1 + 1; omega)]
    exact HW1.out
  have k1 := heap_setCell_same _ _ 0 _ _ (.bool x.thing) k0
  have k2 := heap_setCell_same _ _ 1 _ _ (.int .i64 x.to) k1
  have k3 := heap_setCell_same _ _ 2 _ _ (.slice p1 x.hops.length q1) k2
  have hfin := k3
  clear k0 k1 k2 k3
  (try simp only [Exit.inBlock, Exit.then])
  refine bodyPost_ret (results_cell_row rfl _ _ (w.heap.size + 1) 51 #[.bool x.thing, .int .i64 x.to, .slice p1 x.hops.length q1] (0, 0) _ rfl hfin Try.underlying51 rfl (by kernel_rfl)) rfl ?_
  refine ⟨_, rfl, ?_, ?_⟩
  · refine owns_baseS (b1 := w1.heap.size) ?_ (by omega)
    have hlt : w.heap.size + 1 < w1.heap.size := by omega
    have hlt2 : w.heap.size + 1 + 1 < w1.heap.size := by omega
    exact owns_set (j := 2) (owns_set (j := 1) (owns_set (j := 0) (owns_set (j := 2) O1.out hlt2) hlt) hlt) hlt
  · exact (((bw2.setCell (p := ⟨w.heap.size + 1 + 1, 2, none⟩) (by show w.heap.size ≤ w.heap.size + 1 + 1; omega) _).setCell (p := ⟨w.heap.size + 1, 0, none⟩) (by show w.heap.size ≤ w.heap.size + 1; omega) _).setCell (p := ⟨w.heap.size + 1, 1, none⟩) (by show w.heap.size ≤ w.heap.size + 1; omega) _).setCell (p := ⟨w.heap.size + 1, 2, none⟩) (by show w.heap.size ≤ w.heap.size + 1; omega) _

set_option maxRecDepth 100000 in
set_option maxHeartbeats 1000000 in
theorem eqLine_any (v1 v2 : Value) (x y : LnD) (w : World) (h1 : LnAt w v1 x w.heap.size) (h2 : LnAt w v2 y w.heap.size) (hl : x.hops.length ≤ 1048576) :
    Calls Try.prog 32 #[v1, v2] w fun e w' => e = .returned (.bool (decide (x = y))) ∧ Below w.heap.size w w' := by
  obtain ⟨a0, a1, ns⟩ := x
  obtain ⟨b0, b1, ms⟩ := y
  obtain ⟨u1, rfl, k1⟩ := h1
  obtain ⟨u2, rfl, k2⟩ := h2
  simp only [] at k1 k2 hl
  have K1 := hide k1
  have K2 := hide k2
  clear k1 k2
  unfold lnC
  simp only []
  by_cases h0 : a0 = b0
  case neg =>
    have hd : (!(a0 == b0)) = true := by cases a0 <;> cases b0 <;> simp_all
    have hne : decide ((⟨a0, a1, ns⟩ : LnD) = ⟨b0, b1, ms⟩) = false := decide_eq_false (fun h => by cases h; exact h0 rfl)
    rw [hne]
    clear hne
    go_enter Try.func32, Try.ntmps32
    go_wp2
    go_ret
    exact ⟨rfl, below_two _ _⟩
  subst h0
  have hb0 : (!(a0 == a0)) = false := by cases a0 <;> rfl
  by_cases h1 : a1 = b1
  case neg =>
    have hd : (a1 != b1) = true := by simpa using h1
    have hne : decide ((⟨a0, a1, ns⟩ : LnD) = ⟨a0, b1, ms⟩) = false := decide_eq_false (fun h => by cases h; exact h1 rfl)
    rw [hne]
    clear hne
    go_enter Try.func32, Try.ntmps32
    go_wp2
    go_ret
    exact ⟨rfl, below_two _ _⟩
  subst h1
  obtain ⟨R, hR⟩ : ∃ R, R = decide (ns = ms) := ⟨_, rfl⟩
  have hRR : decide ((⟨a0, a1, ns⟩ : LnD) = ⟨a0, a1, ms⟩) = R := by rw [hR]; simp
  rw [hRR]
  have HE := fun W h1 h2 => eqI_any u1 u2 ns ms W h1 h2 hl
  rw [← hR] at HE
  have HEQ := hide HE
  clear HE hR hRR
  cases R
  · go_enter Try.func32, Try.ntmps32
    go_wp2_with fail
    refine (HEQ.out _ (K1.out.then (below_two _ _)).ints (K2.out.then (below_two _ _)).ints).mono ?_
    rintro e w1 ⟨rfl, bb1⟩
    go_wp2
    go_ret
    exact ⟨rfl, (below_two _ _).trans (bb1.mono (by simp; omega))⟩
  · go_enter Try.func32, Try.ntmps32
    go_wp2_with fail
    refine (HEQ.out _ (K1.out.then (below_two _ _)).ints (K2.out.then (below_two _ _)).ints).mono ?_
    rintro e w1 ⟨rfl, bb1⟩
    go_wp2
    go_ret
    exact ⟨rfl, (below_two _ _).trans (bb1.mono (by simp; omega))⟩
end Go.Proofs.Ytnpafmjfhglbhaa
namespace Go.Proofs.Ytnpafmjfhglbhaa
open Go.RowKit

/-- a way, and the value of its row -/
abbrev JP := LnD × Value

def encJ (p : JP) : List Value := [.bool p.1.thing, .int .i64 p.1.to, p.2]

def zeroJD : LnD := ⟨false, 0, []⟩

def zJ : JP := (zeroJD, .slice none 0 0)

theorem encJ_len (p : JP) : (encJ p).length = 3 := rfl

/-- a list to read: its cells, and each record's row, below B -/
def LnsAt (W : World) (v : Value) (ps : List JP) (B : Nat) : Prop := StructsAt encJ 3 W v ps B ∧ ∀ p ∈ ps, HopsAt W p.2 p.1.hops B

theorem LnsAt.shape {W : World} {v : Value} {ps : List JP} {B : Nat} (h : LnsAt W v ps B) : ∃ a cap, v = .slice a ps.length cap := by
  obtain ⟨⟨a, cap, h, _⟩, _⟩ := h
  exact ⟨a, cap, h⟩

theorem LnsAt.later {W W' : World} {v : Value} {ps : List JP} {B C : Nat} (h : LnsAt W v ps B) (hb : Below C W W') (hBC : B ≤ C) : LnsAt W' v ps B :=
  ⟨RowAt.later h.1 hb hBC, fun p hp => RowAt.later (h.2 p hp) hb hBC⟩

theorem LnsAt.more {W : World} {v : Value} {ps : List JP} {B C : Nat} (h : LnsAt W v ps B) (hBC : B ≤ C) : LnsAt W v ps C :=
  ⟨RowAt.more h.1 hBC, fun p hp => RowAt.more (h.2 p hp) hBC⟩

theorem LnsAt.then {W W' : World} {v : Value} {ps : List JP} (h : LnsAt W v ps W.heap.size) (hb : Below W.heap.size W W') : LnsAt W' v ps W'.heap.size := (h.later hb (Nat.le_refl _)).more hb.size

/-- its row is the caller's own, in blocks of lo .. hi -/
def LHopOwn (W : World) (lo hi : Nat) (p : JP) : Prop := W.ownsRow lo 3 1 p.2 p.1.hops.length (flat intE p.1.hops) ∧ ∀ k, p.2.ownBlock = some k → k < hi

def ApartJ (p q : JP) : Prop := ∀ k, p.2.ownBlock = some k → q.2.ownBlock ≠ some k

/-- a list of the caller's own: its row and those of its records, no two in one block, all in blocks of lo .. hi -/
structure LnsOwn (W : World) (lo hi : Nat) (v : Value) (ps : List JP) : Prop where
  row : W.ownsRow lo 51 3 v ps.length (flat encJ ps)
  top : ∀ k, v.ownBlock = some k → k < hi
  nears : ∀ p ∈ ps, LHopOwn W lo hi p
  apart : ps.Pairwise ApartJ

theorem LHopOwn.keep {W W' : World} {lo hi : Nat} {p : JP} (h : LHopOwn W lo hi p) (hk : ∀ k, lo ≤ k → k < hi → k < W.heap.size → W'.heap[k]? = W.heap[k]?) : LHopOwn W' lo hi p :=
  ⟨owns_keepB h.1 (fun k e => hk k (h.1.lt k e).1 (h.2 k e) (h.1.lt k e).2), h.2⟩

theorem LHopOwn.wide {W : World} {lo hi lo' hi' : Nat} {p : JP} (h : LHopOwn W lo hi p) (hl : lo' ≤ lo) (hh : hi ≤ hi') : LHopOwn W lo' hi' p :=
  ⟨owns_baseS h.1 hl, fun k e => Nat.lt_of_lt_of_le (h.2 k e) hh⟩

theorem LHopOwn.at {W : World} {lo hi : Nat} {p : JP} (h : LHopOwn W lo hi p) : HopsAt W p.2 p.1.hops hi := by
  have h1 := owns_rowAt h.1
  obtain ⟨a, cap, hv, h2⟩ := h1
  refine ⟨a, cap, hv, ?_⟩
  rcases h2 with h0 | ⟨b, off, ha, hb1, hx⟩
  · exact .inl h0
  · exact .inr ⟨b, off, ha, h.2 b (by rw [hv, ha]; rfl), hx⟩

theorem LnsOwn.keep {W W' : World} {lo hi : Nat} {v : Value} {ps : List JP} (h : LnsOwn W lo hi v ps) (hk : ∀ k, lo ≤ k → k < hi → k < W.heap.size → W'.heap[k]? = W.heap[k]?) : LnsOwn W' lo hi v ps where
  row := owns_keepB h.row (fun k e => hk k (h.row.lt k e).1 (h.top k e) (h.row.lt k e).2)
  top := h.top
  nears := fun p hp => (h.nears p hp).keep hk
  apart := h.apart

theorem LnsOwn.below {W W' : World} {lo hi B : Nat} {v : Value} {ps : List JP} (h : LnsOwn W lo hi v ps) (hb : Below B W W') (hB : hi ≤ B) : LnsOwn W' lo hi v ps := h.keep (fun k _ h2 _ => hb.block k (by omega))

theorem LnsOwn.wide {W : World} {lo hi lo' hi' : Nat} {v : Value} {ps : List JP} (h : LnsOwn W lo hi v ps) (hl : lo' ≤ lo) (hh : hi ≤ hi') : LnsOwn W lo' hi' v ps where
  row := owns_baseS h.row hl
  top := fun k e => Nat.lt_of_lt_of_le (h.top k e) hh
  nears := fun p hp => (h.nears p hp).wide hl hh
  apart := h.apart

theorem LnsOwn.at {W : World} {lo hi : Nat} {v : Value} {ps : List JP} (h : LnsOwn W lo hi v ps) : LnsAt W v ps hi := by
  refine ⟨?_, fun p hp => (h.nears p hp).at⟩
  have h1 := owns_rowAt h.row
  obtain ⟨a, cap, hv, h2⟩ := h1
  refine ⟨a, cap, hv, ?_⟩
  rcases h2 with h0 | ⟨b, off, ha, hb1, hx⟩
  · exact .inl h0
  · exact .inr ⟨b, off, ha, h.top b (by rw [hv, ha]; rfl), hx⟩

theorem LnsOwn.frame {W W' : World} {lo hi l2 h2 : Nat} {v : Value} {ps : List JP} (h : LnsOwn W lo hi v ps) (hb : Frame l2 h2 W W') (hB : hi ≤ l2 ∨ h2 ≤ lo) : LnsOwn W' lo hi v ps := h.keep (fun k h1 h2 h3 => hb.block k h3 (by omega))

/-- near rows of new records are behind all that was there -/
theorem apartJ_add {W : World} {lo hi : Nat} {ps : List JP} {p : JP} (h : ps.Pairwise ApartJ) (hn : ∀ q ∈ ps, LHopOwn W lo hi q) (hp : ∀ k, p.2.ownBlock = some k → hi ≤ k) : (ps ++ [p]).Pairwise ApartJ := by
  rw [List.pairwise_append]
  refine ⟨h, by simp, ?_⟩
  intro a ha b hb
  have : b = p := by simpa using hb
  subst this
  intro k hk he
  have h1 := (hn a ha).2 k hk
  have h2 := hp k he
  omega

/-- how many numbers a list has -/
def totJ (ps : List JP) : Nat := (ps.map (fun p => 1 + p.1.hops.length)).sum

theorem totJ_cons (p : JP) (ps : List JP) : totJ (p :: ps) = 1 + p.1.hops.length + totJ ps := by simp [totJ]

theorem totJ_append (a b : List JP) : totJ (a ++ b) = totJ a + totJ b := by simp [totJ]

theorem totJ_len (ps : List JP) : ps.length ≤ totJ ps := by
  induction ps with
  | nil => simp [totJ]
  | cons p ps ih => rw [totJ_cons, List.length_cons]; omega

theorem totJ_mem {ps : List JP} {p : JP} (h : p ∈ ps) : p.1.hops.length ≤ totJ ps := by
  induction ps with
  | nil => simp at h
  | cons q ps ih =>
    rw [totJ_cons]
    rcases List.mem_cons.1 h with rfl | h1
    · omega
    · have := ih h1; omega

theorem totJ_map {ps qs : List JP} (h : ps.map (·.1) = qs.map (·.1)) : totJ ps = totJ qs := by
  have e : ∀ l : List JP, totJ l = ((l.map (·.1)).map (fun x => 1 + x.hops.length)).sum := fun l => by simp [totJ, List.map_map, Function.comp_def]
  rw [e, e, h]

theorem totJ_take {ps : List JP} {k : Nat} {p : JP} (h : ps[k]? = some p) : totJ (ps.take (k + 1)) = totJ (ps.take k) + (1 + p.1.hops.length) := by
  obtain ⟨hk, e⟩ := List.getElem?_eq_some_iff.1 h
  rw [List.take_succ_eq_append_getElem hk, totJ_append, e]
  simp [totJ]

theorem mapJ_take {ps : List JP} {k : Nat} {p : JP} (h : ps[k]? = some p) : (ps.take (k + 1)).map (·.1) = (ps.take k).map (·.1) ++ [p.1] := by
  obtain ⟨hk, e⟩ := List.getElem?_eq_some_iff.1 h
  rw [List.take_succ_eq_append_getElem hk, List.map_append, e]
  rfl
theorem LnsAt.cells {W : World} {v : Value} {ps : List JP} {B : Nat} (h : LnsAt W v ps B) (i : Nat) (p : JP) (hp : ps[i]? = some p) :
    ∃ b off cap, v = .slice (some ⟨b, off, none⟩) ps.length cap ∧ b < B ∧ W.cell? ⟨b, off + i * 3, none⟩ = some (.bool p.1.thing) ∧ W.cell? ⟨b, off + i * 3 + 1, none⟩ = some (.int .i64 p.1.to) ∧ W.cell? ⟨b, off + i * 3 + 2, none⟩ = some p.2 ∧ HopsAt W p.2 p.1.hops B := by
  obtain ⟨b, off, cap, hv, hb, hc⟩ := StructsAt.cell h.1 encJ_len i p hp
  exact ⟨b, off, cap, hv, hb, hc 0 _ rfl, hc 1 _ rfl, hc 2 _ rfl, h.2 p (List.mem_of_getElem? hp)⟩

/-- three cells laid at o of block g -/
abbrev putJ (W : World) (g o : Nat) (p : JP) : World := ((W.setCell ⟨g, o, none⟩ (.bool p.1.thing)).setCell ⟨g, o + 1, none⟩ (.int .i64 p.1.to)).setCell ⟨g, o + 2, none⟩ p.2

theorem putJ_grown (W : World) (g o : Nat) (p : JP) : W.grownBy (putJ W g o p) (some g) := grown_trans (grown_trans (grown_set W g _ _) (grown_set _ g _ _)) (grown_set _ g _ _)

theorem putJ_owns {W : World} {base g cap n j : Nat} {xs : List JP} {p : JP} (h : W.ownsRow base 51 3 (.slice (some ⟨g, 0, none⟩) n cap) n (flat encJ xs)) (hj : j < xs.length) :
    (putJ W g (j * 3) p).ownsRow base 51 3 (.slice (some ⟨g, 0, none⟩) n cap) n (flat encJ (xs.set j p)) := by
  have e : (((flat encJ xs).set (j * 3) (.bool p.1.thing)).set (j * 3 + 1) (.int .i64 p.1.to)).set (j * 3 + 2) p.2 = flat encJ (xs.set j p) := flat_set encJ_len xs j p hj
  rw [← e]
  exact (((h.stored (j * 3) _).1.stored (j * 3 + 1) _).1.stored (j * 3 + 2) _).1
end Go.Proofs.Ytnpafmjfhglbhaa
