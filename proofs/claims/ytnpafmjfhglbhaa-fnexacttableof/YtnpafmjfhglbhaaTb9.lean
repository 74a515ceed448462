/-
  Lists of ways, each with a row of its own.
  laws.szWayS, toWayS, eqWayS: their contracts.
  laws.markWayS, heldWayS: only the list's own memory turns; what was marked is held.
  spec.WayTo: its contract.
  impl.ownHops, ownWay, WayTo: their contracts.
  impl.ownLine: a line with hops of its own.
  A list of records to which one more is put.
  One line more at the end of a list of the caller's own.
-/
import Derived.Test.YtnpafmjfhglbhaaTb2
import Derived.Test.YtnpafmjfhglbhaaTb3
import Derived.Test.YtnpafmjfhglbhaaTb5
import Derived.Test.YtnpafmjfhglbhaaTb8
import Derived.Test.YtnpafmjfhglbhaaTb6
namespace Go.Proofs.Ytnpafmjfhglbhaa
open Go.RowKit

/-- a way, and the value of its row -/
abbrev WP := WayD × Value

def encW (p : WP) : List Value := [.int .i64 p.1.to, .int .i64 p.1.cost, p.2]

def zeroWD : WayD := ⟨0, 0, []⟩

def zW : WP := (zeroWD, .slice none 0 0)

theorem encW_len (p : WP) : (encW p).length = 3 := rfl

/-- a list to read: its cells, and each record's row, below B -/
def WaysAt (W : World) (v : Value) (ps : List WP) (B : Nat) : Prop := StructsAt encW 3 W v ps B ∧ ∀ p ∈ ps, HopsAt W p.2 p.1.hops B

theorem WaysAt.shape {W : World} {v : Value} {ps : List WP} {B : Nat} (h : WaysAt W v ps B) : ∃ a cap, v = .slice a ps.length cap := by
  obtain ⟨⟨a, cap, h, _⟩, _⟩ := h
  exact ⟨a, cap, h⟩

theorem WaysAt.later {W W' : World} {v : Value} {ps : List WP} {B C : Nat} (h : WaysAt W v ps B) (hb : Below C W W') (hBC : B ≤ C) : WaysAt W' v ps B :=
  ⟨RowAt.later h.1 hb hBC, fun p hp => RowAt.later (h.2 p hp) hb hBC⟩

theorem WaysAt.more {W : World} {v : Value} {ps : List WP} {B C : Nat} (h : WaysAt W v ps B) (hBC : B ≤ C) : WaysAt W v ps C :=
  ⟨RowAt.more h.1 hBC, fun p hp => RowAt.more (h.2 p hp) hBC⟩

theorem WaysAt.then {W W' : World} {v : Value} {ps : List WP} (h : WaysAt W v ps W.heap.size) (hb : Below W.heap.size W W') : WaysAt W' v ps W'.heap.size := (h.later hb (Nat.le_refl _)).more hb.size

/-- its row is the caller's own, in blocks of lo .. hi -/
def HopOwn (W : World) (lo hi : Nat) (p : WP) : Prop := W.ownsRow lo 3 1 p.2 p.1.hops.length (flat intE p.1.hops) ∧ ∀ k, p.2.ownBlock = some k → k < hi

def ApartW (p q : WP) : Prop := ∀ k, p.2.ownBlock = some k → q.2.ownBlock ≠ some k

theorem HopOwn.keep {W W' : World} {lo hi : Nat} {p : WP} (h : HopOwn W lo hi p) (hk : ∀ k, lo ≤ k → k < hi → k < W.heap.size → W'.heap[k]? = W.heap[k]?) : HopOwn W' lo hi p :=
  ⟨owns_keepB h.1 (fun k e => hk k (h.1.lt k e).1 (h.2 k e) (h.1.lt k e).2), h.2⟩

theorem HopOwn.wide {W : World} {lo hi lo' hi' : Nat} {p : WP} (h : HopOwn W lo hi p) (hl : lo' ≤ lo) (hh : hi ≤ hi') : HopOwn W lo' hi' p :=
  ⟨owns_baseS h.1 hl, fun k e => Nat.lt_of_lt_of_le (h.2 k e) hh⟩

theorem HopOwn.at {W : World} {lo hi : Nat} {p : WP} (h : HopOwn W lo hi p) : HopsAt W p.2 p.1.hops hi := by
  have h1 := owns_rowAt h.1
  obtain ⟨a, cap, hv, h2⟩ := h1
  refine ⟨a, cap, hv, ?_⟩
  rcases h2 with h0 | ⟨b, off, ha, hb1, hx⟩
  · exact .inl h0
  · exact .inr ⟨b, off, ha, h.2 b (by rw [hv, ha]; rfl), hx⟩

/-- near rows of new records are behind all that was there -/
theorem apartW_add {W : World} {lo hi : Nat} {ps : List WP} {p : WP} (h : ps.Pairwise ApartW) (hn : ∀ q ∈ ps, HopOwn W lo hi q) (hp : ∀ k, p.2.ownBlock = some k → hi ≤ k) : (ps ++ [p]).Pairwise ApartW := by
  rw [List.pairwise_append]
  refine ⟨h, by simp, ?_⟩
  intro a ha b hb
  have : b = p := by simpa using hb
  subst this
  intro k hk he
  have h1 := (hn a ha).2 k hk
  have h2 := hp k he
  omega

/-- how many numbers a list has -/
def totW (ps : List WP) : Nat := (ps.map (fun p => 1 + p.1.hops.length)).sum

theorem totW_cons (p : WP) (ps : List WP) : totW (p :: ps) = 1 + p.1.hops.length + totW ps := by simp [totW]

theorem totW_append (a b : List WP) : totW (a ++ b) = totW a + totW b := by simp [totW]

theorem totW_len (ps : List WP) : ps.length ≤ totW ps := by
  induction ps with
  | nil => simp [totW]
  | cons p ps ih => rw [totW_cons, List.length_cons]; omega

theorem totW_mem {ps : List WP} {p : WP} (h : p ∈ ps) : p.1.hops.length ≤ totW ps := by
  induction ps with
  | nil => simp at h
  | cons q ps ih =>
    rw [totW_cons]
    rcases List.mem_cons.1 h with rfl | h1
    · omega
    · have := ih h1; omega

theorem totW_map {ps qs : List WP} (h : ps.map (·.1) = qs.map (·.1)) : totW ps = totW qs := by
  have e : ∀ l : List WP, totW l = ((l.map (·.1)).map (fun x => 1 + x.hops.length)).sum := fun l => by simp [totW, List.map_map, Function.comp_def]
  rw [e, e, h]

theorem totW_take {ps : List WP} {k : Nat} {p : WP} (h : ps[k]? = some p) : totW (ps.take (k + 1)) = totW (ps.take k) + (1 + p.1.hops.length) := by
  obtain ⟨hk, e⟩ := List.getElem?_eq_some_iff.1 h
  rw [List.take_succ_eq_append_getElem hk, totW_append, e]
  simp [totW]

theorem mapW_take {ps : List WP} {k : Nat} {p : WP} (h : ps[k]? = some p) : (ps.take (k + 1)).map (·.1) = (ps.take k).map (·.1) ++ [p.1] := by
  obtain ⟨hk, e⟩ := List.getElem?_eq_some_iff.1 h
  rw [List.take_succ_eq_append_getElem hk, List.map_append, e]
  rfl
theorem WaysAt.cells {W : World} {v : Value} {ps : List WP} {B : Nat} (h : WaysAt W v ps B) (i : Nat) (p : WP) (hp : ps[i]? = some p) :
    ∃ b off cap, v = .slice (some ⟨b, off, none⟩) ps.length cap ∧ b < B ∧ W.cell? ⟨b, off + i * 3, none⟩ = some (.int .i64 p.1.to) ∧ W.cell? ⟨b, off + i * 3 + 1, none⟩ = some (.int .i64 p.1.cost) ∧ W.cell? ⟨b, off + i * 3 + 2, none⟩ = some p.2 ∧ HopsAt W p.2 p.1.hops B := by
  obtain ⟨b, off, cap, hv, hb, hc⟩ := StructsAt.cell h.1 encW_len i p hp
  exact ⟨b, off, cap, hv, hb, hc 0 _ rfl, hc 1 _ rfl, hc 2 _ rfl, h.2 p (List.mem_of_getElem? hp)⟩

/-- three cells laid at o of block g -/
abbrev putW (W : World) (g o : Nat) (p : WP) : World := ((W.setCell ⟨g, o, none⟩ (.int .i64 p.1.to)).setCell ⟨g, o + 1, none⟩ (.int .i64 p.1.cost)).setCell ⟨g, o + 2, none⟩ p.2

theorem putW_grown (W : World) (g o : Nat) (p : WP) : W.grownBy (putW W g o p) (some g) := grown_trans (grown_trans (grown_set W g _ _) (grown_set _ g _ _)) (grown_set _ g _ _)

end Go.Proofs.Ytnpafmjfhglbhaa
namespace Go.Proofs.Ytnpafmjfhglbhaa
open Go.RowKit

def fstsW (ps : List WP) : List WayD := ps.map (·.1)

theorem fstsW_at {ps : List WP} {i : Nat} {p : WP} (h : ps[i]? = some p) : (fstsW ps)[i]? = some p.1 := by simp [fstsW, h]

end Go.Proofs.Ytnpafmjfhglbhaa
namespace Go.Proofs.Ytnpafmjfhglbhaa
open Go.RowKit

/-- the numbers of a record that is marked from c on -/
def mkW (c : Int) (p : WP) : WP := (⟨c, c + 1, marksI (c + 1 + 1) p.1.hops.length⟩, p.2)

def nxW (c : Int) (p : WP) : Int := c + 1 + 1 + (p.1.hops.length : Int)

def mkWL : Int → List WP → List WP
  | _, [] => []
  | c, p :: ps => mkW c p :: mkWL (nxW c p) ps

def mkWE : Int → List WP → Int
  | c, [] => c
  | c, p :: ps => mkWE (nxW c p) ps

theorem mkWL_len (c : Int) (ps : List WP) : (mkWL c ps).length = ps.length := by
  induction ps generalizing c with
  | nil => rfl
  | cons p ps ih => simp [mkWL, ih]

theorem mkWE_append (c : Int) (a b : List WP) : mkWE c (a ++ b) = mkWE (mkWE c a) b := by
  induction a generalizing c with
  | nil => rfl
  | cons p a ih => exact ih _

theorem mkWL_append (c : Int) (a b : List WP) : mkWL c (a ++ b) = mkWL c a ++ mkWL (mkWE c a) b := by
  induction a generalizing c with
  | nil => rfl
  | cons p a ih => simp only [List.cons_append, mkWL, mkWE, ih]

theorem mkWE_step {ps : List WP} {k : Nat} {p : WP} (c : Int) (h : ps[k]? = some p) : mkWE c (ps.take (k + 1)) = nxW (mkWE c (ps.take k)) p := by
  obtain ⟨hk, e⟩ := List.getElem?_eq_some_iff.1 h
  rw [List.take_succ_eq_append_getElem hk, mkWE_append, e]
  rfl

theorem mkWL_step {ps : List WP} {k : Nat} {p : WP} (c : Int) (h : ps[k]? = some p) : mkWL c (ps.take (k + 1)) = mkWL c (ps.take k) ++ [mkW (mkWE c (ps.take k)) p] := by
  obtain ⟨hk, e⟩ := List.getElem?_eq_some_iff.1 h
  rw [List.take_succ_eq_append_getElem hk, mkWL_append, e]
  rfl

theorem mkWE_tot (c : Int) (ps : List WP) : c + (totW ps : Int) ≤ mkWE c ps ∧ mkWE c ps ≤ c + 2 * (totW ps : Int) := by
  induction ps generalizing c with
  | nil => simp [mkWE, totW]
  | cons p ps ih =>
    have h := ih (nxW c p)
    rw [totW_cons]
    simp only [mkWE]
    unfold nxW at h ⊢
    omega

theorem totW_takeLe (ps : List WP) (k : Nat) : totW (ps.take k) ≤ totW ps := by
  have h := totW_append (ps.take k) (ps.drop k)
  rw [List.take_append_drop] at h
  omega

theorem mkWL_at {ps : List WP} {k : Nat} {p : WP} (c : Int) (h : ps[k]? = some p) : (mkWL c ps)[k]? = some (mkW (mkWE c (ps.take k)) p) := by
  obtain ⟨hk, e⟩ := List.getElem?_eq_some_iff.1 h
  have e2 : ps = ps.take k ++ (p :: ps.drop (k + 1)) := by
    rw [← e]
    simp
  have e3 : mkWL c ps = mkWL c (ps.take k) ++ (mkW (mkWE c (ps.take k)) p :: mkWL (nxW (mkWE c (ps.take k)) p) (ps.drop (k + 1))) := by
    conv => lhs; rw [e2]
    rw [mkWL_append]
    rfl
  rw [e3, List.getElem?_append_right (by rw [mkWL_len, List.length_take]; omega), mkWL_len, List.length_take, Nat.min_eq_left (by omega), Nat.sub_self]
  rfl

theorem apartW_snd (ps : List WP) : ps.Pairwise ApartW ↔ (ps.map (·.2)).Pairwise (fun a b : Value => ∀ k, a.ownBlock = some k → b.ownBlock ≠ some k) := by
  rw [List.pairwise_map]
  exact Iff.rfl

theorem apartW_at {ps : List WP} (h : ps.Pairwise ApartW) {i k : Nat} {p q : WP} (hi : ps[i]? = some p) (hk : ps[k]? = some q) (hne : i ≠ k) : ApartW p q := by
  obtain ⟨h1, e1⟩ := List.getElem?_eq_some_iff.1 hi
  obtain ⟨h2, e2⟩ := List.getElem?_eq_some_iff.1 hk
  rw [List.pairwise_iff_getElem] at h
  rcases Nat.lt_or_ge i k with hl | hl
  · have := h i k h1 h2 hl
    rw [e1, e2] at this
    exact this
  · have := h k i h2 h1 (by omega)
    rw [e1, e2] at this
    exact fun j hj he => this j he hj

theorem setW_snd {ps : List WP} {k : Nat} {p q : WP} (hk : ps[k]? = some p) (h : q.2 = p.2) : (ps.set k q).map (·.2) = ps.map (·.2) := by
  apply List.ext_getElem?
  intro i
  by_cases e : i = k
  · subst e
    obtain ⟨h1, e1⟩ := List.getElem?_eq_some_iff.1 hk
    rw [List.getElem?_map, List.getElem?_set_self h1, List.getElem?_map, hk]
    simp [h]
  · simp [List.getElem?_set_ne (Ne.symm e)]

theorem setW2 {xs : List WP} {k : Nat} {p q : WP} (hk : xs[k]? = some p) (hq : q.2 = p.2) : ((flat encW xs).set (k * 3) (.int .i64 q.1.to)).set (k * 3 + 1) (.int .i64 q.1.cost) = flat encW (xs.set k q) := by
  obtain ⟨hlt, _⟩ := List.getElem?_eq_some_iff.1 hk
  have e : (((flat encW xs).set (k * 3) (.int .i64 q.1.to)).set (k * 3 + 1) (.int .i64 q.1.cost)).set (k * 3 + 2) q.2 = flat encW (xs.set k q) := flat_set encW_len xs k q hlt
  rw [← e]
  have h5 : (((flat encW xs).set (k * 3) (.int .i64 q.1.to)).set (k * 3 + 1) (.int .i64 q.1.cost))[k * 3 + 2]? = some q.2 := by
    rw [List.getElem?_set_ne (by omega), List.getElem?_set_ne (by omega), flat_get encW_len xs k 2 p hk (by omega), hq]
    rfl
  obtain ⟨h6, e6⟩ := List.getElem?_eq_some_iff.1 h5
  rw [← e6]
  exact (List.set_getElem_self h6).symm

abbrev setM2 (W : World) (g o : Nat) (z : Int) : World := (W.setCell ⟨g, o, none⟩ (.int .i64 z)).setCell ⟨g, o + 1, none⟩ (.int .i64 (z + 1))

theorem setM2_grown (W : World) (g o : Nat) (z : Int) : W.grownBy (setM2 W g o z) (some g) := grown_trans (grown_set W g _ _) (grown_set _ g _ _)

end Go.Proofs.Ytnpafmjfhglbhaa
namespace Go.Proofs.Ytnpafmjfhglbhaa
open Go.RowKit

set_option linter.unusedSimpArgs false

theorem results_cell_row_tmpW {P : Program} {fn : Func} {p u : Tmp} {ty : TypeId} (h : fn.results = #[.cell p ty, .tmp u]) (tmps : Array Value) (w : World) (g : Nat) (t : TypeId) (cs : Array Value) (fr : Nat × Nat) (d : TypeDesc)
    (hp : tmps.getD p undef = .pointer (some ⟨g, 0, none⟩)) (hg : w.heap[g]? = some (.cells cs t fr))
    (hu : P.underlying ty = some d) (hd : (match d with | .struct _ | .array _ _ => true | _ => false) = true) (hi : (P.info? ty).map (·.size) = some cs.size) :
    (results fn tmps).run P w = .ok (.tuple #[.agg cs, tmps.getD u undef]) w := by
  have hp' : tmps[p]?.getD undef = .pointer (some ⟨g, 0, none⟩) := by simpa using hp
  rw [results_cell_tmp h]
  simp [hp', asAddr, run_loadVar_row w g t ty cs fr d hg hu hd hi]

/-- the first way to z -/
def wayToD (xs : List WayD) (z : Int) : WayD := (xs.find? (fun x => x.to == z)).getD zeroWD

def wayToB (xs : List WayD) (z : Int) : Bool := (xs.find? (fun x => x.to == z)).isSome

theorem wayTo_hit {ps : List WP} {k : Nat} {p : WP} {z : Int} (h : ps[k]? = some p) (hno : ∀ q ∈ ps.take k, q.1.to ≠ z) (hz : p.1.to = z) : wayToD (fstsW ps) z = p.1 ∧ wayToB (fstsW ps) z = true := by
  have e : (fstsW ps).find? (fun x => x.to == z) = some p.1 := by
    have h1 := fstsW_at h
    obtain ⟨hk, e1⟩ := List.getElem?_eq_some_iff.1 h1
    rw [List.find?_eq_some_iff_append]
    refine ⟨by simpa using hz, (fstsW ps).take k, (fstsW ps).drop (k + 1), ?_, ?_⟩
    · rw [← e1, ← List.drop_eq_getElem_cons hk, List.take_append_drop]
    · intro x hx
      have e2 : (fstsW ps).take k = fstsW (ps.take k) := by simp [fstsW]
      rw [e2] at hx
      simp only [fstsW, List.mem_map] at hx
      obtain ⟨q, hq, rfl⟩ := hx
      simpa using hno q hq
  unfold wayToD wayToB
  rw [e]
  exact ⟨rfl, rfl⟩

theorem wayTo_none {ps : List WP} {z : Int} (hno : ∀ q ∈ ps, q.1.to ≠ z) : wayToD (fstsW ps) z = zeroWD ∧ wayToB (fstsW ps) z = false := by
  have e : (fstsW ps).find? (fun x => x.to == z) = none := by
    rw [List.find?_eq_none]
    intro x hx
    simp only [fstsW, List.mem_map] at hx
    obtain ⟨q, hq, rfl⟩ := hx
    simpa using hno q hq
  unfold wayToD wayToB
  rw [e]
  exact ⟨rfl, rfl⟩

theorem take_all {ps : List WP} {k : Nat} {p : WP} {z : Int} (h : ps[k]? = some p) (hno : ∀ q ∈ ps.take k, q.1.to ≠ z) (hz : p.1.to ≠ z) : ∀ q ∈ ps.take (k + 1), q.1.to ≠ z := by
  obtain ⟨hk, e⟩ := List.getElem?_eq_some_iff.1 h
  rw [List.take_succ_eq_append_getElem hk, e]
  intro q hq
  rcases List.mem_append.1 hq with h1 | h1
  · exact hno q h1
  · have : q = p := by simpa using h1
    subst this
    exact hz

end Go.Proofs.Ytnpafmjfhglbhaa
namespace Go.Proofs.Ytnpafmjfhglbhaa
open Go.RowKit

set_option linter.unusedSimpArgs false

set_option maxRecDepth 100000 in
set_option maxHeartbeats 1000000 in
theorem ownHops_any (l : List Int) (v : Value) (base : Nat) (w : World) (ho : w.ownsRow base 3 1 v l.length (flat intE l)) (hn : l.length ≤ 1048576) :
    Calls Try.prog 50 #[v] w fun e w' => ∃ v', e = .returned v' ∧ w'.ownsRow w.heap.size 3 1 v' l.length (flat intE l) ∧ Below w.heap.size w w' := by
  obtain ⟨va, vc, rfl⟩ := owns_lenS ho
  have OW := hide ho
  clear ho
  go_enter Try.func50, Try.ntmps50
  go_wp2_with (first
    | (at_builtin; refine append_row5 int_flat1 (by omega) intE_one (by omega) _ rfl _ _ 34 rfl w.heap.size 3 Try.underlying34 (.int .i64 0) rfl Try.info3 _ [] rfl (World.ownsRow_nil _ _ _ _) base _ l rfl OW.out (by simp; omega) (by simp) ?_))
  intro v' w4 hown' hgrow
  obtain ⟨na, nc, rfl⟩ := owns_lenS hown'
  simp only [Value.ownBlock] at hgrow
  have hb4 := hide (show Below w.heap.size w w4 from (Below.refl w.heap.size w).grown hgrow (Nat.le_refl _) (fun k hk => by simp at hk))
  have H1 := hide hown'
  clear hown' hgrow
  go_wp2
  go_ret
  exact ⟨_, rfl, by simpa using H1.out, hb4.out⟩

theorem below_al {B : Nat} {w W : World} (h : Below B w W) (hB : B ≤ w.heap.size) (o : Obj) : Below B w (W.alloc o) := h.alloc (Nat.le_trans hB h.size) o

end Go.Proofs.Ytnpafmjfhglbhaa
namespace Go.Proofs.Ytnpafmjfhglbhaa
open Go.RowKit

set_option linter.unusedSimpArgs false

set_option maxRecDepth 100000 in
set_option maxHeartbeats 1000000 in
theorem ownLine_any (x : LnD) (v : Value) (base : Nat) (w : World) (ho : w.ownsRow base 3 1 v x.hops.length (flat intE x.hops)) (hn : x.hops.length ≤ 1048576) :
    Calls Try.prog 43 #[.agg (lnC x v)] w fun e w' => ∃ v', e = .returned (.agg (lnC x v')) ∧ w'.ownsRow w.heap.size 3 1 v' x.hops.length (flat intE x.hops) ∧ Below w.heap.size w w' := by
  obtain ⟨va, vc, rfl⟩ := owns_lenS ho
  have HC := hide (fun W (hb : Below w.heap.size w W) => ownHops_any x.hops (.slice va x.hops.length vc) base W (owns_below ho hb (Nat.le_refl _)) hn)
  clear ho
  go_enter Try.func43, Try.ntmps43
  unfold lnC
  go_wp2_with fail
  have hb0 : Below w.heap.size w ((w.alloc (.cells #[.bool x.thing, .int .i64 x.to, .slice va x.hops.length vc] 51)).alloc (.cells #[.bool false, .int .i64 0, .slice none 0 0] 51)) := ((Below.refl w.heap.size w).alloc (by simp) _).alloc (by simp) _
  have q0 : ((w.alloc (.cells #[.bool x.thing, .int .i64 x.to, .slice va x.hops.length vc] 51)).alloc (.cells #[.bool false, .int .i64 0, .slice none 0 0] 51)).heap[w.heap.size]? = some (.cells #[.bool x.thing, .int .i64 x.to, .slice va x.hops.length vc] 51) := by
    rw [Below.heap_alloc _ _ _ (by simp), heap_alloc_new]
  have q1 : ((w.alloc (.cells #[.bool x.thing, .int .i64 x.to, .slice va x.hops.length vc] 51)).alloc (.cells #[.bool false, .int .i64 0, .slice none 0 0] 51)).heap[w.heap.size + 1]? = some (.cells #[.bool false, .int .i64 0, .slice none 0 0] 51) := by
    have e := heap_alloc_new (w.alloc (.cells #[.bool x.thing, .int .i64 x.to, .slice va x.hops.length vc] 51)) (.cells #[.bool false, .int .i64 0, .slice none 0 0] 51)
    rw [show (w.alloc (.cells #[.bool x.thing, .int .i64 x.to, .slice va x.hops.length vc] 51)).heap.size = w.heap.size + 1 by simp] at e
    exact e
  generalize ((w.alloc (.cells #[.bool x.thing, .int .i64 x.to, .slice va x.hops.length vc] 51)).alloc (.cells #[.bool false, .int .i64 0, .slice none 0 0] 51)) = w3 at *
  refine (HC.out _ hb0).mono ?_
  rintro e w4 ⟨v', rfl, hown', hb4'⟩
  obtain ⟨na, nc, rfl⟩ := owns_lenS hown'
  have hs1 := lt_of_heap q1
  have hb4 : Below w.heap.size w w4 := hb0.trans (hb4'.mono (by omega))
  have q0 := (hb4'.block _ (by omega)).trans q0
  have q1 := (hb4'.block _ hs1).trans q1
  have r2 := cells_at q0 2
  have f0 := frozen_at q0
  simp at r2
  have q2 := heap_setCell_same w4 w.heap.size 2 _ _ (.slice na x.hops.length nc) q0
  simp only [List.setIfInBounds_toArray, List.set_cons_zero, List.set_cons_succ] at q2
  have q3 : (w4.setCell ⟨w.heap.size, 2, none⟩ (.slice na x.hops.length nc)).heap[w.heap.size + 1]? = some (.cells #[.bool false, .int .i64 0, .slice none 0 0] 51) := by
    rw [heap_setCell_other w4 ⟨w.heap.size, 2, none⟩ _ _ (by show w.heap.size + 1 ≠ w.heap.size; omega)]; exact q1
  have y0 := cells_at q2 0
  have y1 := cells_at q2 1
  have y2 := cells_at q2 2
  simp at y0 y1 y2
  have u0 := cells_at q3 0
  have u1 := cells_at q3 1
  have u2 := cells_at q3 2
  simp at u0 u1 u2
  have fu := frozen_at q3
  have F := finL3 x (.slice na x.hops.length nc) q3
  have hown2 := owns_set (j := 2) (u := .slice na x.hops.length nc) hown' (show w.heap.size < w3.heap.size by omega)
  have G8 := grownL3 (w4.setCell ⟨w.heap.size, 2, none⟩ (.slice na x.hops.length nc)) (w.heap.size + 1) x (.slice na x.hops.length nc)
  have hown3 := owns_baseS (b0 := w.heap.size) (hown2.kept G8 (by
    cases hv : (Value.slice na x.hops.length nc).ownBlock with
    | none => exact .inl rfl
    | some g => exact .inr (fun e => by have := (hown2.lt g hv).1; simp at e; omega))) (by omega)
  have hb5 : Below w.heap.size w (putL3 (w4.setCell ⟨w.heap.size, 2, none⟩ (.slice na x.hops.length nc)) (w.heap.size + 1) x (.slice na x.hops.length nc)) := (hb4.setCell (p := ⟨w.heap.size, 2, none⟩) (Nat.le_refl _) _).grown G8 (by have := lt_of_heap q3; omega) (fun k hk => by simp at hk; omega)
  have FF := hide F
  have H3 := hide hown3
  have H5 := hide hb5
  clear F hown3 hb5 hown2 G8 hb4 hown' hb4' q0 q1 q2 q3 hb0 HC
  go_wp2_with fail
  (try simp only [Exit.inBlock, Exit.then])
  refine bodyPost_ret (results_cell_row rfl _ _ (w.heap.size + 1) 51 (lnC _ _) (0, 0) _ rfl FF.out Try.underlying51 rfl (by kernel_rfl)) rfl ?_
  exact ⟨_, rfl, H3.out, H5.out⟩

end Go.Proofs.Ytnpafmjfhglbhaa
namespace Go.Proofs.Ytnpafmjfhglbhaa
open Go.RowKit

theorem append_struct5 {α : Type} {enc : α → List Value} {sz bytes : Nat} (hlen : ∀ a, (enc a).length = sz) (hpos : 0 < sz) (hbb : bytes ≤ 100) {P : Program} (w : World) {ops : Array Oper} {rest : List Oper} {o : Oper} {a : Act} {Q : Exit → Act → World → Prop} (hgd : o.guard = none) (s x : Operand) (t : TypeId)
    (ho : o.op = .call { callee := .builtin .append, args := #[s, x], argTypes := #[t, t] }) (base : Nat) (e : TypeId) (ht : P.underlying t = some (.slice e)) (zv : Value) (hzv : zv.cells.size = sz)
    (hinfo : (P.info? e).map (fun i => (i.zero, i.size, i.bytes)) = some (some zv, sz, bytes))
    (v : Value) (l : List α) (y : α) (hone : ∀ u ∈ enc y, u.oneCell' = true) (hs : a.eval s = v) (hown : w.ownsRow base e sz v l.length (flat enc l))
    (ad : Addr) (c : Nat) (hx : a.eval x = .slice (some ad) 1 c) (hnews : ∀ j u, (enc y)[j]? = some u → w.cell? (ad.add j) = some u)
    (hl : l.length + 1 ≤ 1000000000) (hbase : base ≤ w.heap.size)
    (h : ∀ v' w', w'.ownsRow base e sz v' (l ++ [y]).length (flat enc (l ++ [y])) → w.grownBy w' v.ownBlock → wpList P ops Q rest (a.put o.dst v') w') : wpList P ops Q (o :: rest) a w := by
  obtain ⟨i0, hi, hz0, hz1, hz2⟩ := info_parts hinfo
  refine wpList_append_own w hgd s x t ho base e i0 zv sz bytes ht hi hz0 hz1 hz2 hzv hpos v l.length (flat enc l) hs hown ad 1 c (enc y) hx (by rw [hlen]; omega) hnews hone (by unfold maxLen; omega) ?_ hbase ?_
  · have : (l.length + 1) * bytes ≤ 1000000000 * 100 := Nat.mul_le_mul hl hbb
    omega
  · intro v' w' h1 h2 _
    have e1 : flat enc l ++ enc y = flat enc (l ++ [y]) := by rw [flat_append]; simp [flat]
    rw [e1] at h1
    exact h v' w' (by simpa using h1) h2

theorem encP_one (x : RecD) (a : Option Addr) (n c : Nat) : ∀ u ∈ encP (x, .slice a n c), u.oneCell' = true := by
  intro u hu
  simp only [encP, List.mem_cons, List.not_mem_nil, or_false] at hu
  rcases hu with rfl | rfl | rfl | rfl | rfl | rfl | rfl | rfl <;> rfl

theorem filter_take {ps : List RP} {k : Nat} {p : RP} (f : RecD → Bool) (h : ps[k]? = some p) : (fsts (ps.take (k + 1))).filter f = (fsts (ps.take k)).filter f ++ (if f p.1 then [p.1] else []) := by
  have e : fsts (ps.take (k + 1)) = fsts (ps.take k) ++ [p.1] := map_take h
  rw [e, List.filter_append]
  congr 1
  by_cases hf : f p.1 <;> simp [hf]
end Go.Proofs.Ytnpafmjfhglbhaa
namespace Go.Proofs.Ytnpafmjfhglbhaa
open Go.RowKit

theorem encJ_one (x : LnD) (a : Option Addr) (n c : Nat) : ∀ u ∈ encJ (x, .slice a n c), u.oneCell' = true := by
  intro u hu
  simp only [encJ, List.mem_cons, List.not_mem_nil, or_false] at hu
  rcases hu with rfl | rfl | rfl <;> rfl

theorem hop_row_neJ {W : World} {lo lo2 hi n size2 : Nat} {v : Value} {xs : List Value} {q : JP} (hq : LHopOwn W lo hi q) (hr : W.ownsRow lo2 51 size2 v n xs) (j : Nat) (hj : q.2.ownBlock = some j) : some j ≠ v.ownBlock := by
  intro e
  rcases hr.2 with ⟨h0, _⟩ | ⟨g, cap, cur, hv, _, hh, _⟩
  · rw [h0] at e; simp [Value.ownBlock] at e
  · rw [hv] at e
    simp [Value.ownBlock] at e
    subst e
    exact own_type_ne2 hq.1 hh (by decide) hj.symm

/-- one more way, its row behind all that was there -/
theorem LnsOwn.push {W Wa W2 : World} {lo : Nat} {v v' : Value} {qs : List JP} {p : JP} (h : LnsOwn W lo W.heap.size v qs) (hb : Below W.heap.size W Wa) (hlo : lo ≤ W.heap.size) (hp : LHopOwn Wa W.heap.size Wa.heap.size p)
    (row : W2.ownsRow lo 51 3 v' (qs.length + 1) (flat encJ (qs ++ [p]))) (hg : Wa.grownBy W2 v.ownBlock) : LnsOwn W2 lo W2.heap.size v' (qs ++ [p]) where
  row := by simpa using row
  top := fun k hk => (row.lt k hk).2
  apart := apartJ_add h.apart h.nears (fun k hk => (hp.1.lt k hk).1)
  nears := by
    have rowa := owns_below h.row hb (Nat.le_refl _)
    have key : ∀ q, LHopOwn Wa lo Wa.heap.size q → LHopOwn W2 lo W2.heap.size q := fun q hq =>
      ⟨owns_keepB hq.1 (fun j hj => hg.block j (hq.2 j hj) (hop_row_neJ hq rowa j hj)), fun k hk => Nat.lt_of_lt_of_le (hq.2 k hk) hg.size⟩
    intro q hq
    rcases List.mem_append.1 hq with h1 | h1
    · exact key q (((h.nears q h1).keep (W' := Wa) (fun j _ h2 _ => hb.block j h2)).wide (Nat.le_refl _) hb.size)
    · have : q = p := by simpa using h1
      subst this
      exact key q (hp.wide hlo (Nat.le_refl _))
end Go.Proofs.Ytnpafmjfhglbhaa
