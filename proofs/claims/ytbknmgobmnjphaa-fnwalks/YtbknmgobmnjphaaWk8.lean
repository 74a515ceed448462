/-
  spec.WayTo: its contract.
  impl.ownHops, ownWay, WayTo: their contracts.
  impl.hopsOfBoth, Together: their contracts.
  The best of several ways to one node, with the hops of all that are as short: determined by the set of the ways.
  What ways over a right store keep.
  Links and things as values; laws.toLink, toThing, eqLink, eqThing.
  Links and things in a row.
-/
import Derived.Test.YtbknmgobmnjphaaWk3
import Derived.Test.YtbknmgobmnjphaaWk7
import Derived.Test.YtbknmgobmnjphaaWk2
import Derived.Test.YtbknmgobmnjphaaWk6
import Derived.Test.YtbknmgobmnjphaaWk1
import Derived.Deep.QuietTactic
import Derived.BigQuiet
import Derived.Handy
namespace Go.Proofs.Ytbknmgobmnjphaa
open Go.RowKit

set_option linter.unusedSimpArgs false

theorem results_cell_row_tmpW {P : Program} {fn : Func} {p u : Tmp} {ty : TypeId} (h : fn.results = #[.cell p ty, .tmp u]) (tmps : Array Value) (w : World) (g : Nat) (t : TypeId) (cs : Array Value) (fr : Nat × Nat) (d : TypeDesc)
    (hp : tmps.getD p undef = .pointer (some ⟨g, 0, none⟩)) (hg : w.heap[g]? = some (.cells cs t fr))
    (hu : P.underlying ty = some d) (hd : (match d with | .struct _ | .array _ _ => true | _ => false) = true) (hi : (P.info? ty).map (·.size) = some cs.size) :
    (results fn tmps).run P w = .ok (.tuple #[.agg cs, tmps.getD u undef]) w := by
  have hp' : tmps[p]?.getD undef = .pointer (some ⟨g, 0, none⟩) := by simpa using hp
  rw [results_cell_tmp h]
  simp [hp', asAddr, run_loadVar_row w g t ty cs fr d hg hu hd hi]

/-- the first way to z -/
def wayToD (xs : List WayD) (z : Int) : WayD := (xs.find? (fun x => x.to == z)).getD zeroWD

def wayToB (xs : List WayD) (z : Int) : Bool := (xs.find? (fun x => x.to == z)).isSome

theorem wayTo_hit {ps : List WP} {k : Nat} {p : WP} {z : Int} (h : ps[k]? = some p) (hno : ∀ q ∈ ps.take k, q.1.to ≠ z) (hz : p.1.to = z) : wayToD (fstsW ps) z = p.1 ∧ wayToB (fstsW ps) z = true := by
  have e : (fstsW ps).find? (fun x => x.to == z) = some p.1 := by
    have h1 := fstsW_at h
    obtain ⟨hk, e1⟩ := List.getElem?_eq_some_iff.1 h1
    rw [List.find?_eq_some_iff_append]
    refine ⟨by simpa using hz, (fstsW ps).take k, (fstsW ps).drop (k + 1), ?_, ?_⟩
    · rw [← e1, ← List.drop_eq_getElem_cons hk, List.take_append_drop]
    · intro x hx
      have e2 : (fstsW ps).take k = fstsW (ps.take k) := by simp [fstsW]
      rw [e2] at hx
      simp only [fstsW, List.mem_map] at hx
      obtain ⟨q, hq, rfl⟩ := hx
      simpa using hno q hq
  unfold wayToD wayToB
  rw [e]
  exact ⟨rfl, rfl⟩

theorem wayTo_none {ps : List WP} {z : Int} (hno : ∀ q ∈ ps, q.1.to ≠ z) : wayToD (fstsW ps) z = zeroWD ∧ wayToB (fstsW ps) z = false := by
  have e : (fstsW ps).find? (fun x => x.to == z) = none := by
    rw [List.find?_eq_none]
    intro x hx
    simp only [fstsW, List.mem_map] at hx
    obtain ⟨q, hq, rfl⟩ := hx
    simpa using hno q hq
  unfold wayToD wayToB
  rw [e]
  exact ⟨rfl, rfl⟩

theorem take_all {ps : List WP} {k : Nat} {p : WP} {z : Int} (h : ps[k]? = some p) (hno : ∀ q ∈ ps.take k, q.1.to ≠ z) (hz : p.1.to ≠ z) : ∀ q ∈ ps.take (k + 1), q.1.to ≠ z := by
  obtain ⟨hk, e⟩ := List.getElem?_eq_some_iff.1 h
  rw [List.take_succ_eq_append_getElem hk, e]
  intro q hq
  rcases List.mem_append.1 hq with h1 | h1
  · exact hno q h1
  · have : q = p := by simpa using h1
    subst this
    exact hz

set_option maxRecDepth 100000 in
set_option maxHeartbeats 2000000 in
theorem swayTo_any (v : Value) (ps : List WP) (lo hi : Nat) (z : Int) (w : World) (hv : WaysOwn w lo hi v ps) (hhi : hi ≤ w.heap.size) (hn : totW ps ≤ 1048576) :
    Calls Try.prog 51 #[v, .int .i64 z] w fun e w' => ∃ u, e = .returned (.tuple #[.agg (wayC (wayToD (fstsW ps) z) u), .bool (wayToB (fstsW ps) z)]) ∧ w'.ownsRow w.heap.size 3 1 u (wayToD (fstsW ps) z).hops.length (flat intE (wayToD (fstsW ps) z).hops) ∧ Below w.heap.size w w' := by
  have hnl := totW_len ps
  obtain ⟨D, hD⟩ : ∃ D, D = wayToD (fstsW ps) z := ⟨_, rfl⟩
  obtain ⟨F, hF⟩ : ∃ F, F = wayToB (fstsW ps) z := ⟨_, rfl⟩
  rw [← hD, ← hF]
  have HD := hide hD
  have HF := hide hF
  clear hD hF
  obtain ⟨a1, c1, rfl⟩ := owns_lenS hv.row
  have HV := hide hv
  clear hv
  have BX : Below w.heap.size w (w.alloc (.cells #[.int .i64 0, .int .i64 0, .slice none 0 0] 79)) := (Below.refl _ _).alloc (Nat.le_refl _) _
  have hq := heap_alloc_new w (.cells #[.int .i64 0, .int .i64 0, .slice none 0 0] 79)
  obtain ⟨w0, hw0⟩ : ∃ W, W = w.alloc (.cells #[.int .i64 0, .int .i64 0, .slice none 0 0] 79) := ⟨_, rfl⟩
  rw [← hw0] at BX hq
  have hs0 := lt_of_heap hq
  have HQ := hide hq
  clear hq
  unfold wayC
  go_enter Try.func51, Try.ntmps51
  go_wp2
  rw [← hw0]
  clear hw0
  go_loopw [6] (fun i wr => ∃ k : Nat, k ≤ ps.length ∧ i = .int .i64 k ∧ Hid (∀ q ∈ ps.take k, q.1.to ≠ z) ∧ Below w0.heap.size w0 wr) (fun i _ => ps.length - (intOf i).toNat)
  case atStart => exact ⟨0, by omega, rfl, hide (by simp), Below.refl _ _⟩
  case round =>
    obtain ⟨k, hk, rfl, HNO, hnx⟩ := hrel
    have hsz := hnx.size
    have BWR : Below w.heap.size w wr := BX.trans (hnx.mono (by omega))
    have hz1 := (hnx.block _ hs0).trans HQ.out
    by_cases hlt : k < ps.length
    · obtain ⟨p, hp⟩ : ∃ p, ps[k]? = some p := ⟨ps[k], List.getElem?_eq_getElem hlt⟩
      obtain ⟨b, off, cp, hve, hbb, c0, c1, c2, _⟩ := HV.out.at.cells k p hp
      cases hve
      have hbw : b < w.heap.size := by omega
      have hno := HV.out.nears p (List.mem_of_getElem? hp)
      obtain ⟨pa, pc, hpn⟩ := owns_lenS hno.1
      have HCP := hide (fun W (hb : Below w.heap.size w W) => copyW_any p.1 p.2 lo W (owns_below hno.1 hb (Nat.le_refl _)) (by have := totW_mem (List.mem_of_getElem? hp); omega))
      unfold wayC at HCP
      rw [hpn] at c2 HCP
      rw [← BWR.cell (p := ⟨b, off + k * 3, none⟩) hbw] at c0
      rw [← BWR.cell (p := ⟨b, off + k * 3 + 1, none⟩) hbw] at c1
      rw [← BWR.cell (p := ⟨b, off + k * 3 + 2, none⟩) hbw] at c2
      have hki : (0 : Int) ≤ (k : Int) := by omega
      have hkj : (k : Int) < (ps.length : Int) := by omega
      by_cases hzz : p.1.to = z
      · have hh := wayTo_hit hp HNO.out hzz
        have hDe : D = p.1 := HD.out.trans hh.1
        have hFe : F = true := HF.out.trans hh.2
        subst hDe hFe
        subst hzz
        clear hp hno hpn hh
        go_wp2_with fail
        refine (HCP.out _ BWR).mono ?_
        rintro e w2 ⟨v1, rfl, hn2, b2⟩
        obtain ⟨na, nc, rfl⟩ := owns_lenS hn2
        have b2s := b2.size
        have hz2 := (b2.block _ (lt_of_heap hz1)).trans hz1
        have u0 := cells_at hz2 0
        have u1 := cells_at hz2 1
        have u2 := cells_at hz2 2
        simp at u0 u1 u2
        have fu := frozen_at hz2
        have FF := hide (finW3 p.1 (.slice na p.1.hops.length nc) hz2)
        have G8 := grownW3 w2 w.heap.size p.1 (.slice na p.1.hops.length nc)
        have O3 := hide (owns_baseS (b0 := w.heap.size) (hn2.kept G8 (by
          cases hv : (Value.slice na p.1.hops.length nc).ownBlock with
          | none => exact .inl rfl
          | some g => exact .inr (fun e => by have := (hn2.lt g hv).1; simp at e; omega))) (by omega))
        have B2 : Below w.heap.size w w2 := BWR.trans (b2.mono (by omega))
        have BF := hide (B2.grown G8 B2.size (fun k hk => by simp at hk; omega))
        clear hz2 hn2 b2 G8 hz1
        go_wp2_with fail
        (try simp only [Exit.inBlock, Exit.then])
        refine bodyPost_ret (results_cell_row_tmpW rfl _ _ w.heap.size 79 (wayC p.1 (.slice na p.1.hops.length nc)) (0, 0) _ rfl FF.out Try.underlying79 rfl (by kernel_rfl)) rfl ?_
        exact ⟨_, rfl, O3.out, BF.out⟩
      · have HN := hide (take_all hp HNO.out hzz)
        have hd : (p.1.to == z) = false := by simpa using hzz
        clear hp hno hpn hz1
        go_wp2
        go_roundw
        case rel => exact ⟨k + 1, by omega, by go_num, HN, hnx⟩
        case measure => simp [intOf]; omega
    · have hh := wayTo_none (ps := ps) (z := z) (by have h := HNO.out; rw [List.take_of_length_le (by omega)] at h; exact h)
      have hDe : D = zeroWD := HD.out.trans hh.1
      have hFe : F = false := HF.out.trans hh.2
      subst hDe hFe
      have u0 := cells_at hz1 0
      have u1 := cells_at hz1 1
      have u2 := cells_at hz1 2
      simp at u0 u1 u2
      have fu := frozen_at hz1
      have FF := hide (finW3 zeroWD (.slice none 0 0) hz1)
      have G8 := hide (grownW3 wr w.heap.size zeroWD (.slice none 0 0))
      clear hz1 hh
      go_wp2_with fail
      (try simp only [Exit.inBlock, Exit.then])
      refine bodyPost_ret (results_cell_row_tmpW rfl _ _ w.heap.size 79 (wayC zeroWD (.slice none 0 0)) (0, 0) _ rfl FF.out Try.underlying79 rfl (by kernel_rfl)) rfl ?_
      exact ⟨.slice none 0 0, rfl, World.ownsRow_nil _ _ _ _, BWR.grown G8.out BWR.size (fun k hk => by simp at hk; omega)⟩
end Go.Proofs.Ytbknmgobmnjphaa
namespace Go.Proofs.Ytbknmgobmnjphaa
open Go.RowKit

set_option linter.unusedSimpArgs false

set_option maxRecDepth 100000 in
set_option maxHeartbeats 1000000 in
theorem ownHops_any (l : List Int) (v : Value) (base : Nat) (w : World) (ho : w.ownsRow base 3 1 v l.length (flat intE l)) (hn : l.length ≤ 1048576) :
    Calls Try.prog 62 #[v] w fun e w' => ∃ v', e = .returned v' ∧ w'.ownsRow w.heap.size 3 1 v' l.length (flat intE l) ∧ Below w.heap.size w w' := by
  obtain ⟨va, vc, rfl⟩ := owns_lenS ho
  have OW := hide ho
  clear ho
  go_enter Try.func62, Try.ntmps62
  go_wp2_with (first
    | (at_builtin; refine append_row5 int_flat1 (by omega) intE_one (by omega) _ rfl _ _ 39 rfl w.heap.size 3 Try.underlying39 (.int .i64 0) rfl Try.info3 _ [] rfl (World.ownsRow_nil _ _ _ _) base _ l rfl OW.out (by simp; omega) (by simp) ?_))
  intro v' w4 hown' hgrow
  obtain ⟨na, nc, rfl⟩ := owns_lenS hown'
  simp only [Value.ownBlock] at hgrow
  have hb4 := hide (show Below w.heap.size w w4 from (Below.refl w.heap.size w).grown hgrow (Nat.le_refl _) (fun k hk => by simp at hk))
  have H1 := hide hown'
  clear hown' hgrow
  go_wp2
  go_ret
  exact ⟨_, rfl, by simpa using H1.out, hb4.out⟩

end Go.Proofs.Ytbknmgobmnjphaa
namespace Go.Proofs.Ytbknmgobmnjphaa
open Go.RowKit

set_option linter.unusedSimpArgs false

/-- what impl.Together makes of two ways -/
def togI (x y : WayD) : WayD := if betterB x y then x else if betterB y x then y else ⟨x.to, x.cost, hopsI x.hops y.hops⟩

end Go.Proofs.Ytbknmgobmnjphaa
namespace Go.Proofs.Ytbknmgobmnjphaa
open Go.RowKit

/-- hops are nodes -/
def Hop6 (l : List Int) : Prop := ∀ z ∈ l, 1 ≤ z ∧ z ≤ 6

/-- a way as it is told -/
structure GoodW (x : WayD) : Prop where
  node : 1 ≤ x.to ∧ x.to ≤ 6
  cost : 0 ≤ x.cost ∧ x.cost ≤ 60000
  asc : x.hops.Pairwise (· < ·)
  hop6 : Hop6 x.hops

theorem asc_len_from : ∀ {l : List Int} {a : Int}, l.Pairwise (· < ·) → (∀ z ∈ l, a ≤ z ∧ z ≤ 6) → (l.length : Int) ≤ 7 - a ∨ l = []
  | [], _, _, _ => .inr rfl
  | x :: xs, a, h, hr => by
    have h' := List.pairwise_cons.1 h
    have hx := hr x (by simp)
    rcases asc_len_from (a := x + 1) h'.2 (fun z hz => ⟨by have := h'.1 z hz; omega, (hr z (by simp [hz])).2⟩) with h1 | h1
    · left; simp; omega
    · left; subst h1; simp; omega

theorem asc6_len {l : List Int} (h : l.Pairwise (· < ·)) (h6 : Hop6 l) : l.length ≤ 6 := by
  rcases asc_len_from (a := 1) h h6 with h1 | h1
  · omega
  · subst h1; simp

theorem GoodW.len {x : WayD} (h : GoodW x) : x.hops.length ≤ 6 := asc6_len h.asc h.hop6

/-- a list of ways, ascending -/
def AscW (ds : List WayD) : Prop := ds.Pairwise (fun x y => x.to < y.to)

theorem ascW_ext : ∀ {a b : List WayD}, AscW a → AscW b → (∀ x, x ∈ a ↔ x ∈ b) → a = b
  | [], [], _, _, _ => rfl
  | [], y :: ys, _, _, h => by have := (h y).2 (by simp); cases this
  | x :: xs, [], _, _, h => by have := (h x).1 (by simp); cases this
  | x :: xs, y :: ys, ha, hb, h => by
    have ha' := List.pairwise_cons.1 ha
    have hb' := List.pairwise_cons.1 hb
    have hxy : x = y := by
      have h1 := (h x).1 (by simp)
      have h2 := (h y).2 (by simp)
      rcases List.mem_cons.1 h1 with e | e
      · exact e
      · rcases List.mem_cons.1 h2 with e2 | e2
        · exact e2.symm
        · have := ha'.1 y e2; have := hb'.1 x e; omega
    subst hxy
    have : xs = ys := by
      refine ascW_ext ha'.2 hb'.2 (fun z => ?_)
      have hz := h z
      constructor
      · intro hm
        have h1 := hz.1 (List.mem_cons_of_mem _ hm)
        rcases List.mem_cons.1 h1 with e | e
        · have := ha'.1 z hm; subst e; omega
        · exact e
      · intro hm
        have h1 := hz.2 (List.mem_cons_of_mem _ hm)
        rcases List.mem_cons.1 h1 with e | e
        · have := hb'.1 z hm; subst e; omega
        · exact e
    rw [this]

theorem findW_some {ds : List WayD} {to : Int} {w : WayD} (h : findW ds to = some w) : w ∈ ds ∧ w.to = to := by
  unfold findW at h
  exact ⟨List.mem_of_find?_eq_some h, by have := List.find?_some h; simpa using this⟩

theorem findW_none {ds : List WayD} {to : Int} (h : findW ds to = none) : ∀ w ∈ ds, w.to ≠ to := by
  unfold findW at h
  rw [List.find?_eq_none] at h
  intro w hw
  simpa using h w hw

theorem ascW_same {ds : List WayD} (h : AscW ds) {x y : WayD} (hx : x ∈ ds) (hy : y ∈ ds) (e : x.to = y.to) : x = y := by
  induction ds with
  | nil => cases hx
  | cons a ds ih =>
    have h' := List.pairwise_cons.1 h
    rcases List.mem_cons.1 hx with e1 | e1
    · rcases List.mem_cons.1 hy with e2 | e2
      · rw [e1, e2]
      · have := h'.1 y e2; subst e1; omega
    · rcases List.mem_cons.1 hy with e2 | e2
      · have := h'.1 x e1; subst e2; omega
      · exact ih h'.2 e1 e2

theorem findW_of {ds : List WayD} (h : AscW ds) {w : WayD} (hw : w ∈ ds) : findW ds w.to = some w := by
  cases e : findW ds w.to with
  | none => exact absurd rfl (findW_none e w hw)
  | some x =>
    have h1 := findW_some e
    rw [ascW_same h h1.1 hw h1.2]

/-- lists that tell of the same ways -/
theorem ascW_find {a b : List WayD} (ha : AscW a) (hb : AscW b) (h : ∀ to, findW a to = findW b to) : a = b := by
  refine ascW_ext ha hb (fun x => ⟨fun hx => ?_, fun hx => ?_⟩)
  · have := findW_of ha hx
    rw [h] at this
    exact (findW_some this).1
  · have := findW_of hb hx
    rw [← h] at this
    exact (findW_some this).1

/-- of the ways S to a node: the best, with the hops of all that are as short -/
def BestOf (to : Int) (S : WayD → Prop) : Option WayD → Prop
  | none => ∀ w, ¬ S w
  | some b => b.to = to ∧ (∃ w, S w ∧ w.cost = b.cost) ∧ (∀ w, S w → b.cost ≤ w.cost) ∧ b.hops.Pairwise (· < ·) ∧ ∀ x, x ∈ b.hops ↔ ∃ w, S w ∧ w.cost = b.cost ∧ x ∈ w.hops

theorem BestOf.unique {to : Int} {S : WayD → Prop} {o o' : Option WayD} (h : BestOf to S o) (h' : BestOf to S o') : o = o' := by
  cases o with
  | none =>
    cases o' with
    | none => rfl
    | some b =>
      obtain ⟨_, ⟨w, hw, _⟩, _⟩ := h'
      exact absurd hw (h w)
  | some a =>
    cases o' with
    | none =>
      obtain ⟨_, ⟨w, hw, _⟩, _⟩ := h
      exact absurd hw (h' w)
    | some b =>
      obtain ⟨h1, ⟨w, hw, e1⟩, h3, h4, h5⟩ := h
      obtain ⟨k1, ⟨v, hv, e2⟩, k3, k4, k5⟩ := h'
      have hc : a.cost = b.cost := by
        have := h3 v hv
        have := k3 w hw
        omega
      have hh : a.hops = b.hops := asc_ext h4 k4 (fun x => by rw [h5, k5, hc])
      cases a; cases b
      simp at *
      exact ⟨by rw [h1, k1], hc, hh⟩

theorem BestOf.congr {to : Int} {S T : WayD → Prop} {o : Option WayD} (h : BestOf to S o) (e : ∀ w, S w ↔ T w) : BestOf to T o := by
  have : S = T := funext fun w => propext (e w)
  rw [← this]
  exact h

/-- two ways to one node, Together -/
def TogOk (tog : WayD → WayD → WayD) : Prop := ∀ x y : WayD, Hop6 x.hops → Hop6 y.hops → (x.cost < y.cost → tog x y = x) ∧ (y.cost < x.cost → tog x y = y) ∧
  (x.cost = y.cost → (tog x y).to = x.to ∧ (tog x y).cost = x.cost ∧ (tog x y).hops.Pairwise (· < ·) ∧ ∀ z, z ∈ (tog x y).hops ↔ z ∈ x.hops ∨ z ∈ y.hops)

theorem togOk_D : TogOk togD := by
  intro x y hx hy
  unfold togD betterB
  refine ⟨fun h => by simp [h], fun h => ?_, fun h => ?_⟩
  · rw [if_neg (by simp; omega), if_pos (by simpa using h)]
  · rw [if_neg (by simp; omega), if_neg (by simp; omega)]
    refine ⟨rfl, rfl, addL_asc _ _, fun z => ?_⟩
    show z ∈ addL x.hops y.hops ↔ _
    rw [addL_mem]
    constructor
    · exact fun h => h.2.2
    · rintro (h1 | h1)
      · exact ⟨(hx z h1).1, (hx z h1).2, .inl h1⟩
      · exact ⟨(hy z h1).1, (hy z h1).2, .inr h1⟩

theorem togOk_I : TogOk togI := by
  intro x y hx hy
  unfold togI betterB
  refine ⟨fun h => by simp [h], fun h => ?_, fun h => ?_⟩
  · rw [if_neg (by simp; omega), if_pos (by simpa using h)]
  · rw [if_neg (by simp; omega), if_neg (by simp; omega)]
    exact ⟨rfl, rfl, hopsI_asc _ _, fun z => hopsI_mem⟩

theorem BestOf.hop6 {to : Int} {S : WayD → Prop} {b : WayD} (h : BestOf to S (some b)) (hS : ∀ w, S w → Hop6 w.hops) : Hop6 b.hops := by
  intro z hz
  obtain ⟨w, hw, _, hm⟩ := (h.2.2.2.2 z).1 hz
  exact hS w hw z hm

/-- one way more -/
theorem BestOf.add {tog : WayD → WayD → WayD} (ht : TogOk tog) {to : Int} {S : WayD → Prop} {o : Option WayD} {w : WayD} (h : BestOf to S o) (hS : ∀ w, S w → Hop6 w.hops) (hto : w.to = to) (hasc : w.hops.Pairwise (· < ·)) (h6 : Hop6 w.hops) : BestOf to (fun x => S x ∨ x = w) (moreW tog o (some w)) := by
  cases o with
  | none =>
    refine ⟨hto, ⟨w, .inr rfl, rfl⟩, fun x hx => ?_, hasc, fun x => ⟨fun hx => ⟨w, .inr rfl, rfl, hx⟩, ?_⟩⟩
    · rcases hx with h1 | rfl
      · exact absurd h1 (h x)
      · exact Int.le_refl _
    · rintro ⟨v, h1 | rfl, _, hm⟩
      · exact absurd h1 (h v)
      · exact hm
  | some b =>
    have hb6 := h.hop6 hS
    obtain ⟨h1, ⟨u, hu, e1⟩, h3, h4, h5⟩ := h
    obtain ⟨t1, t2, t3⟩ := ht b w hb6 h6
    show BestOf to _ (some (tog b w))
    rcases Int.lt_trichotomy b.cost w.cost with hl | hl | hl
    · rw [t1 hl]
      refine ⟨h1, ⟨u, .inl hu, e1⟩, fun x hx => ?_, h4, fun x => ?_⟩
      · rcases hx with hx | rfl
        · exact h3 x hx
        · omega
      · rw [h5]
        constructor
        · rintro ⟨v, hv, e, hm⟩
          exact ⟨v, .inl hv, e, hm⟩
        · rintro ⟨v, hv | rfl, e, hm⟩
          · exact ⟨v, hv, e, hm⟩
          · omega
    · obtain ⟨s1, s2, s3, s4⟩ := t3 hl
      refine ⟨by rw [s1, h1], ⟨w, .inr rfl, by rw [s2, hl]⟩, fun x hx => ?_, s3, fun x => ?_⟩
      · rw [s2]
        rcases hx with hx | rfl
        · exact h3 x hx
        · omega
      · rw [s4, h5, s2]
        constructor
        · rintro (⟨v, hv, e, hm⟩ | hm)
          · exact ⟨v, .inl hv, e, hm⟩
          · exact ⟨w, .inr rfl, hl.symm, hm⟩
        · rintro ⟨v, hv | rfl, e, hm⟩
          · exact .inl ⟨v, hv, e, hm⟩
          · exact .inr hm
    · rw [t2 hl]
      refine ⟨hto, ⟨w, .inr rfl, rfl⟩, fun x hx => ?_, hasc, fun x => ⟨fun hx => ⟨w, .inr rfl, rfl, hx⟩, ?_⟩⟩
      · rcases hx with hx | rfl
        · have := h3 x hx; omega
        · exact Int.le_refl _
      · rintro ⟨v, hv | rfl, e, hm⟩
        · have := h3 v hv; omega
        · exact hm

/-- a best way is a way as it is told -/
theorem BestOf.good {to : Int} {S : WayD → Prop} {b : WayD} (h : BestOf to S (some b)) (hS : ∀ w, S w → GoodW w ∧ w.to = to) : GoodW b := by
  have h6 := h.hop6 (fun w hw => (hS w hw).1.hop6)
  obtain ⟨h1, ⟨u, hu, e1⟩, h3, h4, h5⟩ := h
  have hg := hS u hu
  exact ⟨by rw [h1, ← hg.2]; exact hg.1.node, by rw [← e1]; exact hg.1.cost, h4, h6⟩

/-- an ascending list of ways that is told by sets of ways -/
def IsBest (S : Int → WayD → Prop) (ds : List WayD) : Prop := AscW ds ∧ ∀ to, BestOf to (S to) (findW ds to)

theorem IsBest.unique {S : Int → WayD → Prop} {a b : List WayD} (ha : IsBest S a) (hb : IsBest S b) : a = b :=
  ascW_find ha.1 hb.1 (fun to => (ha.2 to).unique (hb.2 to))

theorem IsBest.congr {S T : Int → WayD → Prop} {a : List WayD} (ha : IsBest S a) (e : ∀ to w, S to w ↔ T to w) : IsBest T a :=
  ⟨ha.1, fun to => (ha.2 to).congr (e to)⟩

theorem IsBest.good {S : Int → WayD → Prop} {ds : List WayD} (h : IsBest S ds) (hS : ∀ to w, S to w → GoodW w ∧ w.to = to) : ∀ w ∈ ds, GoodW w := by
  intro w hw
  have h1 := h.2 w.to
  rw [findW_of h.1 hw] at h1
  exact h1.good (hS w.to)

theorem asc_tos {ds : List WayD} (h : AscW ds) (hg : ∀ w ∈ ds, 1 ≤ w.to ∧ w.to ≤ 6) : ds.length ≤ 6 := by
  have h1 : (ds.map (·.to)).Pairwise (· < ·) := by rw [List.pairwise_map]; exact h
  have := asc6_len h1 (fun z hz => by
    obtain ⟨w, hw, rfl⟩ := List.mem_map.1 hz
    exact hg w hw)
  simpa using this

/-- one way more in a list -/
theorem IsBest.put {tog : WayD → WayD → WayD} (ht : TogOk tog) {S : Int → WayD → Prop} {ds es : List WayD} {w : WayD} (h : IsBest S ds) (hS : ∀ to w, S to w → GoodW w ∧ w.to = to) (hw : GoodW w) (he : AscW es) (hf : ∀ to, findW es to = if to = w.to then moreW tog (findW ds to) (some w) else findW ds to) : IsBest (fun to x => S to x ∨ (x = w ∧ w.to = to)) es := by
  refine ⟨he, fun to => ?_⟩
  rw [hf]
  by_cases e : to = w.to
  · rw [if_pos e]
    refine ((h.2 to).add ht (fun v hv => (hS to v hv).1.hop6) e.symm hw.asc hw.hop6).congr (fun x => ?_)
    constructor
    · rintro (h1 | h1)
      · exact .inl h1
      · exact .inr ⟨h1, e.symm⟩
    · rintro (h1 | h1)
      · exact .inl h1
      · exact .inr h1.1
  · rw [if_neg e]
    refine (h.2 to).congr (fun x => ⟨.inl, ?_⟩)
    rintro (h1 | h1)
    · exact h1
    · exact absurd h1.2.symm e

/-- what a search tells, member by member -/
theorem coll_mem {c : Nat → Int} {h : Nat → List Int} {w : WayD} : ∀ k : Nat, w ∈ collT c h k ↔ ∃ v : Nat, 1 ≤ v ∧ v ≤ k ∧ 0 ≤ c v ∧ w = ⟨(v : Int), c v, h v⟩
  | 0 => by simp [collT]; omega
  | k + 1 => by
    have ih := coll_mem (c := c) (h := h) (w := w) k
    rw [coll_step c h (by omega)]
    simp only [Nat.add_sub_cancel, List.mem_append]
    rw [ih]
    constructor
    · rintro (⟨v, h1, h2, h3⟩ | h4)
      · exact ⟨v, h1, by omega, h3⟩
      · split at h4
        · rename_i h0
          exact ⟨k + 1, by omega, by omega, h0, by simpa using h4⟩
        · simp at h4
    · rintro ⟨v, h1, h2, h3, h4⟩
      by_cases e : v = k + 1
      · subst e
        right
        rw [if_pos h3, h4]
        simp
      · exact .inl ⟨v, h1, by omega, h3, h4⟩

theorem coll_asc (c : Nat → Int) (h : Nat → List Int) : ∀ k : Nat, AscW (collT c h k)
  | 0 => by simp [collT, AscW]
  | k + 1 => by
    have ih := coll_asc c h k
    rw [coll_step c h (by omega)]
    simp only [Nat.add_sub_cancel]
    unfold AscW
    rw [List.pairwise_append]
    refine ⟨ih, by split <;> simp, fun a ha b hb => ?_⟩
    obtain ⟨v, h1, h2, _, rfl⟩ := (coll_mem k).1 ha
    split at hb
    · have hb' : b = ⟨((k + 1 : Nat) : Int), c (k + 1), h (k + 1)⟩ := by simpa using hb
      subst hb'
      show (v : Int) < ((k + 1 : Nat) : Int)
      omega
    · simp at hb

theorem card_mono {F G : Nat → Bool} (h : ∀ u, F u = true → G u = true) : cardF F ≤ cardF G := by
  have h1 : ∀ u, (F u).toNat ≤ (G u).toNat := fun u => by
    cases e : F u
    · simp
    · rw [h u e]; exact Nat.le_refl _
  unfold cardF
  have := h1 1; have := h1 2; have := h1 3; have := h1 4; have := h1 5; have := h1 6
  omega

/-- no way costs more than six links -/
theorem Fix.bound {L : Nat → Nat → Int} {src : Nat} {c : Nat → Int} {h : Nat → List Int} (A : Fix L src c h) (hL : Links L 1000) : ∀ (n v : Nat), 0 ≤ c v → (c v).toNat ≤ n → c v ≤ 1000 * (cardF (fun x => decide (0 ≤ c x ∧ c x < c v)) : Int) := by
  obtain ⟨F, I, hF⟩ := A
  intro n
  induction n with
  | zero =>
    intro v h0 hn
    have : c v = 0 := by omega
    omega
  | succ n ih =>
    intro v h0 hn
    by_cases hv : v = src
    · subst hv; rw [I.start]; omega
    · obtain ⟨u, hu, hl, hc⟩ := I.pred v hv h0
      have h1 := (I.fnode u hu).2
      have h2 := ih u h1 (by omega)
      have hle := hL.le u v
      have hcard : cardF (fun x => decide (0 ≤ c x ∧ c x < c u)) + 1 ≤ cardF (fun x => decide (0 ≤ c x ∧ c x < c v)) := by
        rw [← card_add (F := fun x => decide (0 ≤ c x ∧ c x < c u)) (u := u) (I.fnode u hu).1 (by simp)]
        refine card_mono (fun x hx => ?_)
        simp only [Bool.or_eq_true, decide_eq_true_eq, beq_iff_eq] at hx ⊢
        rcases hx with hx | rfl
        · omega
        · omega
      omega

theorem Fix.bound6 {L : Nat → Nat → Int} {src : Nat} {c : Nat → Int} {h : Nat → List Int} (A : Fix L src c h) (hL : Links L 1000) (v : Nat) (h0 : 0 ≤ c v) : c v ≤ 6000 := by
  have h1 := A.bound hL _ v h0 (Nat.le_refl _)
  have h2 := card_le (fun x => decide (0 ≤ c x ∧ c x < c v))
  omega

/-- what WaysIn tells is in order, and each is a way as it is told -/
theorem IsWays.asc {xs : List RecD} {area src : Int} {ds : List WayD} (h : IsWays xs area src ds) : AscW ds ∧ ∀ w ∈ ds, GoodW w ∧ w.cost ≤ 6000 := by
  unfold IsWays at h
  split at h
  · rename_i e
    have hst : storeB xs = true := by
      simp only [Bool.and_eq_true] at e
      exact e.1.1
    obtain ⟨c, g, A, rfl⟩ := h
    refine ⟨coll_asc c g 6, fun w hw => ?_⟩
    obtain ⟨v, h1, h2, h3, rfl⟩ := (coll_mem 6).1 hw
    have hb := A.bound6 (linkN_links hst) v h3
    obtain ⟨F, I, _⟩ := A
    exact ⟨⟨⟨by show 1 ≤ (v : Int); omega, by show (v : Int) ≤ 6; omega⟩, ⟨h3, by show c v ≤ 60000; omega⟩, I.asc v, fun z hz => I.rng v z hz⟩, hb⟩
  · subst h
    exact ⟨by simp [AscW], by simp⟩

theorem waysD_asc (xs : List RecD) (area src : Int) : AscW (waysD xs area src) ∧ ∀ w ∈ waysD xs area src, GoodW w ∧ w.cost ≤ 6000 := by
  by_cases h : ∃ ds, IsWays xs area src ds
  · obtain ⟨ds, hd⟩ := h
    rw [← hd.eq]
    exact hd.asc
  · unfold waysD
    rw [dif_neg h]
    exact ⟨by simp [AscW], by simp⟩

/-- how many numbers there are in such a list -/
theorem good_tot {ps : List WP} (hl : ps.length ≤ 6) (hg : ∀ w ∈ fstsW ps, w.hops.length ≤ 6) : totW ps ≤ 42 := by
  have : ∀ qs : List WP, (∀ w ∈ fstsW qs, w.hops.length ≤ 6) → totW qs ≤ 7 * qs.length := by
    intro qs
    induction qs with
    | nil => intro _; simp [totW]
    | cons q qs ih =>
      intro h
      rw [totW_cons, List.length_cons]
      have h1 := h q.1 (by simp [fstsW])
      have h2 := ih (fun w hw => h w (by simp only [fstsW, List.map_cons, List.mem_cons] at hw ⊢; exact .inr hw))
      omega
  have := this ps hg
  omega
end Go.Proofs.Ytbknmgobmnjphaa
namespace Go.Proofs.Ytbknmgobmnjphaa
open Go.RowKit

theorem tells_told {xs : List RecD} (h : storeB xs = true) (area a b : Int) : tellsD xs area a b = (toldD xs area a b).getD 0 := by
  rw [told_right h]
  unfold tellsD tellsN
  cases (nodeD xs area a).near.find? (fun n => n.to == b) <;> rfl

theorem told_pos {xs : List RecD} (h : storeB xs = true) {area a b c : Int} (hc : toldD xs area a b = some c) : 0 < c := by
  rw [told_right h] at hc
  obtain ⟨n, hn, rfl⟩ := Option.map_eq_some_iff.1 hc
  have := node_near (area := area) (node := a) h n (List.mem_of_find?_eq_some hn)
  omega

/-- the specification's and the program's links are the same over a right store -/
theorem linkedD_right {xs : List RecD} (h : storeB xs = true) (area : Int) {u v : Nat} (hu : 1 ≤ u ∧ u ≤ 6) (hv : 1 ≤ v ∧ v ≤ 6) : linkedD xs area (u : Int) (v : Int) = linkN xs area u v := by
  rw [← linked_right h area hu hv]
  unfold linkedD linkedI
  rw [tells_told h, tells_told h]
  cases e : toldD xs area (v : Int) (u : Int) with
  | none => simp
  | some c =>
    have := told_pos h e
    simp only [Option.getD_some]
    rw [if_neg (by omega)]
    cases toldD xs area (u : Int) (v : Int) <;> rfl

theorem link_node {xs : List RecD} (h : storeB xs = true) {area : Int} {u v : Nat} (hl : 0 < linkN xs area v u) : nodeB xs area (u : Int) = true := by
  have hr : (1 ≤ v ∧ v ≤ 6) ∧ (1 ≤ u ∧ u ≤ 6) := by
    unfold linkN at hl
    split at hl
    · assumption
    · omega
  rw [← linkedD_right h area hr.1 hr.2] at hl
  unfold linkedD at hl
  split at hl
  · omega
  · rename_i hne
    unfold tellsD at hne
    cases hb : nodeB xs area (u : Int) with
    | true => rfl
    | false =>
      exfalso
      apply hne
      have : nodeD xs area (u : Int) = zeroRD := by
        unfold nodeB findB at hb
        unfold nodeD findD
        rw [if_pos (by simpa using hb)]
      rw [this]
      rfl

theorem Fix.hop_link {L : Nat → Nat → Int} {a x : Nat} {c : Nat → Int} {h : Nat → List Int} (A : Fix L a c h) : ∀ (n t : Nat), t ≠ a → (c t).toNat ≤ n → (x : Int) ∈ h t → 0 < L a x := by
  intro n
  induction n with
  | zero =>
    intro t ht hn hx
    obtain ⟨F, I, hF⟩ := A
    obtain ⟨h0, u, hu, hl, hc, _⟩ := (I.hop t ht x).1 hx
    have := (I.fnode u hu).2
    omega
  | succ n ih =>
    intro t ht hn hx
    have A' := A
    obtain ⟨F, I, hF⟩ := A'
    obtain ⟨h0, u, hu, hl, hc, ho⟩ := (I.hop t ht x).1 hx
    have hu0 := (I.fnode u hu).2
    rcases ho with ⟨e1, e2⟩ | ⟨e1, e2⟩
    · have e3 : x = t := by omega
      subst e1
      subst e3
      exact hl
    · exact ih u e1 (by omega) e2

theorem find_coll {c : Nat → Int} {h : Nat → List Int} {t : Nat} (ht : 1 ≤ t ∧ t ≤ 6) : (collT c h 6).find? (fun x => x.to == (t : Int)) = if 0 ≤ c t then some ⟨(t : Int), c t, h t⟩ else none := by
  split
  · rename_i h0
    have hm : (⟨(t : Int), c t, h t⟩ : WayD) ∈ collT c h 6 := (coll_mem 6).2 ⟨t, ht.1, ht.2, h0, rfl⟩
    cases hf : (collT c h 6).find? (fun x => x.to == (t : Int)) with
    | none =>
      rw [List.find?_eq_none] at hf
      have := hf _ hm
      simp at this
    | some w =>
      have hw := List.mem_of_find?_eq_some hf
      have hp := List.find?_some hf
      simp only [beq_iff_eq] at hp
      obtain ⟨v, _, _, _, rfl⟩ := (coll_mem 6).1 hw
      have : v = t := by simp at hp; omega
      subst this
      rfl
  · rename_i h0
    rw [List.find?_eq_none]
    intro w hw
    obtain ⟨v, _, _, h3, rfl⟩ := (coll_mem 6).1 hw
    simp only [beq_iff_eq]
    intro e
    have : v = t := by omega
    subst this
    exact h0 h3

theorem way_coll {c : Nat → Int} {h : Nat → List Int} {t : Nat} (ht : 1 ≤ t ∧ t ≤ 6) : wayToB (collT c h 6) (t : Int) = decide (0 ≤ c t) ∧ (0 ≤ c t → wayToD (collT c h 6) (t : Int) = ⟨(t : Int), c t, h t⟩) := by
  unfold wayToB wayToD
  rw [find_coll ht]
  by_cases h0 : 0 ≤ c t
  · rw [if_pos h0]; simp [h0]
  · rw [if_neg h0]; simp [h0]

section
variable {xs : List RecD} {area : Int} {v : Nat} {ds : List WayD}

theorem ways_fix (hw : IsWays xs area (v : Int) ds) {w : WayD} (hm : w ∈ ds) : ∃ c h, Fix (linkN xs area) v c h ∧ ds = collT c h 6 := by
  unfold IsWays at hw
  split at hw
  · obtain ⟨c, h, A, e⟩ := hw
    exact ⟨c, h, by simpa using A, e⟩
  · subst hw; cases hm

/-- hops begin such ways, and all of them -/
theorem ways_hop (hs : storeB xs = true) (hw : IsWays xs area (v : Int) ds) {w : WayD} (hm : w ∈ ds) (hne : w.to ≠ (v : Int)) {u : Nat} (hu : 1 ≤ u ∧ u ≤ 6) {es : List WayD} (he : IsWays xs area (u : Int) es) :
    ((u : Int) ∈ w.hops) ↔ (0 < linkN xs area v u ∧ wayToB es w.to = true ∧ linkN xs area v u + (wayToD es w.to).cost = w.cost) := by
  obtain ⟨c, h, A, rfl⟩ := ways_fix hw hm
  obtain ⟨t, h1, h2, h3, rfl⟩ := (coll_mem 6).1 hm
  simp only at hne ⊢
  have hne' : t ≠ v := fun e => hne (by rw [e])
  by_cases hl : 0 < linkN xs area v u
  · have hin : inB (u : Int) 1 6 = true := by simp [inB]; omega
    unfold IsWays at he
    rw [hs, hin, link_node hs hl] at he
    rw [if_pos (by decide)] at he
    obtain ⟨d, g, B0, rfl⟩ := he
    have B : Fix (linkN xs area) u d g := by simpa using B0
    obtain ⟨k1, k2⟩ := way_coll (c := d) (h := g) (t := t) ⟨h1, h2⟩
    constructor
    · intro hx
      obtain ⟨_, i2, i3⟩ := A.hop_to B _ t hne' (Nat.le_refl _) hx
      rw [k1, k2 i2]
      exact ⟨hl, decide_eq_true i2, i3⟩
    · rintro ⟨_, i2, i3⟩
      rw [k1] at i2
      have i2' := of_decide_eq_true i2
      rw [k2 i2'] at i3
      exact A.hop_of B hl _ t (Nat.le_refl _) i2' i3
  · constructor
    · intro hx
      exact absurd (A.hop_link _ t hne' (Nat.le_refl _) hx) hl
    · intro hx
      exact absurd hx.1 hl
end
end Go.Proofs.Ytbknmgobmnjphaa
namespace Go.Proofs.Ytbknmgobmnjphaa
open Go.RowKit

structure Lk where
  a : Int
  b : Int
  c : Int
  r : Int
  deriving DecidableEq

structure Th where
  o : Int
  k : Int
  c : Int
  f : Bool
  deriving DecidableEq

def lkV (l : Lk) : Value := .agg #[.int .i64 l.a, .int .i64 l.b, .int .i64 l.c, .int .i64 l.r]

def thV (t : Th) : Value := .agg #[.int .i64 t.o, .int .i64 t.k, .int .i64 t.c, .bool t.f]

end Go.Proofs.Ytbknmgobmnjphaa
namespace Go.Proofs.Ytbknmgobmnjphaa
open Go.RowKit

def lkE (l : Lk) : List Value := [.int .i64 l.a, .int .i64 l.b, .int .i64 l.c, .int .i64 l.r]

def thE (t : Th) : List Value := [.int .i64 t.o, .int .i64 t.k, .int .i64 t.c, .bool t.f]

theorem lkE_len (l : Lk) : (lkE l).length = 4 := rfl

theorem thE_len (t : Th) : (thE t).length = 4 := rfl

def LinksAt (W : World) (v : Value) (ls : List Lk) (B : Nat) : Prop := StructsAt lkE 4 W v ls B

def ThingsAt (W : World) (v : Value) (ts : List Th) (B : Nat) : Prop := StructsAt thE 4 W v ts B

theorem LinksAt.then {W W' : World} {v : Value} {ls : List Lk} (h : LinksAt W v ls W.heap.size) (hb : Below W.heap.size W W') : LinksAt W' v ls W'.heap.size := RowAt.then h hb

theorem ThingsAt.then {W W' : World} {v : Value} {ls : List Th} (h : ThingsAt W v ls W.heap.size) (hb : Below W.heap.size W W') : ThingsAt W' v ls W'.heap.size := RowAt.then h hb

theorem LinksAt.shape {W : World} {v : Value} {ls : List Lk} {B : Nat} (h : LinksAt W v ls B) : ∃ a cap, v = .slice a ls.length cap := by obtain ⟨a, cap, h, _⟩ := h; exact ⟨a, cap, h⟩

theorem ThingsAt.shape {W : World} {v : Value} {ls : List Th} {B : Nat} (h : ThingsAt W v ls B) : ∃ a cap, v = .slice a ls.length cap := by obtain ⟨a, cap, h, _⟩ := h; exact ⟨a, cap, h⟩

/-- the four cells of link i -/
theorem LinksAt.cells {W : World} {v : Value} {ls : List Lk} {B : Nat} (h : LinksAt W v ls B) (i : Nat) (l : Lk) (hl : ls[i]? = some l) :
    ∃ b off cap, v = .slice (some ⟨b, off, none⟩) ls.length cap ∧ b < B ∧ W.cell? ⟨b, off + i * 4, none⟩ = some (.int .i64 l.a) ∧ W.cell? ⟨b, off + i * 4 + 1, none⟩ = some (.int .i64 l.b) ∧
      W.cell? ⟨b, off + i * 4 + 2, none⟩ = some (.int .i64 l.c) ∧ W.cell? ⟨b, off + i * 4 + 3, none⟩ = some (.int .i64 l.r) := by
  obtain ⟨b, off, cap, hv, hb, hc⟩ := StructsAt.cell h lkE_len i l hl
  exact ⟨b, off, cap, hv, hb, hc 0 _ rfl, hc 1 _ rfl, hc 2 _ rfl, hc 3 _ rfl⟩

/-- the four cells of thing i -/
theorem ThingsAt.cells {W : World} {v : Value} {ls : List Th} {B : Nat} (h : ThingsAt W v ls B) (i : Nat) (l : Th) (hl : ls[i]? = some l) :
    ∃ b off cap, v = .slice (some ⟨b, off, none⟩) ls.length cap ∧ b < B ∧ W.cell? ⟨b, off + i * 4, none⟩ = some (.int .i64 l.o) ∧ W.cell? ⟨b, off + i * 4 + 1, none⟩ = some (.int .i64 l.k) ∧
      W.cell? ⟨b, off + i * 4 + 2, none⟩ = some (.int .i64 l.c) ∧ W.cell? ⟨b, off + i * 4 + 3, none⟩ = some (.bool l.f) := by
  obtain ⟨b, off, cap, hv, hb, hc⟩ := StructsAt.cell h thE_len i l hl
  exact ⟨b, off, cap, hv, hb, hc 0 _ rfl, hc 1 _ rfl, hc 2 _ rfl, hc 3 _ rfl⟩
end Go.Proofs.Ytbknmgobmnjphaa
