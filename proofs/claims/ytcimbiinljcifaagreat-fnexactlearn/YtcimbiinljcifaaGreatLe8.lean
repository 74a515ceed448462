/-
  impl.isIn, cmp.isNaN, cmp.Compare: their contracts.
  spec.Before: its contract.
  Regions that draw their order, by hand: one operation at a time, in the text's order.
  A key of four numbers in a block.
  slices.Compare at two keys, impl.Before: their contracts.
  Where a key stands in a list: spec.l05At, impl's placeOf.
  spec.l05At, impl's placeOf at lists that may share rows.
-/
import Derived.Test.YtcimbiinljcifaaGreatLe7
import Derived.Test.YtcimbiinljcifaaGreatLe3
import Derived.Test.YtcimbiinljcifaaGreatLe1
import Derived.Deep.RegionHeld3
import Derived.Test.YtcimbiinljcifaaGreatLe6
namespace Go.Proofs.YtcimbiinljcifaaGreat
open Go.RowKit

set_option maxRecDepth 100000 in
set_option maxHeartbeats 2000000 in
theorem isIn_any (x a b : Int) (w : World) : Calls Tryz.prog 37 #[.int .i64 x, .int .i64 a, .int .i64 b] w fun e w' => e = .returned (.bool (inB x a b)) ∧ w = w' := by
  by_cases h1 : a ≤ x <;> by_cases h2 : x ≤ b
  all_goals
    go_enter Tryz.func37, Tryz.ntmps37
    go_wp2
    go_ret
    exact ⟨by simp [inB, h1, h2], rfl⟩

def cmpN (a b : Int) : Int := if a < b then -1 else if b < a then 1 else 0

theorem cmpN_zero {a b : Int} : cmpN a b = 0 ↔ a = b := by unfold cmpN; split <;> (try split) <;> omega

theorem cmpN_neg {a b : Int} : cmpN a b < 0 ↔ a < b := by unfold cmpN; split <;> (try split) <;> omega

theorem ret_i {a b : Int} (h : b = a) : Ending.returned (.int .i64 a) = .returned (.int .i64 b) := by rw [h]

set_option maxRecDepth 100000 in
set_option maxHeartbeats 1000000 in
theorem isNaN_any (a : Int) (w : World) : Calls Tryz.prog 135 #[.int .i64 a] w fun e w' => e = .returned (.bool false) ∧ w = w' := by
  go_enter Tryz.func135, Tryz.ntmps135
  go_wp2
  go_ret
  exact ⟨by simp, rfl⟩

set_option maxRecDepth 100000 in
set_option maxHeartbeats 1000000 in
theorem compare_any (a b : Int) (w : World) : Calls Tryz.prog 119 #[.int .i64 a, .int .i64 b] w fun e w' => e = .returned (.int .i64 (cmpN a b)) ∧ w = w' := by
  go_enter Tryz.func119, Tryz.ntmps119
  go_wp2_with fail
  refine (isNaN_any a _).mono ?_
  rintro e w1 ⟨rfl, rfl⟩
  go_wp2_with fail
  refine (isNaN_any b _).mono ?_
  rintro e w1 ⟨rfl, rfl⟩
  go_wp2
  all_goals go_ret
  all_goals refine ⟨ret_i ?_, rfl⟩
  all_goals (unfold cmpN; grind)
end Go.Proofs.YtcimbiinljcifaaGreat
namespace Go.Proofs.YtcimbiinljcifaaGreat
open Go.RowKit

def beforeB (x y : RecD) : Bool := decide (x.area < y.area) || (x.area == y.area && (decide (x.kind < y.kind) || (x.kind == y.kind && (decide (x.owner < y.owner) || (x.owner == y.owner && decide (x.key < y.key))))))

set_option maxRecDepth 100000 in
set_option maxHeartbeats 4000000 in
theorem sbefore_any (v1 v2 : Value) (x y : RecD) (w : World) : Calls Tryz.prog 83 #[.agg (recC x v1), .agg (recC y v2)] w fun e w' => e = .returned (.bool (beforeB x y)) ∧ Below w.heap.size w w' := by
  obtain ⟨a0, a1, a2, a3, a4, ns, a6, a7⟩ := x
  obtain ⟨b0, b1, b2, b3, b4, ms, b6, b7⟩ := y
  unfold recC
  simp only []
  go_enter Tryz.func83, Tryz.ntmps83
  go_wp2
  all_goals go_ret
  all_goals refine ⟨ret_bool ?_, below_two _ _⟩
  all_goals (simp only [beforeB]; grind)
end Go.Proofs.YtcimbiinljcifaaGreat
namespace Go.Proofs.YtcimbiinljcifaaGreat
open Go.RowKit

def mayTake (ops : Array Oper) (listed : Array Bool) (i : Nat) : Bool := Region.noSelect ops && Region.free .any ops listed i && (Region.ready .any ops listed).contains i

theorem mayTake_parts {ops : Array Oper} {listed : Array Bool} {i : Nat} (h : mayTake ops listed i = true) : Region.noSelect ops = true ∧ Region.free .any ops listed i = true ∧ (Region.ready .any ops listed).contains i = true := by
  unfold mayTake at h
  simp only [Bool.and_eq_true] at h
  exact ⟨h.1.1, h.1.2, h.2⟩

section
variable {P : Program} {ops : Array Oper} {Q : Exit → Act → World → Prop} {S : World → Prop} {fuel : Nat} {listed : Array Bool} {a : Act} {w : World}

/-- the beginning: the region's operations behind a letter -/
theorem wp_region_start {id : Nat} (hm : P.follows .mixedOrders = true) (n : Nat) (hn : ops.size = n) (hS : S w.drew) (h : ∀ ops', Hid (ops' = ops) → S w.drew → wpAnyH P .any ops' Q S n (Array.replicate n false) a w.drew) : (Code.region id ops true).wp P Q a w := by
  refine wp_region_held_drew hm hS (fun hs => ?_)
  rw [hn]
  exact h ops rfl hs

/-- an operation that isn't wanted -/
theorem take_skip (i : Nat) (d : Tmp) (hi : (ops[i]?).map Oper.dst = some (some d)) (ht : mayTake ops listed i = true) (hw : (ops[i]?).map (fun o => Region.wanted o (yielded ops a.tmps)) = some false)
    (hQ : ∀ c a w, Q (.panic c) (a.put (some d) undef) w → Q (.panic c) a w) (hS : S w) (h : wpAnyH P .any ops Q S fuel (listed.setIfInBounds i true) (a.put (some d) undef) w) : wpAnyH P .any ops Q S (fuel + 1) listed a w := by
  obtain ⟨h1, h2, h3⟩ := mayTake_parts ht
  cases ho : ops[i]? with
  | none => rw [ho] at hi; cases hi
  | some oi =>
    rw [ho] at hi hw
    simp only [Option.map_some, Option.some.injEq] at hi hw
    refine wpAnyH_take ho h1 h2 h3 (v := undef) ?_ (Or.inr ⟨hw, rfl⟩) hS ?_
    · rw [hi]; exact hQ
    · rw [hi]; exact h

/-- an operation that yields v in every world that meets S -/
theorem take_do (i : Nat) {oi : Oper} {v : Value} (hi : ops[i]? = some oi) (ht : mayTake ops listed i = true) (hw : Region.wanted oi (yielded ops a.tmps) = true) (hy : ∀ w, S w → (execOp a.eval oi).run P w = .ok (.value v) w)
    (hQ : ∀ c a w, Q (.panic c) (a.put oi.dst v) w → Q (.panic c) a w) (hS : S w) (h : wpAnyH P .any ops Q S fuel (listed.setIfInBounds i true) (a.put oi.dst v) w) : wpAnyH P .any ops Q S (fuel + 1) listed a w := by
  obtain ⟨h1, h2, h3⟩ := mayTake_parts ht
  exact wpAnyH_take hi h1 h2 h3 hQ (Or.inl ⟨hw, hy⟩) hS h

/-- a call that alone may come up -/
theorem take_call (i : Nat) {oi : Oper} (hi : ops[i]? = some oi) (hr : Region.ready .any ops listed = [i]) (hw : Region.wanted oi (yielded ops a.tmps) = true)
    (h : ∀ K' : Act → World → Prop, Shut (∀ a w, S w → (S w → wpAnyH P .any ops Q S fuel (listed.setIfInBounds i true) a w) → K' a w) → Oper.wp P oi a w K' Q) : wpAnyH P .any ops Q S (fuel + 1) listed a w := by
  refine wpAnyH_ready (rs := [i]) hr (by simp) ?_
  refine AllReadyH.cons hi (fun K hK => ?_) AllReadyH.nil
  rw [if_pos hw]
  exact h K hK
end
end Go.Proofs.YtcimbiinljcifaaGreat
namespace Go.Proofs.YtcimbiinljcifaaGreat
open Go.RowKit

/-- a key of four numbers lies in block p -/
def KeyAt (W : World) (p : Nat) (a b c d : Int) : Prop := (W.cell? ⟨p, 0, none⟩ = some (.int .i64 a) ∧ W.cell? ⟨p, 1, none⟩ = some (.int .i64 b) ∧ W.cell? ⟨p, 2, none⟩ = some (.int .i64 c) ∧ W.cell? ⟨p, 3, none⟩ = some (.int .i64 d)) ∧ W.frozen? ⟨p, 0, none⟩ = false ∧ W.frozen? ⟨p, 1, none⟩ = false ∧ W.frozen? ⟨p, 2, none⟩ = false ∧ W.frozen? ⟨p, 3, none⟩ = false

theorem KeyAt.lt {W : World} {p : Nat} {a b c d : Int} (h : KeyAt W p a b c d) : p < W.heap.size := World.block_lt_of_cell? W _ h.1.1

theorem KeyAt.below {W w2 : World} {p : Nat} {a b c d : Int} (h : KeyAt W p a b c d) (hb : Below W.heap.size W w2) : KeyAt w2 p a b c d := by
  have hp := h.lt
  obtain ⟨⟨h0, h1, h2, h3⟩, f0, f1, f2, f3⟩ := h
  refine ⟨⟨?_, ?_, ?_, ?_⟩, ?_, ?_, ?_, ?_⟩
  · rw [hb.cell (p := ⟨p, 0, none⟩) hp]; exact h0
  · rw [hb.cell (p := ⟨p, 1, none⟩) hp]; exact h1
  · rw [hb.cell (p := ⟨p, 2, none⟩) hp]; exact h2
  · rw [hb.cell (p := ⟨p, 3, none⟩) hp]; exact h3
  · rw [hb.frozen (p := ⟨p, 0, none⟩) hp]; exact f0
  · rw [hb.frozen (p := ⟨p, 1, none⟩) hp]; exact f1
  · rw [hb.frozen (p := ⟨p, 2, none⟩) hp]; exact f2
  · rw [hb.frozen (p := ⟨p, 3, none⟩) hp]; exact f3

theorem KeyAt.alloc {W : World} {p : Nat} {a b c d : Int} (h : KeyAt W p a b c d) (o : Obj) : KeyAt (W.alloc o) p a b c d := h.below ((Below.refl _ _).alloc (Nat.le_refl _) _)

theorem KeyAt.same {W W' : World} {p : Nat} {a b c d : Int} (h : KeyAt W p a b c d) (e : W.heap = W'.heap) : KeyAt W' p a b c d := by
  unfold KeyAt World.cell? World.frozen? at *
  rw [← e]
  exact h
end Go.Proofs.YtcimbiinljcifaaGreat
namespace Go.Proofs.YtcimbiinljcifaaGreat
open Go.RowKit

set_option linter.unusedSimpArgs false

/-- the first that is not 0 -/
def cmpK (a b c d : Int) : Int := if a = 0 then (if b = 0 then (if c = 0 then d else c) else b) else a

theorem cmpK_neg (x y : RecD) : decide (cmpK (cmpN x.area y.area) (cmpN x.kind y.kind) (cmpN x.owner y.owner) (cmpN x.key y.key) < 0) = beforeB x y := by
  unfold cmpK beforeB
  by_cases h1 : x.area = y.area
  · rw [if_pos (cmpN_zero.2 h1)]
    by_cases h2 : x.kind = y.kind
    · rw [if_pos (cmpN_zero.2 h2)]
      by_cases h3 : x.owner = y.owner
      · rw [if_pos (cmpN_zero.2 h3)]
        simp [cmpN_neg, h1, h2, h3]
      · rw [if_neg (fun h => h3 (cmpN_zero.1 h))]
        simp [cmpN_neg, h1, h2, h3]
    · rw [if_neg (fun h => h2 (cmpN_zero.1 h))]
      simp [cmpN_neg, h1, h2]
  · rw [if_neg (fun h => h1 (cmpN_zero.1 h))]
    simp [cmpN_neg, h1]

set_option maxRecDepth 100000 in
set_option maxHeartbeats 1000000 in
theorem scompare_any (p q : Nat) (a b c d a' b' c' d' : Int) (w : World) (h : KeyAt w p a b c d) (h' : KeyAt w q a' b' c' d') :
    Calls Tryz.prog 141 #[.slice (some ⟨p, 0, none⟩) 4 4, .slice (some ⟨q, 0, none⟩) 4 4] w fun e w' => e = .returned (.int .i64 (cmpK (cmpN a a') (cmpN b b') (cmpN c c') (cmpN d d'))) ∧ w = w' := by
  obtain ⟨⟨h0, h1, h2, h3⟩, _⟩ := h
  obtain ⟨⟨g0, g1, g2, g3⟩, _⟩ := h'
  have C0 := hide (compare_any a a')
  have C1 := hide (compare_any b b')
  have C2 := hide (compare_any c c')
  have C3 := hide (compare_any d d')
  generalize cmpN a a' = k0 at C0 ⊢
  generalize cmpN b b' = k1 at C1 ⊢
  generalize cmpN c c' = k2 at C2 ⊢
  generalize cmpN d d' = k3 at C3 ⊢
  go_enter Tryz.func141, Tryz.ntmps141
  go_wp2
  refine wp_loop_rounds 5 ?_
  rw [rounds_succ]
  go_wp2_with fail
  refine (C0.out _).mono ?_
  rintro e w1 ⟨rfl, rfl⟩
  by_cases z0 : k0 = 0
  case neg =>
    have hd : (k0 != 0) = true := by simpa using z0
    have E0 := hide (show cmpK k0 k1 k2 k3 = k0 by unfold cmpK; rw [if_neg z0])
    clear z0
    go_wp2
    go_ret
    exact ⟨ret_i E0.out, rfl⟩
  subst z0
  go_wp2
  rw [rounds_succ]
  go_wp2_with fail
  refine (C1.out _).mono ?_
  rintro e w1 ⟨rfl, rfl⟩
  by_cases z1 : k1 = 0
  case neg =>
    have hd : (k1 != 0) = true := by simpa using z1
    have E0 := hide (show cmpK 0 k1 k2 k3 = k1 by unfold cmpK; rw [if_pos rfl, if_neg z1])
    clear z1
    go_wp2
    go_ret
    exact ⟨ret_i E0.out, rfl⟩
  subst z1
  go_wp2
  rw [rounds_succ]
  go_wp2_with fail
  refine (C2.out _).mono ?_
  rintro e w1 ⟨rfl, rfl⟩
  by_cases z2 : k2 = 0
  case neg =>
    have hd : (k2 != 0) = true := by simpa using z2
    have E0 := hide (show cmpK 0 0 k2 k3 = k2 by unfold cmpK; rw [if_pos rfl, if_pos rfl, if_neg z2])
    clear z2
    go_wp2
    go_ret
    exact ⟨ret_i E0.out, rfl⟩
  subst z2
  go_wp2
  rw [rounds_succ]
  go_wp2_with fail
  refine (C3.out _).mono ?_
  rintro e w1 ⟨rfl, rfl⟩
  by_cases z3 : k3 = 0
  case neg =>
    have hd : (k3 != 0) = true := by simpa using z3
    have E0 := hide (show cmpK 0 0 0 k3 = k3 by unfold cmpK; rfl)
    clear z3
    go_wp2
    go_ret
    exact ⟨ret_i E0.out, rfl⟩
  subst z3
  go_wp2
  rw [rounds_succ]
  go_wp2
  go_ret
  exact ⟨ret_i rfl, rfl⟩

set_option maxRecDepth 100000 in
set_option maxHeartbeats 1000000 in
theorem orderKeys_any (a b c d a' b' c' d' : Int) (w : World) : Calls Tryz.prog 132 #[.agg #[.int .i64 a, .int .i64 b, .int .i64 c, .int .i64 d], .agg #[.int .i64 a', .int .i64 b', .int .i64 c', .int .i64 d']] w fun e w' => e = .returned (.int .i64 (cmpK (cmpN a a') (cmpN b b') (cmpN c c') (cmpN d d'))) ∧ Below w.heap.size w w' := by
  obtain ⟨r, hr⟩ : ∃ r, r = cmpK (cmpN a a') (cmpN b b') (cmpN c c') (cmpN d d') := ⟨_, rfl⟩
  obtain ⟨w1, hw1⟩ : ∃ w1, w1 = (w.alloc (.cells #[.int .i64 a, .int .i64 b, .int .i64 c, .int .i64 d] 140)).alloc (.cells #[.int .i64 a', .int .i64 b', .int .i64 c', .int .i64 d'] 140) := ⟨_, rfl⟩
  have B1 : Below w.heap.size w w1 := by rw [hw1]; exact below_two _ _
  have p0 : w1.heap[w.heap.size]? = some (.cells #[.int .i64 a, .int .i64 b, .int .i64 c, .int .i64 d] 140) := by rw [hw1, Below.heap_alloc _ _ _ (by simp), heap_alloc_new]
  have q0 : w1.heap[w.heap.size + 1]? = some (.cells #[.int .i64 a', .int .i64 b', .int .i64 c', .int .i64 d'] 140) := by
    rw [hw1]
    have := heap_alloc_new (w.alloc (.cells #[.int .i64 a, .int .i64 b, .int .i64 c, .int .i64 d] 140)) (.cells #[.int .i64 a', .int .i64 b', .int .i64 c', .int .i64 d'] 140)
    simpa using this
  have kp : KeyAt w1 w.heap.size a b c d := ⟨⟨cells_at p0 0, cells_at p0 1, cells_at p0 2, cells_at p0 3⟩, frozen_at p0 0, frozen_at p0 1, frozen_at p0 2, frozen_at p0 3⟩
  have kq : KeyAt w1 (w.heap.size + 1) a' b' c' d' := ⟨⟨cells_at q0 0, cells_at q0 1, cells_at q0 2, cells_at q0 3⟩, frozen_at q0 0, frozen_at q0 1, frozen_at q0 2, frozen_at q0 3⟩
  have HC := hide (fun W' (h : w1.heap = W'.heap) => scompare_any w.heap.size (w.heap.size + 1) a b c d a' b' c' d' W' (kp.same h) (kq.same h))
  rw [← hr] at HC ⊢
  clear kp kq p0 q0 hr
  go_enter Tryz.func132, Tryz.ntmps132
  go_wp2
  rw [← hw1]
  clear hw1
  go_region_held3 (fun W' => w1.heap = W'.heap) (first | rfl | assumption | go_keep) (first | (go_at_call 141; refine (HC.out _ ?_).mono ?_; (first | rfl | assumption); rintro e w3 ⟨rfl, rfl⟩))
  go_wp2
  go_ret
  exact ⟨rfl, B1.drew⟩

end Go.Proofs.YtcimbiinljcifaaGreat
namespace Go.Proofs.YtcimbiinljcifaaGreat
open Go.RowKit

/-- the first place of a key, -1 without one -/
def atZ (xs : List RecD) (r : RecD) : Int := match xs.findIdx? (fun x => sameKeyB x r) with
  | some i => (i : Int)
  | none => -1

theorem atZ_found {xs : List RecD} {r x : RecD} {k : Nat} (hk : xs[k]? = some x) (hs : sameKeyB x r = true) (hall : ∀ j, j < k → ∀ y, xs[j]? = some y → sameKeyB y r = false) : atZ xs r = (k : Int) := by
  obtain ⟨h1, e1⟩ := List.getElem?_eq_some_iff.1 hk
  have : xs.findIdx? (fun x => sameKeyB x r) = some k := by
    rw [List.findIdx?_eq_some_iff_getElem]
    refine ⟨h1, by rw [e1]; exact hs, fun j hj => ?_⟩
    have := hall j hj xs[j] (List.getElem?_eq_getElem (by omega))
    simp [this]
  unfold atZ
  rw [this]

theorem atZ_none {xs : List RecD} {r : RecD} (hall : ∀ j, j < xs.length → ∀ y, xs[j]? = some y → sameKeyB y r = false) : atZ xs r = -1 := by
  have : xs.findIdx? (fun x => sameKeyB x r) = none := by
    rw [List.findIdx?_eq_none_iff]
    intro x hx
    obtain ⟨i, hi, e⟩ := List.getElem_of_mem hx
    exact hall i hi x (by rw [← e]; exact List.getElem?_eq_getElem hi)
  unfold atZ
  rw [this]

theorem atZ_cases (xs : List RecD) (r : RecD) : atZ xs r = -1 ∨ ∃ (k : Nat) (x : RecD), atZ xs r = (k : Int) ∧ xs[k]? = some x ∧ sameKeyB x r = true := by
  unfold atZ
  cases h : xs.findIdx? (fun x => sameKeyB x r) with
  | none => exact .inl rfl
  | some i =>
    obtain ⟨h1, h2, _⟩ := List.findIdx?_eq_some_iff_getElem.1 h
    exact .inr ⟨i, xs[i], rfl, List.getElem?_eq_getElem h1, h2⟩

def keyV (r : RecD) : Array Value := #[.int .i64 r.area, .int .i64 r.kind, .int .i64 r.owner, .int .i64 r.key]

/-- the answer of placeOf -/
def plV (z : Int) : Value := if z < 0 then .tuple #[.int .i64 0, .bool false] else .tuple #[.int .i64 z, .bool true]

end Go.Proofs.YtcimbiinljcifaaGreat
namespace Go.Proofs.YtcimbiinljcifaaGreat
open Go.RowKit

set_option maxRecDepth 100000 in
set_option maxHeartbeats 2000000 in
theorem satI_any (v : Value) (ps : List RP) (hi : Nat) (r : RP) (w : World) (hv : RecsIn w hi v ps) (hhi : hi ≤ w.heap.size) (hn : tot ps ≤ 1048576) :
    Calls Tryz.prog 72 #[v, .agg (recC r.1 r.2)] w fun e w' => e = .returned (.int .i64 (atZ (fsts ps) r.1)) ∧ Below w.heap.size w w' := by
  have hnl := tot_len ps
  obtain ⟨a1, c1, rfl⟩ := owns_lenS hv.row
  have HV := hide hv
  clear hv
  have BX := (Below.refl w.heap.size w).alloc (Nat.le_refl _) (.cells (recC r.1 r.2) 40)
  have hx := heap_alloc_new w (.cells (recC r.1 r.2) 40)
  obtain ⟨wx, hwx⟩ : ∃ wx, wx = w.alloc (.cells (recC r.1 r.2) 40) := ⟨_, rfl⟩
  rw [← hwx] at BX hx
  unfold recC at *
  go_enter Tryz.func72, Tryz.ntmps72
  go_wp2
  rw [← hwx]
  have HX := hide hx
  clear hwx hx
  go_loopw [5] (fun i wr => ∃ (k : Nat), k ≤ ps.length ∧ i = .int .i64 k ∧ (∀ j, j < k → ∀ y, (fsts ps)[j]? = some y → sameKeyB y r.1 = false) ∧ Below wx.heap.size wx wr) (fun i _ => ps.length - (intOf i).toNat)
  case atStart => exact ⟨0, by omega, rfl, by omega, Below.refl _ _⟩
  case round =>
    obtain ⟨k, hk, rfl, hall, hnx⟩ := hrel
    have HALL := hide hall
    clear hall
    have hsz := hnx.size
    have hsx := lt_of_heap HX.out
    have BWR : Below w.heap.size w wr := BX.trans (hnx.mono (by omega))
    by_cases hlt : k < ps.length
    · obtain ⟨p, hp⟩ : ∃ p, ps[k]? = some p := ⟨ps[k], List.getElem?_eq_getElem hlt⟩
      have hat := HV.out.at
      obtain ⟨b, off, cap', hve, hbb, c0, c1, c2, c3, c4, c5, c6, c7, _⟩ := hat.cells k p hp
      cases hve
      rw [← BWR.cell (p := ⟨b, off + k * 8, none⟩) (Nat.lt_of_lt_of_le hbb hhi)] at c0
      rw [← BWR.cell (p := ⟨b, off + k * 8 + 1, none⟩) (Nat.lt_of_lt_of_le hbb hhi)] at c1
      rw [← BWR.cell (p := ⟨b, off + k * 8 + 2, none⟩) (Nat.lt_of_lt_of_le hbb hhi)] at c2
      rw [← BWR.cell (p := ⟨b, off + k * 8 + 3, none⟩) (Nat.lt_of_lt_of_le hbb hhi)] at c3
      rw [← BWR.cell (p := ⟨b, off + k * 8 + 4, none⟩) (Nat.lt_of_lt_of_le hbb hhi)] at c4
      rw [← BWR.cell (p := ⟨b, off + k * 8 + 5, none⟩) (Nat.lt_of_lt_of_le hbb hhi)] at c5
      rw [← BWR.cell (p := ⟨b, off + k * 8 + 6, none⟩) (Nat.lt_of_lt_of_le hbb hhi)] at c6
      rw [← BWR.cell (p := ⟨b, off + k * 8 + 7, none⟩) (Nat.lt_of_lt_of_le hbb hhi)] at c7
      have hxx := (hnx.block _ hsx).trans HX.out
      have d0 := cells_at hxx 0
      have d1 := cells_at hxx 1
      have d2 := cells_at hxx 2
      have d3 := cells_at hxx 3
      have d4 := cells_at hxx 4
      have d5 := cells_at hxx 5
      have d6 := cells_at hxx 6
      have d7 := cells_at hxx 7
      simp at d0 d1 d2 d3 d4 d5 d6 d7
      have hb1 : b < wr.heap.size := by omega
      have hb2 : w.heap.size < wr.heap.size := by omega
      have hki : (0 : Int) ≤ (k : Int) := by omega
      have hkj : (k : Int) < (ps.length : Int) := by omega
      have hq := fun W => ssameKey_any p.2 r.2 p.1 r.1 W
      unfold recC at hq
      obtain ⟨q, hqq⟩ : ∃ q, q = sameKeyB p.1 r.1 := ⟨_, rfl⟩
      rw [← hqq] at hq
      have HK := hide hq
      have HQQ := hide hqq
      have HPP := hide (fsts_at hp)
      clear hq hqq hp hat hxx
      cases q
      · go_wp2
        go_region_held3 (fun W => W.cell? ⟨b, off + k * 8, none⟩ = some (.int .i64 p.1.area) ∧ W.cell? ⟨b, off + k * 8 + 1, none⟩ = some (.int .i64 p.1.kind) ∧ W.cell? ⟨b, off + k * 8 + 2, none⟩ = some (.int .i64 p.1.owner) ∧ W.cell? ⟨b, off + k * 8 + 3, none⟩ = some (.int .i64 p.1.key) ∧ W.cell? ⟨b, off + k * 8 + 4, none⟩ = some (.int .i64 p.1.seq) ∧ W.cell? ⟨b, off + k * 8 + 5, none⟩ = some (p.2) ∧ W.cell? ⟨b, off + k * 8 + 6, none⟩ = some (.int .i64 p.1.cost) ∧ W.cell? ⟨b, off + k * 8 + 7, none⟩ = some (.bool p.1.far) ∧ W.cell? ⟨w.heap.size, 0, none⟩ = some (.int .i64 r.1.area) ∧ W.cell? ⟨w.heap.size, 1, none⟩ = some (.int .i64 r.1.kind) ∧ W.cell? ⟨w.heap.size, 2, none⟩ = some (.int .i64 r.1.owner) ∧ W.cell? ⟨w.heap.size, 3, none⟩ = some (.int .i64 r.1.key) ∧ W.cell? ⟨w.heap.size, 4, none⟩ = some (.int .i64 r.1.seq) ∧ W.cell? ⟨w.heap.size, 5, none⟩ = some (r.2) ∧ W.cell? ⟨w.heap.size, 6, none⟩ = some (.int .i64 r.1.cost) ∧ W.cell? ⟨w.heap.size, 7, none⟩ = some (.bool r.1.far)) (first | go_keep | (refine ⟨?_, ?_, ?_, ?_, ?_, ?_, ?_, ?_, ?_, ?_, ?_, ?_, ?_, ?_, ?_, ?_⟩ <;> (rw [hbc.cell (by assumption)]; assumption))) (first | (go_at_call 40; refine (HK.out _).mono ?_; rintro e w1 ⟨rfl, hbc⟩))
        go_wp2
        go_roundw
        case rel => exact ⟨k + 1, by omega, by go_num, (fun j hj y hy => by
          by_cases e : j = k
          · subst e; rw [HPP.out] at hy; cases hy; exact HQQ.out.symm
          · exact HALL.out j (by omega) y hy), hnx.trans ((Below.refl _ _).drew.trans (hbc.mono hsz))⟩
        case measure => simp [intOf]; omega
      · go_wp2
        go_region_held3 (fun W => W.cell? ⟨b, off + k * 8, none⟩ = some (.int .i64 p.1.area) ∧ W.cell? ⟨b, off + k * 8 + 1, none⟩ = some (.int .i64 p.1.kind) ∧ W.cell? ⟨b, off + k * 8 + 2, none⟩ = some (.int .i64 p.1.owner) ∧ W.cell? ⟨b, off + k * 8 + 3, none⟩ = some (.int .i64 p.1.key) ∧ W.cell? ⟨b, off + k * 8 + 4, none⟩ = some (.int .i64 p.1.seq) ∧ W.cell? ⟨b, off + k * 8 + 5, none⟩ = some (p.2) ∧ W.cell? ⟨b, off + k * 8 + 6, none⟩ = some (.int .i64 p.1.cost) ∧ W.cell? ⟨b, off + k * 8 + 7, none⟩ = some (.bool p.1.far) ∧ W.cell? ⟨w.heap.size, 0, none⟩ = some (.int .i64 r.1.area) ∧ W.cell? ⟨w.heap.size, 1, none⟩ = some (.int .i64 r.1.kind) ∧ W.cell? ⟨w.heap.size, 2, none⟩ = some (.int .i64 r.1.owner) ∧ W.cell? ⟨w.heap.size, 3, none⟩ = some (.int .i64 r.1.key) ∧ W.cell? ⟨w.heap.size, 4, none⟩ = some (.int .i64 r.1.seq) ∧ W.cell? ⟨w.heap.size, 5, none⟩ = some (r.2) ∧ W.cell? ⟨w.heap.size, 6, none⟩ = some (.int .i64 r.1.cost) ∧ W.cell? ⟨w.heap.size, 7, none⟩ = some (.bool r.1.far)) (first | go_keep | (refine ⟨?_, ?_, ?_, ?_, ?_, ?_, ?_, ?_, ?_, ?_, ?_, ?_, ?_, ?_, ?_, ?_⟩ <;> (rw [hbc.cell (by assumption)]; assumption))) (first | (go_at_call 40; refine (HK.out _).mono ?_; rintro e w1 ⟨rfl, hbc⟩))
        go_wp2
        go_ret
        exact ⟨ret_int1 (by rw [atZ_found HPP.out HQQ.out.symm HALL.out]), BWR.trans ((Below.refl _ _).drew.trans (hbc.mono (show w.heap.size ≤ wr.heap.size by omega)))⟩
    · have hkn : k = ps.length := by omega
      have KN := hide hkn
      clear hkn
      go_wp2
      go_ret
      exact ⟨ret_int1 (by rw [atZ_none (by have h := HALL.out; rw [KN.out] at h; simpa [fsts] using h)]), BWR⟩

set_option maxRecDepth 100000 in
set_option maxHeartbeats 2000000 in
theorem placeI_any (v : Value) (ps : List RP) (hi : Nat) (r : RecD) (w : World) (hv : RecsIn w hi v ps) (hhi : hi ≤ w.heap.size) (hn : tot ps ≤ 1048576) :
    Calls Tryz.prog 103 #[v, .agg (keyV r)] w fun e w' => e = .returned (plV (atZ (fsts ps) r)) ∧ Below w.heap.size w w' := by
  have hnl := tot_len ps
  obtain ⟨a1, c1, rfl⟩ := owns_lenS hv.row
  have HV := hide hv
  clear hv
  have BX := (Below.refl w.heap.size w).alloc (Nat.le_refl _) (.cells (keyV r) 140)
  have hx := heap_alloc_new w (.cells (keyV r) 140)
  obtain ⟨wx, hwx⟩ : ∃ wx, wx = w.alloc (.cells (keyV r) 140) := ⟨_, rfl⟩
  rw [← hwx] at BX hx
  unfold keyV at *
  go_enter Tryz.func103, Tryz.ntmps103
  go_wp2
  rw [← hwx]
  have HX := hide hx
  clear hwx hx
  go_loopw [10] (fun i wr => ∃ (k : Nat), k ≤ ps.length ∧ i = .int .i64 k ∧ (∀ j, j < k → ∀ y, (fsts ps)[j]? = some y → sameKeyB y r = false) ∧ Below wx.heap.size wx wr) (fun i _ => ps.length - (intOf i).toNat)
  case atStart => exact ⟨0, by omega, rfl, by omega, Below.refl _ _⟩
  case round =>
    obtain ⟨k, hk, rfl, hall, hnx⟩ := hrel
    have HALL := hide hall
    clear hall
    have hsz := hnx.size
    have hsx := lt_of_heap HX.out
    have BWR : Below w.heap.size w wr := BX.trans (hnx.mono (by omega))
    by_cases hlt : k < ps.length
    · obtain ⟨p, hp⟩ : ∃ p, ps[k]? = some p := ⟨ps[k], List.getElem?_eq_getElem hlt⟩
      have hat := HV.out.at
      obtain ⟨b, off, cap', hve, hbb, c0, c1, c2, c3, c4, c5, c6, c7, hnr⟩ := hat.cells k p hp
      cases hve
      rw [← BWR.cell (p := ⟨b, off + k * 8, none⟩) (Nat.lt_of_lt_of_le hbb hhi)] at c0
      rw [← BWR.cell (p := ⟨b, off + k * 8 + 1, none⟩) (Nat.lt_of_lt_of_le hbb hhi)] at c1
      rw [← BWR.cell (p := ⟨b, off + k * 8 + 2, none⟩) (Nat.lt_of_lt_of_le hbb hhi)] at c2
      rw [← BWR.cell (p := ⟨b, off + k * 8 + 3, none⟩) (Nat.lt_of_lt_of_le hbb hhi)] at c3
      rw [← BWR.cell (p := ⟨b, off + k * 8 + 4, none⟩) (Nat.lt_of_lt_of_le hbb hhi)] at c4
      rw [← BWR.cell (p := ⟨b, off + k * 8 + 5, none⟩) (Nat.lt_of_lt_of_le hbb hhi)] at c5
      rw [← BWR.cell (p := ⟨b, off + k * 8 + 6, none⟩) (Nat.lt_of_lt_of_le hbb hhi)] at c6
      rw [← BWR.cell (p := ⟨b, off + k * 8 + 7, none⟩) (Nat.lt_of_lt_of_le hbb hhi)] at c7
      obtain ⟨pa, pc, hpn⟩ := hnr.shape
      rw [hpn] at c5
      have hxx := (hnx.block _ hsx).trans HX.out
      have hki : (0 : Int) ≤ (k : Int) := by omega
      have hkj : (k : Int) < (ps.length : Int) := by omega
      have HK := hide (fun W => keyOf_raw p.1.area p.1.kind p.1.owner p.1.key p.1.seq (.slice pa p.1.near.length pc) p.1.cost p.1.far W)
      have e0 := fun W => key_eql W p.1.area p.1.kind p.1.owner p.1.key r.area r.kind r.owner r.key
      obtain ⟨q, hqq⟩ : ∃ q, q = sameKeyB p.1 r := ⟨_, rfl⟩
      rw [show (p.1.area == r.area && p.1.kind == r.kind && p.1.owner == r.owner && p.1.key == r.key) = q by rw [hqq]; rfl] at e0
      have HQQ := hide hqq
      have HPP := hide (fsts_at hp)
      clear hqq hp hat hnr hpn
      obtain ⟨o, ho⟩ : ∃ o, o = (.cells #[.int .i64 p.1.area, .int .i64 p.1.kind, .int .i64 p.1.owner, .int .i64 p.1.key, .int .i64 p.1.seq, .slice pa p.1.near.length pc, .int .i64 p.1.cost, .bool p.1.far] 40 : Obj) := ⟨_, rfl⟩
      have hz := heap_alloc_new wr o
      have hxz := (Below.heap_alloc wr o w.heap.size (by omega)).trans hxx
      have BZ : Below wr.heap.size wr (wr.alloc o) := (Below.refl _ _).alloc (Nat.le_refl _) _
      obtain ⟨wz, hwz⟩ : ∃ wz, wz = wr.alloc o := ⟨_, rfl⟩
      rw [← hwz] at hz hxz BZ
      rw [ho] at hwz hz
      have hbz := BZ.size
      clear ho hxx
      cases q
      · go_wp2
        rw [← hwz]
        obtain ⟨z, hzz⟩ : ∃ z, z = wr.heap.size := ⟨_, rfl⟩
        rw [← hzz] at hz ⊢
        have d0 := cells_at hz 0
        have d1 := cells_at hz 1
        have d2 := cells_at hz 2
        have d3 := cells_at hz 3
        have d4 := cells_at hz 4
        have d5 := cells_at hz 5
        have d6 := cells_at hz 6
        have d7 := cells_at hz 7
        have k0 := cells_at hxz 0
        have k1 := cells_at hxz 1
        have k2 := cells_at hxz 2
        have k3 := cells_at hxz 3
        simp at d0 d1 d2 d3 d4 d5 d6 d7 k0 k1 k2 k3
        have hb1 := lt_of_heap hz
        have hb2 := lt_of_heap hxz
        clear hzz hwz hz hxz c0 c1 c2 c3 c4 c5 c6 c7
        go_region_held3 (fun W => W.cell? ⟨z, 0, none⟩ = some (.int .i64 p.1.area) ∧ W.cell? ⟨z, 1, none⟩ = some (.int .i64 p.1.kind) ∧ W.cell? ⟨z, 2, none⟩ = some (.int .i64 p.1.owner) ∧ W.cell? ⟨z, 3, none⟩ = some (.int .i64 p.1.key) ∧ W.cell? ⟨z, 4, none⟩ = some (.int .i64 p.1.seq) ∧ W.cell? ⟨z, 5, none⟩ = some (.slice pa p.1.near.length pc) ∧ W.cell? ⟨z, 6, none⟩ = some (.int .i64 p.1.cost) ∧ W.cell? ⟨z, 7, none⟩ = some (.bool p.1.far) ∧ W.cell? ⟨w.heap.size, 0, none⟩ = some (.int .i64 r.area) ∧ W.cell? ⟨w.heap.size, 1, none⟩ = some (.int .i64 r.kind) ∧ W.cell? ⟨w.heap.size, 2, none⟩ = some (.int .i64 r.owner) ∧ W.cell? ⟨w.heap.size, 3, none⟩ = some (.int .i64 r.key)) (first | go_keep | (refine ⟨?_, ?_, ?_, ?_, ?_, ?_, ?_, ?_, ?_, ?_, ?_, ?_⟩ <;> (rw [hbc.cell (by assumption)]; assumption))) (first | (refine (HK.out _).mono ?_; rintro e w1 ⟨rfl, hbc⟩))
        go_wp2
        go_roundw
        case rel => exact ⟨k + 1, by omega, by go_num, (fun j hj y hy => by
          by_cases e : j = k
          · subst e; rw [HPP.out] at hy; cases hy; exact HQQ.out.symm
          · exact HALL.out j (by omega) y hy), hnx.trans ((BZ.mono hsz).trans ((Below.refl _ _).drew.trans (hbc.mono (show wx.heap.size ≤ wz.heap.size by omega))))⟩
        case measure => simp [intOf]; omega
      · go_wp2
        rw [← hwz]
        obtain ⟨z, hzz⟩ : ∃ z, z = wr.heap.size := ⟨_, rfl⟩
        rw [← hzz] at hz ⊢
        have d0 := cells_at hz 0
        have d1 := cells_at hz 1
        have d2 := cells_at hz 2
        have d3 := cells_at hz 3
        have d4 := cells_at hz 4
        have d5 := cells_at hz 5
        have d6 := cells_at hz 6
        have d7 := cells_at hz 7
        have k0 := cells_at hxz 0
        have k1 := cells_at hxz 1
        have k2 := cells_at hxz 2
        have k3 := cells_at hxz 3
        simp at d0 d1 d2 d3 d4 d5 d6 d7 k0 k1 k2 k3
        have hb1 := lt_of_heap hz
        have hb2 := lt_of_heap hxz
        clear hzz hwz hz hxz c0 c1 c2 c3 c4 c5 c6 c7
        go_region_held3 (fun W => W.cell? ⟨z, 0, none⟩ = some (.int .i64 p.1.area) ∧ W.cell? ⟨z, 1, none⟩ = some (.int .i64 p.1.kind) ∧ W.cell? ⟨z, 2, none⟩ = some (.int .i64 p.1.owner) ∧ W.cell? ⟨z, 3, none⟩ = some (.int .i64 p.1.key) ∧ W.cell? ⟨z, 4, none⟩ = some (.int .i64 p.1.seq) ∧ W.cell? ⟨z, 5, none⟩ = some (.slice pa p.1.near.length pc) ∧ W.cell? ⟨z, 6, none⟩ = some (.int .i64 p.1.cost) ∧ W.cell? ⟨z, 7, none⟩ = some (.bool p.1.far) ∧ W.cell? ⟨w.heap.size, 0, none⟩ = some (.int .i64 r.area) ∧ W.cell? ⟨w.heap.size, 1, none⟩ = some (.int .i64 r.kind) ∧ W.cell? ⟨w.heap.size, 2, none⟩ = some (.int .i64 r.owner) ∧ W.cell? ⟨w.heap.size, 3, none⟩ = some (.int .i64 r.key)) (first | go_keep | (refine ⟨?_, ?_, ?_, ?_, ?_, ?_, ?_, ?_, ?_, ?_, ?_, ?_⟩ <;> (rw [hbc.cell (by assumption)]; assumption))) (first | (refine (HK.out _).mono ?_; rintro e w1 ⟨rfl, hbc⟩))
        go_wp2
        go_returns
        refine ⟨?_, BWR.trans ((BZ.mono (by omega)).trans ((Below.refl _ _).drew.trans (hbc.mono (show w.heap.size ≤ wz.heap.size by omega))))⟩
        rw [atZ_found HPP.out HQQ.out.symm HALL.out]
        unfold plV
        rw [if_neg (by omega)]
        rfl
    · have hkn : k = ps.length := by omega
      have KN := hide hkn
      clear hkn
      go_wp2
      go_returns
      refine ⟨?_, BWR⟩
      rw [atZ_none (by have h := HALL.out; rw [KN.out] at h; simpa [fsts] using h)]
      rfl
end Go.Proofs.YtcimbiinljcifaaGreat
