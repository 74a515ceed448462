/-
  laws.markRecordS, heldRecordS: only the list's own memory turns; what was marked is held.
  A list of records to which one more is put.
  spec.SameKey, spec.SameBody: their contracts.
  impl.Record.key, impl.SameKey: their contracts.
  spec.l01In: its contract.
  impl.isIn, cmp.isNaN, cmp.Compare: their contracts.
  spec.Before: its contract.
  Regions that draw their order, by hand: one operation at a time, in the text's order.
  A key of four numbers in a block.
  slices.Compare at two keys, impl.Before: their contracts.
  Where a key stands in a list: spec.l05At, impl's placeOf.
  Lists of records that may share the rows of others; spec.l04CopyList, impl.ownRecords.
  spec.l05At, impl's placeOf at lists that may share rows.
-/
import Derived.Test.YtakiifededfjlaaGreatRm1
import Derived.Laws.StructEq
import Derived.Deep.RegionHeld3
import Derived.ChangeKeysEq
namespace Go.Proofs.YtakiifededfjlaaGreat
open Go.RowKit
set_option linter.unusedSimpArgs false
set_option linter.unusedVariables false
set_option maxRecDepth 100000
set_option maxHeartbeats 8000000
theorem ZiG (ps : List RP) : ps.Pairwise Zky ↔ (ps.map (·.2)).Pairwise (fun a b : Value => ∀ k, a.ownBlock = some k -> b.ownBlock ≠ some k) := by
 rw [List.pairwise_map]
 exact Iff.rfl
theorem ZmX {ps : List RP} (h : ps.Pairwise Zky) {i k : Nat} {p q : RP} (hi : ps[i]? = some p) (hk : ps[k]? = some q) (hne : i ≠ k) : Zky p q := by
 obtain ⟨h1, e1⟩ := List.getElem?_eq_some_iff.1 hi
 obtain ⟨h2, e2⟩ := List.getElem?_eq_some_iff.1 hk
 rw [List.pairwise_iff_getElem] at h
 rcases Nat.lt_or_ge i k with hl | hl
 ·have := h i k h1 h2 hl
  rw [e1, e2] at this
  exact this
 ·have := h k i h2 h1 (by omega)
  rw [e1, e2] at this
  exact fun j hj he => this j he hj
theorem Zn2 {ps : List RP} {k : Nat} {p q : RP} (hk : ps[k]? = some p) (h : q.2 = p.2) : (ps.set k q).map (·.2) = ps.map (·.2) := by
 apply List.ext_getElem?
 intro i
 by_cases e : i = k
 ·subst e
  obtain ⟨h1, e1⟩ := List.getElem?_eq_some_iff.1 hk
  rw [List.getElem?_map, List.getElem?_set_self h1, List.getElem?_map, hk]
  simp [h]
 ·simp [List.getElem?_set_ne (Ne.symm e)]
theorem RecsOwn.turn {W W8 : World} {lo hi g n cap k : Nat} {xs : List RP} {p q : RP} (h : RecsOwn W lo hi (.slice (some ⟨g, 0, none⟩) n cap) xs) (hn : xs.length = n) (hk : xs[k]? = some p) (hq : q.2 = p.2)
  (row : W8.ownsRow lo 64 8 (.slice (some ⟨g, 0, none⟩) n cap) n (flat encP (xs.set k q))) (near : W8.ownsRow lo 67 2 q.2 q.1.near.length (flat nrE q.1.near))
  (hkeep : ∀ j, j < W.heap.size -> j ≠ g -> some j ≠ p.2.ownBlock -> W8.heap[j]? = W.heap[j]?) : RecsOwn W8 lo hi (.slice (some ⟨g, 0, none⟩) n cap) (xs.set k q) where
 row := by rw [List.length_set, hn]; exact row
 top := h.top
 apart := by rw [ZiG, Zn2 hk hq, <- ZiG]; exact h.apart
 nears := by
  intro r hr
  obtain ⟨i, hi, e⟩ := List.getElem_of_mem hr
  have hr2 : (xs.set k q)[i]? = some r := by rw [<- e]; exact List.getElem?_eq_getElem hi
  by_cases ek : i = k
  ·subst ek
   rw [List.getElem?_set_self (by simpa using hi)] at hr2
   cases hr2
   refine ⟨near, ?_⟩
   rw [hq]
   exact (h.nears p (List.mem_of_getElem? hk)).2
  ·rw [List.getElem?_set_ne (Ne.symm ek)] at hr2
   have ho := h.nears r (List.mem_of_getElem? hr2)
   refine ⟨Zap ho.1 (fun j hj => ?_), ho.2⟩
   refine hkeep j (ho.1.lt j hj).2 ?_ ?_
   ·rintro rfl
    obtain ⟨cur, hh⟩ : ∃ cur, W.heap[j]? = some (.cells cur 64 (0, 0)) := by
     rcases h.row.2 with ⟨h0, _⟩ | ⟨g', cap', cur', hv', _, hh', _⟩
     ·cases h0
     ·cases hv'; exact ⟨cur', hh'⟩
    rcases ho.1.2 with ⟨h0, _⟩ | ⟨g', cap', cur', hv', _, hh', _⟩
    ·rw [h0] at hj; simp [Value.ownBlock] at hj
    ·rw [hv'] at hj
     simp [Value.ownBlock] at hj
     subst hj
     rw [hh] at hh'
     simp at hh'
   ·intro he
    exact ZmX h.apart hr2 hk ek j hj he.symm
theorem Zaq {W : World} {base size n z : Nat} {e t : TypeId} {v : Value} {xs : List Value} {C : Array Value} {fr : Nat × Nat} (ho : W.ownsRow base e size v n xs) (h : W.heap[z]? = some (.cells C t fr)) (hne : e ≠ t) : some z ≠ v.ownBlock := by
 intro eq
 rcases ho.2 with ⟨h1, _⟩ | ⟨g', cap', cur', hv', _, hh', _⟩
 ·rw [h1] at eq; simp [Value.ownBlock] at eq
 ·rw [hv'] at eq
  simp [Value.ownBlock] at eq
  subst eq
  rw [h] at hh'
  simp at hh'
  exact hne hh'.2.1.symm
theorem ZaJ {α : Type} {enc : α -> List Value} {sz bytes : Nat} (hlen : ∀ a, (enc a).length = sz) (hpos : 0 < sz) (hbb : bytes <= 100) {P : Program} (w : World) {ops : Array Oper} {rest : List Oper} {o : Oper} {a : Act} {Q : Exit -> Act -> World -> Prop} (hgd : o.guard = none) (s x : Operand) (t : TypeId)
  (ho : o.op = .call { callee := .builtin .append, args := #[s, x], argTypes := #[t, t] }) (base : Nat) (e : TypeId) (ht : P.underlying t = some (.slice e)) (zv : Value) (hzv : zv.cells.size = sz)
  (hinfo : (P.info? e).map (fun i => (i.zero, i.size, i.bytes)) = some (some zv, sz, bytes))
  (v : Value) (l : List α) (y : α) (hone : ∀ u ∈ enc y, u.oneCell' = true) (hs : a.eval s = v) (hown : w.ownsRow base e sz v l.length (flat enc l))
  (ad : Addr) (c : Nat) (hx : a.eval x = .slice (some ad) 1 c) (hnews : ∀ j u, (enc y)[j]? = some u -> w.cell? (ad.add j) = some u)
  (hl : l.length + 1 <= 1000000000) (hbase : base <= w.heap.size)
  (h : ∀ v' w', w'.ownsRow base e sz v' (l ++ [y]).length (flat enc (l ++ [y])) -> w.grownBy w' v.ownBlock -> wpList P ops Q rest (a.put o.dst v') w') : wpList P ops Q (o :: rest) a w := by
 obtain ⟨i0, hi, hz0, hz1, hz2⟩ := info_parts hinfo
 refine wpList_append_own w hgd s x t ho base e i0 zv sz bytes ht hi hz0 hz1 hz2 hzv hpos v l.length (flat enc l) hs hown ad 1 c (enc y) hx (by rw [hlen]; omega) hnews hone (by unfold maxLen; omega) ?_ hbase ?_
 ·have : (l.length + 1) * bytes <= 1000000000 * 100 := Nat.mul_le_mul hl hbb
  omega
 ·intro v' w' h1 h2 _
  have e1 : flat enc l ++ enc y = flat enc (l ++ [y]) := by rw [ZaO]; simp [flat]
  rw [e1] at h1
  exact h v' w' (by simpa using h1) h2
theorem ZcA (x : RecD) (a : Option Addr) (n c : Nat) : ∀ u ∈ encP (x, .slice a n c), u.oneCell' = true := by
 intro u hu
 simp only [encP, List.mem_cons, List.not_mem_nil, or_false] at hu
 rcases hu with rfl | rfl | rfl | rfl | rfl | rfl | rfl | rfl <;> rfl
theorem Zgm {W : World} {lo lo2 hi n size2 : Nat} {v : Value} {xs : List Value} {q : RP} (hq : ZaT W lo hi q) (hr : W.ownsRow lo2 64 size2 v n xs) (j : Nat) (hj : q.2.ownBlock = some j) : some j ≠ v.ownBlock := by
 intro e
 rcases hr.2 with ⟨h0, _⟩ | ⟨g, cap, cur, hv, _, hh, _⟩
 ·rw [h0] at e; simp [Value.ownBlock] at e
 ·rw [hv] at e
  simp [Value.ownBlock] at e
  subst e
  exact Zaq hq.1 hh (by decide) hj.symm
theorem RecsOwn.push {W Wa W2 : World} {lo : Nat} {v v' : Value} {qs : List RP} {p : RP} (h : RecsOwn W lo W.heap.size v qs) (hb : Below W.heap.size W Wa) (hlo : lo <= W.heap.size) (hp : ZaT Wa W.heap.size Wa.heap.size p)
  (row : W2.ownsRow lo 64 8 v' (qs.length + 1) (flat encP (qs ++ [p]))) (hg : Wa.grownBy W2 v.ownBlock) : RecsOwn W2 lo W2.heap.size v' (qs ++ [p]) where
 row := by simpa using row
 top := fun k hk => (row.lt k hk).2
 apart := Zl6 h.apart h.nears (fun k hk => (hp.1.lt k hk).1)
 nears := by
  have rowa := Zae h.row hb (Nat.le_refl _)
  have key : ∀ q, ZaT Wa lo Wa.heap.size q -> ZaT W2 lo W2.heap.size q := fun q hq =>
   ⟨Zap hq.1 (fun j hj => hg.block j (hq.2 j hj) (Zgm hq rowa j hj)), fun k hk => Nat.lt_of_lt_of_le (hq.2 k hk) hg.size⟩
  intro q hq
  rcases List.mem_append.1 hq with h1 | h1
  ·exact key q (((h.nears q h1).keep (W' := Wa) (fun j _ h2 _ => hb.block j h2)).wide (Nat.le_refl _) hb.size)
  ·have : q = p := by simpa using h1
   subst this
   exact key q (hp.wide hlo (Nat.le_refl _))
theorem ZfH (W : World) (lo : Nat) (hb : lo <= W.heap.size) : RecsOwn (W.alloc (.cells #[] 64)) lo (W.alloc (.cells #[] 64)).heap.size (.slice (some ⟨W.heap.size, 0, none⟩) 0 0) [] where
 row := World.ownsRow_lit W #[] 0 hb (by unfold maxLen; omega) (by simp)
 top := by intro k hk; simp [Value.ownBlock] at hk; subst hk; simp
 nears := by simp
 apart := by simp
def Zba (x y : RecD) : Bool := x.area == y.area && x.kind == y.kind && x.owner == y.owner && x.key == y.key
theorem Zin (v1 v2 : Value) (x y : RecD) (w : World) : Calls Tryz.prog 114 #[.agg (recC x v1), .agg (recC y v2)] w fun e w' => e = .returned (.bool (Zba x y)) /\ Below w.heap.size w w' := by
 obtain ⟨a0, a1, a2, a3, a4, ns, a6, a7⟩ := x
 obtain ⟨b0, b1, b2, b3, b4, ms, b6, b7⟩ := y
 unfold recC
 simp only []
 go_enter Tryz.func114, Tryz.ntmps114
 go_wp2
 all_goals go_ret
 all_goals refine ⟨Zaj ?_, Za1 _ _⟩
 all_goals (simp only [Zba]; grind)
def keyC (x : RecD) : Array Value := #[.int .i64 x.area, .int .i64 x.kind, .int .i64 x.owner, .int .i64 x.key]
theorem Zmy (v1 : Value) (x : RecD) (w : World) : Calls Tryz.prog 181 #[.agg (recC x v1)] w fun e w' => e = .returned (.agg (keyC x)) /\ Below w.heap.size w w' := by
 obtain ⟨a0, a1, a2, a3, a4, ns, a6, a7⟩ := x
 unfold recC keyC
 simp only []
 go_enter Tryz.func181, Tryz.ntmps181
 go_wp2
 go_returns
 exact ⟨rfl, Za1 _ _⟩
theorem Zmk (a0 a1 a2 a3 a4 : Int) (v : Value) (a6 : Int) (a7 : Bool) (w : World) : Calls Tryz.prog 181 #[.agg #[.int .i64 a0, .int .i64 a1, .int .i64 a2, .int .i64 a3, .int .i64 a4, v, .int .i64 a6, .bool a7]] w fun e w' => e = .returned (.agg #[.int .i64 a0, .int .i64 a1, .int .i64 a2, .int .i64 a3]) /\ Below w.heap.size w w' :=
 Zmy v ⟨a0, a1, a2, a3, a4, [], a6, a7⟩ w
def inB (x a b : Int) : Bool := decide (a <= x) && decide (x <= b)
theorem ZbE (x a b : Int) (w : World) : Calls Tryz.prog 48 #[.int .i64 x, .int .i64 a, .int .i64 b] w fun e w' => e = .returned (.bool (inB x a b)) /\ w = w' := by
 by_cases h1 : a <= x <;> by_cases h2 : x <= b
 all_goals
  go_enter Tryz.func48, Tryz.ntmps48
  go_wp2
  go_ret
  exact ⟨by simp [inB, h1, h2], rfl⟩
theorem Zb5 (x a b : Int) (w : World) : Calls Tryz.prog 70 #[.int .i64 x, .int .i64 a, .int .i64 b] w fun e w' => e = .returned (.bool (inB x a b)) /\ w = w' := by
 by_cases h1 : a <= x <;> by_cases h2 : x <= b
 all_goals
  go_enter Tryz.func70, Tryz.ntmps70
  go_wp2
  go_ret
  exact ⟨by simp [inB, h1, h2], rfl⟩
def cmpN (a b : Int) : Int := if a < b then -1 else if b < a then 1 else 0
theorem Zcl {a b : Int} : cmpN a b = 0 ↔ a = b := by unfold cmpN; split <;> (try split) <;> omega
theorem Zdx {a b : Int} : cmpN a b < 0 ↔ a < b := by unfold cmpN; split <;> (try split) <;> omega
theorem ZiL {a b : Int} (h : b = a) : Ending.returned (.int .i64 a) = .returned (.int .i64 b) := by rw [h]
theorem ZiS (a : Int) (w : World) : Calls Tryz.prog 126 #[.int .i64 a] w fun e w' => e = .returned (.bool false) /\ w = w' := by
 go_enter Tryz.func126, Tryz.ntmps126
 go_wp2
 go_ret
 exact ⟨by simp, rfl⟩
theorem Zbl (a b : Int) (w : World) : Calls Tryz.prog 105 #[.int .i64 a, .int .i64 b] w fun e w' => e = .returned (.int .i64 (cmpN a b)) /\ w = w' := by
 go_enter Tryz.func105, Tryz.ntmps105
 go_wp2_with fail
 refine (ZiS a _).mono ?_
 rintro e w1 ⟨rfl, rfl⟩
 go_wp2_with fail
 refine (ZiS b _).mono ?_
 rintro e w1 ⟨rfl, rfl⟩
 go_wp2
 all_goals go_ret
 all_goals refine ⟨ZiL ?_, rfl⟩
 all_goals (unfold cmpN; grind)
def Zaz (x y : RecD) : Bool := decide (x.area < y.area) || (x.area == y.area && (decide (x.kind < y.kind) || (x.kind == y.kind && (decide (x.owner < y.owner) || (x.owner == y.owner && decide (x.key < y.key))))))
theorem Zee (v1 v2 : Value) (x y : RecD) (w : World) : Calls Tryz.prog 58 #[.agg (recC x v1), .agg (recC y v2)] w fun e w' => e = .returned (.bool (Zaz x y)) /\ Below w.heap.size w w' := by
 obtain ⟨a0, a1, a2, a3, a4, ns, a6, a7⟩ := x
 obtain ⟨b0, b1, b2, b3, b4, ms, b6, b7⟩ := y
 unfold recC
 simp only []
 go_enter Tryz.func58, Tryz.ntmps58
 go_wp2
 all_goals go_ret
 all_goals refine ⟨Zaj ?_, Za1 _ _⟩
 all_goals (simp only [Zaz]; grind)
end Go.Proofs.YtakiifededfjlaaGreat
namespace Go.Proofs.YtakiifededfjlaaGreat
open Go.RowKit

theorem putS : (∀ (a : Act) (v : Value), a.put none v = a) /\ (∀ (a : Act) (t : Nat) (v : Value), a.put (some t) v = { a with tmps := a.tmps.setIfInBounds t v }) /\ (∀ (l : List Value) (i : Nat) (v : Value), l.toArray.setIfInBounds i v = (l.set i v).toArray) /\ (∀ (x v : Value) (l : List Value), (x :: l).set 0 v = v :: l) /\ (∀ (x v : Value) (l : List Value) (n : Nat), (x :: l).set (n + 1) v = x :: l.set n v) :=
 ⟨fun _ _ => rfl, fun _ _ _ => rfl, fun _ _ _ => by simp, fun _ _ _ => rfl, fun _ _ _ _ => rfl⟩

theorem getS : (∀ (l : List Oper) (i : Nat), l.toArray[i]? = l[i]?) /\ (∀ (x : Oper) (l : List Oper), (x :: l)[0]? = some x) /\ (∀ (x : Oper) (l : List Oper) (n : Nat), (x :: l)[n + 1]? = l[n]?) :=
 ⟨fun _ _ => by simp, fun _ _ => rfl, fun _ _ _ => rfl⟩

def Zet (ops : Array Oper) (listed : Array Bool) (i : Nat) : Bool := Region.noSelect ops && Region.free .any ops listed i && (Region.ready .any ops listed).contains i

theorem ZeU {ops : Array Oper} {listed : Array Bool} {i : Nat} (h : Zet ops listed i = true) : Region.noSelect ops = true /\ Region.free .any ops listed i = true /\ (Region.ready .any ops listed).contains i = true := by
 unfold Zet at h
 simp only [Bool.and_eq_true] at h
 exact ⟨h.1.1, h.1.2, h.2⟩

section
variable {P : Program} {ops : Array Oper} {Q : Exit -> Act -> World -> Prop} {S : World -> Prop} {fuel : Nat} {listed : Array Bool} {a : Act} {w : World}

/-- the beginning: the region's operations behind a letter -/
theorem Zai {id : Nat} (hm : P.follows .mixedOrders = true) (n : Nat) (hn : ops.size = n) (hS : S w.drew) (h : ∀ ops', Hid (ops' = ops) -> S w.drew -> wpAnyH P .any ops' Q S n (Array.replicate n false) a w.drew) : (Code.region id ops true).wp P Q a w := by
 refine wp_region_held_drew hm hS (fun hs => ?_)
 rw [hn]
 exact h ops rfl hs

/-- an operation that isn't wanted -/
theorem ZlO (i : Nat) (d : Tmp) (hi : (ops[i]?).map Oper.dst = some (some d)) (ht : Zet ops listed i = true) (hw : (ops[i]?).map (fun o => Region.wanted o (yielded ops a.tmps)) = some false)
  (hQ : ∀ c a w, Q (.panic c) (a.put (some d) undef) w -> Q (.panic c) a w) (hS : S w) (h : wpAnyH P .any ops Q S fuel (listed.setIfInBounds i true) (a.put (some d) undef) w) : wpAnyH P .any ops Q S (fuel + 1) listed a w := by
 obtain ⟨h1, h2, h3⟩ := ZeU ht
 cases ho : ops[i]? with
 | none => rw [ho] at hi; cases hi
 | some oi =>
  rw [ho] at hi hw
  simp only [Option.map_some, Option.some.injEq] at hi hw
  refine wpAnyH_take ho h1 h2 h3 (v := undef) ?_ (Or.inr ⟨hw, rfl⟩) hS ?_
  ·rw [hi]; exact hQ
  ·rw [hi]; exact h

/-- an operation that yields v in every world that meets S -/
theorem ZaV (i : Nat) {oi : Oper} {v : Value} (hi : ops[i]? = some oi) (ht : Zet ops listed i = true) (hw : Region.wanted oi (yielded ops a.tmps) = true) (hy : ∀ w, S w -> (execOp a.eval oi).run P w = .ok (.value v) w)
  (hQ : ∀ c a w, Q (.panic c) (a.put oi.dst v) w -> Q (.panic c) a w) (hS : S w) (h : wpAnyH P .any ops Q S fuel (listed.setIfInBounds i true) (a.put oi.dst v) w) : wpAnyH P .any ops Q S (fuel + 1) listed a w := by
 obtain ⟨h1, h2, h3⟩ := ZeU ht
 exact wpAnyH_take hi h1 h2 h3 hQ (Or.inl ⟨hw, hy⟩) hS h

/-- a call that alone may come up -/
theorem Zak (i : Nat) {oi : Oper} (hi : ops[i]? = some oi) (hr : Region.ready .any ops listed = [i]) (hw : Region.wanted oi (yielded ops a.tmps) = true)
  (h : ∀ K' : Act -> World -> Prop, Shut (∀ a w, S w -> (S w -> wpAnyH P .any ops Q S fuel (listed.setIfInBounds i true) a w) -> K' a w) -> Oper.wp P oi a w K' Q) : wpAnyH P .any ops Q S (fuel + 1) listed a w := by
 refine wpAnyH_ready (rs := [i]) hr (by simp) ?_
 refine AllReadyH.cons hi (fun K hK => ?_) AllReadyH.nil
 rw [if_pos hw]
 exact h K hK
theorem Zad (i : Nat) (d : Tmp) (hb : ((ops[i]?).map Oper.dst == some (some d) && (Zet ops listed i && (ops[i]?).map (fun o => Region.wanted o (yielded ops a.tmps)) == some false)) = true)
  (hQ : ∀ c a w, Q (.panic c) (a.put (some d) undef) w -> Q (.panic c) a w) (hS : S w) (h : wpAnyH P .any ops Q S fuel (listed.setIfInBounds i true) (a.put (some d) undef) w) : wpAnyH P .any ops Q S (fuel + 1) listed a w := by
 simp only [Bool.and_eq_true, beq_iff_eq] at hb
 exact ZlO i d hb.1 hb.2.1 hb.2.2 hQ hS h

theorem ZaZ (i : Nat) (oi : Oper) (v : Value) (hi : ops[i]? = some oi) (hb : (Zet ops listed i && (ops[i]?).map (fun o => Region.wanted o (yielded ops a.tmps)) == some true) = true) (hy : ∀ w, S w -> (execOp a.eval oi).run P w = .ok (.value v) w)
  (hQ : ∀ c a w, Q (.panic c) (a.put oi.dst v) w -> Q (.panic c) a w) (hS : S w) (h : wpAnyH P .any ops Q S fuel (listed.setIfInBounds i true) (a.put oi.dst v) w) : wpAnyH P .any ops Q S (fuel + 1) listed a w := by
 simp only [Bool.and_eq_true, beq_iff_eq] at hb
 have h2 := hb.2
 rw [hi] at h2
 simp only [Option.map_some, Option.some.injEq] at h2
 exact ZaV i hi hb.1 h2 hy hQ hS h

theorem Zas (n : Nat) (oi : Oper) (v : Value) (hi : ops[n - (fuel + 1)]? = some oi) (hb : (Zet ops listed (n - (fuel + 1)) && (ops[n - (fuel + 1)]?).map (fun o => Region.wanted o (yielded ops a.tmps)) == some true) = true) (hy : ∀ w, S w -> (execOp a.eval oi).run P w = .ok (.value v) w)
  (hQ : ∀ c a w, Q (.panic c) (a.put oi.dst v) w -> Q (.panic c) a w) (hS : S w) (h : wpAnyH P .any ops Q S fuel (listed.setIfInBounds (n - (fuel + 1)) true) (a.put oi.dst v) w) : wpAnyH P .any ops Q S (fuel + 1) listed a w :=
 ZaZ (n - (fuel + 1)) oi v hi hb hy hQ hS h

end
end Go.Proofs.YtakiifededfjlaaGreat
namespace Go.Proofs.YtakiifededfjlaaGreat
open Go.RowKit
set_option linter.unusedSimpArgs false
set_option linter.unusedVariables false
set_option maxRecDepth 100000
set_option maxHeartbeats 8000000
def Zea (W : World) (p : Nat) (a b c d : Int) : Prop := (W.cell? ⟨p, 0, none⟩ = some (.int .i64 a) /\ W.cell? ⟨p, 1, none⟩ = some (.int .i64 b) /\ W.cell? ⟨p, 2, none⟩ = some (.int .i64 c) /\ W.cell? ⟨p, 3, none⟩ = some (.int .i64 d)) /\ W.frozen? ⟨p, 0, none⟩ = false /\ W.frozen? ⟨p, 1, none⟩ = false /\ W.frozen? ⟨p, 2, none⟩ = false /\ W.frozen? ⟨p, 3, none⟩ = false
theorem Zea.lt {W : World} {p : Nat} {a b c d : Int} (h : Zea W p a b c d) : p < W.heap.size := World.block_lt_of_cell? W _ h.1.1
theorem Zea.below {W w2 : World} {p : Nat} {a b c d : Int} (h : Zea W p a b c d) (hb : Below W.heap.size W w2) : Zea w2 p a b c d := by
 have hp := h.lt
 obtain ⟨⟨h0, h1, h2, h3⟩, f0, f1, f2, f3⟩ := h
 refine ⟨⟨?_, ?_, ?_, ?_⟩, ?_, ?_, ?_, ?_⟩
 ·rw [hb.cell (p := ⟨p, 0, none⟩) hp]; exact h0
 ·rw [hb.cell (p := ⟨p, 1, none⟩) hp]; exact h1
 ·rw [hb.cell (p := ⟨p, 2, none⟩) hp]; exact h2
 ·rw [hb.cell (p := ⟨p, 3, none⟩) hp]; exact h3
 ·rw [hb.frozen (p := ⟨p, 0, none⟩) hp]; exact f0
 ·rw [hb.frozen (p := ⟨p, 1, none⟩) hp]; exact f1
 ·rw [hb.frozen (p := ⟨p, 2, none⟩) hp]; exact f2
 ·rw [hb.frozen (p := ⟨p, 3, none⟩) hp]; exact f3
theorem Zea.alloc {W : World} {p : Nat} {a b c d : Int} (h : Zea W p a b c d) (o : Obj) : Zea (W.alloc o) p a b c d := h.below ((Below.refl _ _).alloc (Nat.le_refl _) _)
theorem Zea.same {W W' : World} {p : Nat} {a b c d : Int} (h : Zea W p a b c d) (e : W.heap = W'.heap) : Zea W' p a b c d := by
 unfold Zea World.cell? World.frozen? at *
 rw [<- e]
 exact h
def cmpK (a b c d : Int) : Int := if a = 0 then (if b = 0 then (if c = 0 then d else c) else b) else a
theorem ZnG (x y : RecD) : decide (cmpK (cmpN x.area y.area) (cmpN x.kind y.kind) (cmpN x.owner y.owner) (cmpN x.key y.key) < 0) = Zaz x y := by
 unfold cmpK Zaz
 by_cases h1 : x.area = y.area
 ·rw [if_pos (Zcl.2 h1)]
  by_cases h2 : x.kind = y.kind
  ·rw [if_pos (Zcl.2 h2)]
   by_cases h3 : x.owner = y.owner
   ·rw [if_pos (Zcl.2 h3)]
    simp [Zdx, h1, h2, h3]
   ·rw [if_neg (fun h => h3 (Zcl.1 h))]
    simp [Zdx, h1, h2, h3]
  ·rw [if_neg (fun h => h2 (Zcl.1 h))]
   simp [Zdx, h1, h2]
 ·rw [if_neg (fun h => h1 (Zcl.1 h))]
  simp [Zdx, h1]
theorem Zik (p q : Nat) (a b c d a' b' c' d' : Int) (w : World) (h : Zea w p a b c d) (h' : Zea w q a' b' c' d') :
  Calls Tryz.prog 128 #[.slice (some ⟨p, 0, none⟩) 4 4, .slice (some ⟨q, 0, none⟩) 4 4] w fun e w' => e = .returned (.int .i64 (cmpK (cmpN a a') (cmpN b b') (cmpN c c') (cmpN d d'))) /\ w = w' := by
 obtain ⟨⟨h0, h1, h2, h3⟩, _⟩ := h
 obtain ⟨⟨g0, g1, g2, g3⟩, _⟩ := h'
 have C0 := hide (Zbl a a')
 have C1 := hide (Zbl b b')
 have C2 := hide (Zbl c c')
 have C3 := hide (Zbl d d')
 generalize cmpN a a' = k0 at C0 |-
 generalize cmpN b b' = k1 at C1 |-
 generalize cmpN c c' = k2 at C2 |-
 generalize cmpN d d' = k3 at C3 |-
 go_enter Tryz.func128, Tryz.ntmps128
 go_wp2
 refine wp_loop_rounds 5 ?_
 rw [rounds_succ]
 go_wp2_with fail
 refine (C0.out _).mono ?_
 rintro e w1 ⟨rfl, rfl⟩
 by_cases z0 : k0 = 0
 case neg =>
  have hd : (k0 != 0) = true := by simpa using z0
  have E0 := hide (show cmpK k0 k1 k2 k3 = k0 by unfold cmpK; rw [if_neg z0])
  clear z0
  go_wp2
  go_ret
  exact ⟨ZiL E0.out, rfl⟩
 subst z0
 go_wp2
 rw [rounds_succ]
 go_wp2_with fail
 refine (C1.out _).mono ?_
 rintro e w1 ⟨rfl, rfl⟩
 by_cases z1 : k1 = 0
 case neg =>
  have hd : (k1 != 0) = true := by simpa using z1
  have E0 := hide (show cmpK 0 k1 k2 k3 = k1 by unfold cmpK; rw [if_pos rfl, if_neg z1])
  clear z1
  go_wp2
  go_ret
  exact ⟨ZiL E0.out, rfl⟩
 subst z1
 go_wp2
 rw [rounds_succ]
 go_wp2_with fail
 refine (C2.out _).mono ?_
 rintro e w1 ⟨rfl, rfl⟩
 by_cases z2 : k2 = 0
 case neg =>
  have hd : (k2 != 0) = true := by simpa using z2
  have E0 := hide (show cmpK 0 0 k2 k3 = k2 by unfold cmpK; rw [if_pos rfl, if_pos rfl, if_neg z2])
  clear z2
  go_wp2
  go_ret
  exact ⟨ZiL E0.out, rfl⟩
 subst z2
 go_wp2
 rw [rounds_succ]
 go_wp2_with fail
 refine (C3.out _).mono ?_
 rintro e w1 ⟨rfl, rfl⟩
 by_cases z3 : k3 = 0
 case neg =>
  have hd : (k3 != 0) = true := by simpa using z3
  have E0 := hide (show cmpK 0 0 0 k3 = k3 by unfold cmpK; rfl)
  clear z3
  go_wp2
  go_ret
  exact ⟨ZiL E0.out, rfl⟩
 subst z3
 go_wp2
 rw [rounds_succ]
 go_wp2
 go_ret
 exact ⟨ZiL rfl, rfl⟩
theorem Zhm (a b c d a' b' c' d' : Int) (w : World) : Calls Tryz.prog 111 #[.agg #[.int .i64 a, .int .i64 b, .int .i64 c, .int .i64 d], .agg #[.int .i64 a', .int .i64 b', .int .i64 c', .int .i64 d']] w fun e w' => e = .returned (.int .i64 (cmpK (cmpN a a') (cmpN b b') (cmpN c c') (cmpN d d'))) /\ Below w.heap.size w w' := by
 obtain ⟨r, hr⟩ : ∃ r, r = cmpK (cmpN a a') (cmpN b b') (cmpN c c') (cmpN d d') := ⟨_, rfl⟩
 obtain ⟨w1, hw1⟩ : ∃ w1, w1 = (w.alloc (.cells #[.int .i64 a, .int .i64 b, .int .i64 c, .int .i64 d] 157)).alloc (.cells #[.int .i64 a', .int .i64 b', .int .i64 c', .int .i64 d'] 157) := ⟨_, rfl⟩
 have B1 : Below w.heap.size w w1 := by rw [hw1]; exact Za1 _ _
 have p0 : w1.heap[w.heap.size]? = some (.cells #[.int .i64 a, .int .i64 b, .int .i64 c, .int .i64 d] 157) := by rw [hw1, Below.heap_alloc _ _ _ (by simp), heap_alloc_new]
 have q0 : w1.heap[w.heap.size + 1]? = some (.cells #[.int .i64 a', .int .i64 b', .int .i64 c', .int .i64 d'] 157) := by
  rw [hw1]
  have := heap_alloc_new (w.alloc (.cells #[.int .i64 a, .int .i64 b, .int .i64 c, .int .i64 d] 157)) (.cells #[.int .i64 a', .int .i64 b', .int .i64 c', .int .i64 d'] 157)
  simpa using this
 have kp : Zea w1 w.heap.size a b c d := ⟨⟨Zaa p0 0, Zaa p0 1, Zaa p0 2, Zaa p0 3⟩, Zaf p0 0, Zaf p0 1, Zaf p0 2, Zaf p0 3⟩
 have kq : Zea w1 (w.heap.size + 1) a' b' c' d' := ⟨⟨Zaa q0 0, Zaa q0 1, Zaa q0 2, Zaa q0 3⟩, Zaf q0 0, Zaf q0 1, Zaf q0 2, Zaf q0 3⟩
 have HC := hide (fun W' (h : w1.heap = W'.heap) => Zik w.heap.size (w.heap.size + 1) a b c d a' b' c' d' W' (kp.same h) (kq.same h))
 rw [<- hr] at HC |-
 clear kp kq p0 q0 hr
 go_enter Tryz.func111, Tryz.ntmps111
 go_wp2
 rw [<- hw1]
 clear hw1
 go_region_held3 (fun W' => w1.heap = W'.heap) (first | rfl | assumption | go_keep) (first | (go_at_call 128; refine (HC.out _ ?_).mono ?_; (first | rfl | assumption); rintro e w3 ⟨rfl, rfl⟩))
 go_wp2
 go_ret
 exact ⟨rfl, B1.drew⟩
def atZ (xs : List RecD) (r : RecD) : Int := match xs.findIdx? (fun x => Zba x r) with
 | some i => (i : Int)
 | none => -1
theorem Zl4 {xs : List RecD} {r x : RecD} {k : Nat} (hk : xs[k]? = some x) (hs : Zba x r = true) (hall : ∀ j, j < k -> ∀ y, xs[j]? = some y -> Zba y r = false) : atZ xs r = (k : Int) := by
 obtain ⟨h1, e1⟩ := List.getElem?_eq_some_iff.1 hk
 have : xs.findIdx? (fun x => Zba x r) = some k := by
  rw [List.findIdx?_eq_some_iff_getElem]
  refine ⟨h1, by rw [e1]; exact hs, fun j hj => ?_⟩
  have := hall j hj xs[j] (List.getElem?_eq_getElem (by omega))
  simp [this]
 unfold atZ
 rw [this]
theorem ZmE {xs : List RecD} {r : RecD} (hall : ∀ j, j < xs.length -> ∀ y, xs[j]? = some y -> Zba y r = false) : atZ xs r = -1 := by
 have : xs.findIdx? (fun x => Zba x r) = none := by
  rw [List.findIdx?_eq_none_iff]
  intro x hx
  obtain ⟨i, hi, e⟩ := List.getElem_of_mem hx
  exact hall i hi x (by rw [<- e]; exact List.getElem?_eq_getElem hi)
 unfold atZ
 rw [this]
theorem Zgo (xs : List RecD) (r : RecD) : atZ xs r = -1 \/ ∃ (k : Nat) (x : RecD), atZ xs r = (k : Int) /\ xs[k]? = some x /\ Zba x r = true := by
 unfold atZ
 cases h : xs.findIdx? (fun x => Zba x r) with
 | none => exact .inl rfl
 | some i =>
  obtain ⟨h1, h2, _⟩ := List.findIdx?_eq_some_iff_getElem.1 h
  exact .inr ⟨i, xs[i], rfl, List.getElem?_eq_getElem h1, h2⟩
structure RecsIn (W : World) (hi : Nat) (v : Value) (ps : List RP) : Prop where
 row : W.ownsRow 0 64 8 v ps.length (flat encP ps)
 top : ∀ k, v.ownBlock = some k -> k < hi
 nears : ∀ p ∈ ps, ZaT W 0 hi p
theorem RecsOwn.in {W : World} {lo hi : Nat} {v : Value} {ps : List RP} (h : RecsOwn W lo hi v ps) : RecsIn W hi v ps := ⟨Zag h.row (Nat.zero_le _), h.top, fun p hp => (h.nears p hp).wide (Nat.zero_le _) (Nat.le_refl _)⟩
theorem RecsIn.keep {W W' : World} {hi : Nat} {v : Value} {ps : List RP} (h : RecsIn W hi v ps) (hk : ∀ k, k < hi -> k < W.heap.size -> W'.heap[k]? = W.heap[k]?) : RecsIn W' hi v ps where
 row := Zap h.row (fun k e => hk k (h.top k e) (h.row.lt k e).2)
 top := h.top
 nears := fun p hp => (h.nears p hp).keep (fun k _ h2 h3 => hk k h2 h3)
theorem RecsIn.below {W W' : World} {hi B : Nat} {v : Value} {ps : List RP} (h : RecsIn W hi v ps) (hb : Below B W W') (hB : hi <= B) : RecsIn W' hi v ps := h.keep (fun k h2 _ => hb.block k (by omega))
theorem RecsIn.wide {W : World} {hi hi' : Nat} {v : Value} {ps : List RP} (h : RecsIn W hi v ps) (hh : hi <= hi') : RecsIn W hi' v ps := ⟨h.row, fun k e => Nat.lt_of_lt_of_le (h.top k e) hh, fun p hp => (h.nears p hp).wide (Nat.le_refl _) hh⟩
theorem RecsIn.at {W : World} {hi : Nat} {v : Value} {ps : List RP} (h : RecsIn W hi v ps) : ZbB W v ps hi := by
 refine ⟨?_, fun p hp => (h.nears p hp).at⟩
 have h1 := Zat h.row
 obtain ⟨a, cap, hv, h2⟩ := h1
 refine ⟨a, cap, hv, ?_⟩
 rcases h2 with h0 | ⟨b, off, ha, hb1, hx⟩
 ·exact .inl h0
 ·exact .inr ⟨b, off, ha, h.top b (by rw [hv, ha]; rfl), hx⟩
theorem ZiC (v : Value) (ps : List RP) (hi : Nat) (w : World) (hv : RecsIn w hi v ps) (hhi : hi <= w.heap.size) (hn : tot ps <= 1048576) :
  Calls Tryz.prog 27 #[v] w fun e w' => ∃ x qs, e = .returned x /\ fsts qs = fsts ps /\ RecsOwn w' w.heap.size w'.heap.size x qs /\ Below w.heap.size w w' := by
 have hnl := ZbL ps
 obtain ⟨a1, c1, rfl⟩ := Zac hv.row
 have HV := hide hv
 clear hv
 have R0 := hide (ZfH w w.heap.size (Nat.le_refl _))
 have B0 : Below w.heap.size w (w.alloc (.cells #[] 64)) := (Below.refl _ _).alloc (Nat.le_refl _) _
 go_enter Tryz.func27, Tryz.ntmps27
 go_wp2
 generalize w.alloc (.cells #[] 64) = w0 at *
 go_loopw [4, 3] (fun i o wr => ∃ (k : Nat) (qs : List RP) (u : Value), k <= ps.length /\ i = .int .i64 k /\ o = u /\ fsts qs = fsts (ps.take k) /\ RecsOwn wr w.heap.size wr.heap.size u qs /\ Below w.heap.size w wr) (fun i _ _ => ps.length - (intOf i).toNat)
 case atStart => exact ⟨0, [], _, by omega, rfl, rfl, by simp [fsts], R0.out, B0⟩
 case round =>
  obtain ⟨k, qs, u, hk, rfl, rfl, hmap, hown, hnx⟩ := hrel
  obtain ⟨ua, uc, rfl⟩ := Zac hown.row
  have hsz := hnx.size
  by_cases hlt : k < ps.length
  ·obtain ⟨p, hp⟩ : ∃ p, ps[k]? = some p := ⟨ps[k], List.getElem?_eq_getElem hlt⟩
   have hat := HV.out.at
   obtain ⟨b, off, cap', hve, hbb, c0, c1, c2, c3, c4, c5, c6, c7, _⟩ := hat.cells k p hp
   cases hve
   rw [<- hnx.cell (p := ⟨b, off + k * 8, none⟩) (Nat.lt_of_lt_of_le hbb hhi)] at c0
   rw [<- hnx.cell (p := ⟨b, off + k * 8 + 1, none⟩) (Nat.lt_of_lt_of_le hbb hhi)] at c1
   rw [<- hnx.cell (p := ⟨b, off + k * 8 + 2, none⟩) (Nat.lt_of_lt_of_le hbb hhi)] at c2
   rw [<- hnx.cell (p := ⟨b, off + k * 8 + 3, none⟩) (Nat.lt_of_lt_of_le hbb hhi)] at c3
   rw [<- hnx.cell (p := ⟨b, off + k * 8 + 4, none⟩) (Nat.lt_of_lt_of_le hbb hhi)] at c4
   rw [<- hnx.cell (p := ⟨b, off + k * 8 + 5, none⟩) (Nat.lt_of_lt_of_le hbb hhi)] at c5
   rw [<- hnx.cell (p := ⟨b, off + k * 8 + 6, none⟩) (Nat.lt_of_lt_of_le hbb hhi)] at c6
   rw [<- hnx.cell (p := ⟨b, off + k * 8 + 7, none⟩) (Nat.lt_of_lt_of_le hbb hhi)] at c7
   have hno := (HV.out.nears p (List.mem_of_getElem? hp)).keep (W' := wr) (fun j _ h2 _ => hnx.block j (by omega))
   obtain ⟨pa, pc, hpn⟩ := Zac hno.1
   have HC := Zlv p.1 p.2 0 wr hno.1 (by have := Zf2 (List.mem_of_getElem? hp); omega)
   unfold recC at HC
   rw [hpn] at c5 HC
   have HCP := hide HC
   have HP := hide hp
   have HM := hide hmap
   have OW := hide hown
   have HQL := hide (show qs.length <= 1048576 by
    have h1 := congrArg List.length hmap
    simp [fsts] at h1
    omega)
   clear hp hmap hown hno hpn HC hat
   have hki : (0 : Int) <= (k : Int) := by omega
   have hkj : (k : Int) < (ps.length : Int) := by omega
   go_wp2_with fail
   refine HCP.out.mono ?_
   rintro e w2 ⟨v1, rfl, hn2, b2⟩
   obtain ⟨n1a, n1c, rfl⟩ := Zac hn2
   have b2s := b2.size
   go_wp2_with (first
    | (at_builtin; refine ZaJ Zck (by omega) (by omega) _ rfl _ _ 31 rfl w.heap.size 64 Tryz.underlying31 (.agg (recC ZbN (.slice none 0 0))) rfl Tryz.infoRec _ qs (p.1, .slice n1a p.1.near.length n1c) (ZcA _ _ _ _) rfl ((Zae OW.out.row b2 (Nat.le_refl _)).alloc _) ⟨w2.heap.size, 0, none⟩ 1 rfl (Zan (cs := encP (p.1, .slice n1a p.1.near.length n1c))) (by have := HQL.out; omega) (by simp; omega) ?_))
   intro v' w4 hown' hgrow
   have ow4 := OW.out.push (p := (p.1, .slice n1a p.1.near.length n1c)) (b2.alloc b2.size _) (by omega) (ZaT.wide (ZaT.keep ⟨hn2, fun k hk => (hn2.lt k hk).2⟩ (fun j _ _ h3 => Below.heap_alloc _ _ _ h3)) (Nat.le_refl _) (by simp)) hown' hgrow
   obtain ⟨va, vc, rfl⟩ := Zac hown'
   have B4 : Below w.heap.size w w4 := ((hnx.trans (b2.mono hsz)).alloc (by omega) _).grown hgrow (by simp; omega) (fun k hk => (OW.out.row.lt k hk).1)
   have OW4 := hide ow4
   clear ow4 hown' hgrow hn2
   go_wp2
   go_roundw
   case rel => exact ⟨k + 1, qs ++ [(p.1, .slice n1a p.1.near.length n1c)], _, by omega, by go_num, rfl, by rw [show fsts (ps.take (k + 1)) = fsts (ps.take k) ++ [p.1] from map_take HP.out, <- HM.out]; simp [fsts], OW4.out, B4⟩
   case measure => simp [intOf]; omega
  ·have hkn : k = ps.length := by omega
   have KN := hide hkn
   have OW := hide hown
   have HM := hide hmap
   clear hkn hown hmap
   go_wp2
   go_ret
   have h1 := HM.out
   rw [KN.out, List.take_length] at h1
   first
    | exact ⟨_, qs, rfl, h1, OW.out, hnx⟩
    | exact ⟨_, rfl, qs, h1, OW.out, hnx⟩
theorem ZmJ (v : Value) (ps : List RP) (hi : Nat) (r : RP) (w : World) (hv : RecsIn w hi v ps) (hhi : hi <= w.heap.size) (hn : tot ps <= 1048576) :
  Calls Tryz.prog 89 #[v, .agg (recC r.1 r.2)] w fun e w' => e = .returned (.int .i64 (atZ (fsts ps) r.1)) /\ Below w.heap.size w w' := by
 have hnl := ZbL ps
 obtain ⟨a1, c1, rfl⟩ := Zac hv.row
 have HV := hide hv
 clear hv
 have BX := (Below.refl w.heap.size w).alloc (Nat.le_refl _) (.cells (recC r.1 r.2) 64)
 have hx := heap_alloc_new w (.cells (recC r.1 r.2) 64)
 obtain ⟨wx, hwx⟩ : ∃ wx, wx = w.alloc (.cells (recC r.1 r.2) 64) := ⟨_, rfl⟩
 rw [<- hwx] at BX hx
 unfold recC at *
 go_enter Tryz.func89, Tryz.ntmps89
 go_wp2
 rw [<- hwx]
 have HX := hide hx
 clear hwx hx
 go_loopw [5] (fun i wr => ∃ (k : Nat), k <= ps.length /\ i = .int .i64 k /\ (∀ j, j < k -> ∀ y, (fsts ps)[j]? = some y -> Zba y r.1 = false) /\ Below wx.heap.size wx wr) (fun i _ => ps.length - (intOf i).toNat)
 case atStart => exact ⟨0, by omega, rfl, by omega, Below.refl _ _⟩
 case round =>
  obtain ⟨k, hk, rfl, hall, hnx⟩ := hrel
  have HALL := hide hall
  clear hall
  have hsz := hnx.size
  have hsx := Zab HX.out
  have BWR : Below w.heap.size w wr := BX.trans (hnx.mono (by omega))
  by_cases hlt : k < ps.length
  ·obtain ⟨p, hp⟩ : ∃ p, ps[k]? = some p := ⟨ps[k], List.getElem?_eq_getElem hlt⟩
   have hat := HV.out.at
   obtain ⟨b, off, cap', hve, hbb, c0, c1, c2, c3, c4, c5, c6, c7, _⟩ := hat.cells k p hp
   cases hve
   rw [<- BWR.cell (p := ⟨b, off + k * 8, none⟩) (Nat.lt_of_lt_of_le hbb hhi)] at c0
   rw [<- BWR.cell (p := ⟨b, off + k * 8 + 1, none⟩) (Nat.lt_of_lt_of_le hbb hhi)] at c1
   rw [<- BWR.cell (p := ⟨b, off + k * 8 + 2, none⟩) (Nat.lt_of_lt_of_le hbb hhi)] at c2
   rw [<- BWR.cell (p := ⟨b, off + k * 8 + 3, none⟩) (Nat.lt_of_lt_of_le hbb hhi)] at c3
   rw [<- BWR.cell (p := ⟨b, off + k * 8 + 4, none⟩) (Nat.lt_of_lt_of_le hbb hhi)] at c4
   rw [<- BWR.cell (p := ⟨b, off + k * 8 + 5, none⟩) (Nat.lt_of_lt_of_le hbb hhi)] at c5
   rw [<- BWR.cell (p := ⟨b, off + k * 8 + 6, none⟩) (Nat.lt_of_lt_of_le hbb hhi)] at c6
   rw [<- BWR.cell (p := ⟨b, off + k * 8 + 7, none⟩) (Nat.lt_of_lt_of_le hbb hhi)] at c7
   have hxx := (hnx.block _ hsx).trans HX.out
   have d0 := Zaa hxx 0
   have d1 := Zaa hxx 1
   have d2 := Zaa hxx 2
   have d3 := Zaa hxx 3
   have d4 := Zaa hxx 4
   have d5 := Zaa hxx 5
   have d6 := Zaa hxx 6
   have d7 := Zaa hxx 7
   simp at d0 d1 d2 d3 d4 d5 d6 d7
   have hb1 : b < wr.heap.size := by omega
   have hb2 : w.heap.size < wr.heap.size := by omega
   have hki : (0 : Int) <= (k : Int) := by omega
   have hkj : (k : Int) < (ps.length : Int) := by omega
   have hq := fun W => Zin p.2 r.2 p.1 r.1 W
   unfold recC at hq
   obtain ⟨q, hqq⟩ : ∃ q, q = Zba p.1 r.1 := ⟨_, rfl⟩
   rw [<- hqq] at hq
   have HK := hide hq
   have HQQ := hide hqq
   have HPP := hide (Zbo hp)
   clear hq hqq hp hat hxx
   cases q
   ·go_wp2
    go_region_held3 (fun W => W.cell? ⟨b, off + k * 8, none⟩ = some (.int .i64 p.1.area) /\ W.cell? ⟨b, off + k * 8 + 1, none⟩ = some (.int .i64 p.1.kind) /\ W.cell? ⟨b, off + k * 8 + 2, none⟩ = some (.int .i64 p.1.owner) /\ W.cell? ⟨b, off + k * 8 + 3, none⟩ = some (.int .i64 p.1.key) /\ W.cell? ⟨b, off + k * 8 + 4, none⟩ = some (.int .i64 p.1.seq) /\ W.cell? ⟨b, off + k * 8 + 5, none⟩ = some (p.2) /\ W.cell? ⟨b, off + k * 8 + 6, none⟩ = some (.int .i64 p.1.cost) /\ W.cell? ⟨b, off + k * 8 + 7, none⟩ = some (.bool p.1.far) /\ W.cell? ⟨w.heap.size, 0, none⟩ = some (.int .i64 r.1.area) /\ W.cell? ⟨w.heap.size, 1, none⟩ = some (.int .i64 r.1.kind) /\ W.cell? ⟨w.heap.size, 2, none⟩ = some (.int .i64 r.1.owner) /\ W.cell? ⟨w.heap.size, 3, none⟩ = some (.int .i64 r.1.key) /\ W.cell? ⟨w.heap.size, 4, none⟩ = some (.int .i64 r.1.seq) /\ W.cell? ⟨w.heap.size, 5, none⟩ = some (r.2) /\ W.cell? ⟨w.heap.size, 6, none⟩ = some (.int .i64 r.1.cost) /\ W.cell? ⟨w.heap.size, 7, none⟩ = some (.bool r.1.far)) (first | go_keep | (refine ⟨?_, ?_, ?_, ?_, ?_, ?_, ?_, ?_, ?_, ?_, ?_, ?_, ?_, ?_, ?_, ?_⟩ <;> (rw [hbc.cell (by assumption)]; assumption))) (first | (go_at_call 114; refine (HK.out _).mono ?_; rintro e w1 ⟨rfl, hbc⟩))
    go_wp2
    go_roundw
    case rel => exact ⟨k + 1, by omega, by go_num, (fun j hj y hy => by
     by_cases e : j = k
     ·subst e; rw [HPP.out] at hy; cases hy; exact HQQ.out.symm
     ·exact HALL.out j (by omega) y hy), hnx.trans ((Below.refl _ _).drew.trans (hbc.mono hsz))⟩
    case measure => simp [intOf]; omega
   ·go_wp2
    go_region_held3 (fun W => W.cell? ⟨b, off + k * 8, none⟩ = some (.int .i64 p.1.area) /\ W.cell? ⟨b, off + k * 8 + 1, none⟩ = some (.int .i64 p.1.kind) /\ W.cell? ⟨b, off + k * 8 + 2, none⟩ = some (.int .i64 p.1.owner) /\ W.cell? ⟨b, off + k * 8 + 3, none⟩ = some (.int .i64 p.1.key) /\ W.cell? ⟨b, off + k * 8 + 4, none⟩ = some (.int .i64 p.1.seq) /\ W.cell? ⟨b, off + k * 8 + 5, none⟩ = some (p.2) /\ W.cell? ⟨b, off + k * 8 + 6, none⟩ = some (.int .i64 p.1.cost) /\ W.cell? ⟨b, off + k * 8 + 7, none⟩ = some (.bool p.1.far) /\ W.cell? ⟨w.heap.size, 0, none⟩ = some (.int .i64 r.1.area) /\ W.cell? ⟨w.heap.size, 1, none⟩ = some (.int .i64 r.1.kind) /\ W.cell? ⟨w.heap.size, 2, none⟩ = some (.int .i64 r.1.owner) /\ W.cell? ⟨w.heap.size, 3, none⟩ = some (.int .i64 r.1.key) /\ W.cell? ⟨w.heap.size, 4, none⟩ = some (.int .i64 r.1.seq) /\ W.cell? ⟨w.heap.size, 5, none⟩ = some (r.2) /\ W.cell? ⟨w.heap.size, 6, none⟩ = some (.int .i64 r.1.cost) /\ W.cell? ⟨w.heap.size, 7, none⟩ = some (.bool r.1.far)) (first | go_keep | (refine ⟨?_, ?_, ?_, ?_, ?_, ?_, ?_, ?_, ?_, ?_, ?_, ?_, ?_, ?_, ?_, ?_⟩ <;> (rw [hbc.cell (by assumption)]; assumption))) (first | (go_at_call 114; refine (HK.out _).mono ?_; rintro e w1 ⟨rfl, hbc⟩))
    go_wp2
    go_ret
    exact ⟨ZfM (by rw [Zl4 HPP.out HQQ.out.symm HALL.out]), BWR.trans ((Below.refl _ _).drew.trans (hbc.mono (show w.heap.size <= wr.heap.size by omega)))⟩
  ·have hkn : k = ps.length := by omega
   have KN := hide hkn
   clear hkn
   go_wp2
   go_ret
   exact ⟨ZfM (by rw [ZmE (by have h := HALL.out; rw [KN.out] at h; simpa [fsts] using h)]), BWR⟩
end Go.Proofs.YtakiifededfjlaaGreat
