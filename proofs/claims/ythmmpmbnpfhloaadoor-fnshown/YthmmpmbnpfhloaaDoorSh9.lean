/-
  spec.l04Copy, impl.ownRecord: a record with a row of its own.
  laws.markRecordS, heldRecordS: only the list's own memory turns; what was marked is held.
  slices.Compare at two keys, impl.Before: their contracts.
  impl.RecordOk: its contract.
  laws.szWayS, toWayS, eqWayS: their contracts.
  spec.LinkOk, l03Ahead, l03Thing, NetOk: their contracts.
-/
import Derived.Test.YthmmpmbnpfhloaaDoorSh8
import Derived.Laws.AppendOwnNone
namespace Go.Proofs.YthmmpmbnpfhloaaDoor
open Go.RowKit

set_option linter.unusedSimpArgs false

theorem nrE_one5 (a : Nr) : ∀ u ∈ nrE a, u.oneCell' = true := by
  intro u hu
  simp [nrE] at hu
  rcases hu with rfl | rfl <;> rfl

/-- 'append(out, xs...)' of a row of structs, both the caller's own -/
theorem append_row5 {α : Type} {enc : α → List Value} {sz bytes : Nat} (hlen : ∀ l : List α, (flat enc l).length = l.length * sz) (hpos : 0 < sz) (hone : ∀ a, ∀ u ∈ enc a, u.oneCell' = true) (hbb : bytes ≤ 100) {P : Program} (w : World) {ops : Array Oper} {rest : List Oper} {o : Oper} {a : Act} {Q : Exit → Act → World → Prop} (hgd : o.guard = none) (s x : Operand) (t : TypeId)
    (ho : o.op = .call { callee := .builtin .append, args := #[s, x], argTypes := #[t, t] }) (base : Nat) (e : TypeId) (ht : P.underlying t = some (.slice e)) (zv : Value) (hzv : zv.cells.size = sz)
    (hinfo : (P.info? e).map (fun i => (i.zero, i.size, i.bytes)) = some (some zv, sz, bytes))
    (v : Value) (l : List α) (hs : a.eval s = v) (hown : w.ownsRow base e sz v l.length (flat enc l))
    (base2 : Nat) (v2 : Value) (l2 : List α) (hx : a.eval x = v2) (hown2 : w.ownsRow base2 e sz v2 l2.length (flat enc l2))
    (hl : l.length + l2.length ≤ 1000000000) (hbase : base ≤ w.heap.size)
    (h : ∀ v' w', w'.ownsRow base e sz v' (l ++ l2).length (flat enc (l ++ l2)) → w.grownBy w' v.ownBlock → wpList P ops Q rest (a.put o.dst v') w') : wpList P ops Q (o :: rest) a w := by
  obtain ⟨i0, hi, hz0, hz1, hz2⟩ := info_parts hinfo
  rcases hown2.2 with ⟨e1, e2⟩ | ⟨g, cap, cur, e1, _⟩
  · have e3 : l2 = [] := List.eq_nil_of_length_eq_zero e2
    subst e3
    refine wpList_append_own_none hgd s x t ho base e i0 sz ht hi v l.length (flat enc l) hs hown (hx.trans e1) ?_
    exact h v w (by simpa using hown) (grown_refl w _)
  · refine wpList_append_own w hgd s x t ho base e i0 zv sz bytes ht hi hz0 hz1 hz2 hzv hpos v l.length (flat enc l) hs hown ⟨g, 0, none⟩ l2.length cap (flat enc l2) (hx.trans e1) (hlen l2) (hown2.cells (by rw [e1]; rfl)) ?_ (by unfold maxLen; omega) ?_ hbase ?_
    · intro u hu
      simp only [flat, List.mem_flatMap] at hu
      obtain ⟨b, _, hb⟩ := hu
      exact hone b u hb
    · have : (l.length + l2.length) * bytes ≤ 1000000000 * 100 := Nat.mul_le_mul hl hbb
      omega
    · intro v' w' h1 h2 _
      have e1 : flat enc l ++ flat enc l2 = flat enc (l ++ l2) := by rw [flat_append]
      rw [e1] at h1
      exact h v' w' (by simpa using h1) h2

abbrev putR5 (W : World) (g : Nat) (x : RecD) (v : Value) : World := (((((((W.setCell ⟨g, 0, none⟩ (.int .i64 x.area)).setCell ⟨g, 1, none⟩ (.int .i64 x.kind)).setCell ⟨g, 2, none⟩ (.int .i64 x.owner)).setCell ⟨g, 3, none⟩ (.int .i64 x.key)).setCell ⟨g, 4, none⟩ (.int .i64 x.seq)).setCell ⟨g, 5, none⟩ v).setCell ⟨g, 6, none⟩ (.int .i64 x.cost)).setCell ⟨g, 7, none⟩ (.bool x.far)

set_option maxHeartbeats 1000000 in
theorem fin85 {W : World} {B0 : Nat} {c0 c1 c2 c3 c4 c5 c6 c7 : Value} (x : RecD) (v : Value) (hr : W.heap[B0]? = some (.cells #[c0, c1, c2, c3, c4, c5, c6, c7] 81)) :
    (putR5 W B0 x v).heap[B0]? = some (.cells (recC x v) 81) := by
  have k1 := heap_setCell_same _ _ 0 _ _ (.int .i64 x.area) hr
  have k2 := heap_setCell_same _ _ 1 _ _ (.int .i64 x.kind) k1
  have k3 := heap_setCell_same _ _ 2 _ _ (.int .i64 x.owner) k2
  have k4 := heap_setCell_same _ _ 3 _ _ (.int .i64 x.key) k3
  have k5 := heap_setCell_same _ _ 4 _ _ (.int .i64 x.seq) k4
  have k6 := heap_setCell_same _ _ 5 _ _ v k5
  have k7 := heap_setCell_same _ _ 6 _ _ (.int .i64 x.cost) k6
  have k8 := heap_setCell_same _ _ 7 _ _ (.bool x.far) k7
  simp only [List.setIfInBounds_toArray, List.set_cons_zero, List.set_cons_succ] at k8
  unfold putR5 recC
  exact k8

theorem grown85 (W : World) (g : Nat) (x : RecD) (v : Value) : W.grownBy (putR5 W g x v) (some g) :=
  grown_trans (grown_trans (grown_trans (grown_trans (grown_trans (grown_trans (grown_trans (grown_set W g _ _) (grown_set _ g _ _)) (grown_set _ g _ _)) (grown_set _ g _ _)) (grown_set _ g _ _)) (grown_set _ g _ _)) (grown_set _ g _ _)) (grown_set _ g _ _)

theorem nr_flat5 (l : List Nr) : (flat nrE l).length = l.length * 2 := flat_len nrE_len l

theorem own_lit05 (W : World) (g base : Nat) (hg : g = W.heap.size) (hb : base ≤ W.heap.size) : (W.alloc (.cells #[] 84)).ownsRow base 84 2 (.slice (some ⟨g, 0, none⟩) 0 0) 0 (flat nrE []) := by
  subst hg
  exact World.ownsRow_lit W #[] 0 hb (by unfold maxLen; omega) (by simp)

set_option maxRecDepth 100000 in
set_option maxHeartbeats 1000000 in
theorem copy5_any (x : RecD) (v : Value) (base : Nat) (w : World) (ho : w.ownsRow base 84 2 v x.near.length (flat nrE x.near)) (hn : x.near.length ≤ 1048576) :
    Calls Tryd.prog 55 #[.agg (recC x v)] w fun e w' => ∃ v', e = .returned (.agg (recC x v')) ∧ w'.ownsRow w.heap.size 84 2 v' x.near.length (flat nrE x.near) ∧ Below w.heap.size w w' := by
  obtain ⟨va, vc, rfl⟩ := owns_lenS ho
  have OW := hide ho
  clear ho
  go_enter Tryd.func55, Tryd.ntmps55
  unfold recC
  go_wp2_with (first
    | (at_builtin; refine append_row5 nr_flat5 (by omega) nrE_one5 (by omega) _ rfl _ _ 79 rfl (w.heap.size + 2) 84 Tryd.underlying79 (nrV nr0) rfl Tryd.infoNr _ [] rfl ?own0 base _ x.near rfl (((OW.out.alloc _).alloc _).alloc _) (by simp; omega) (by simp) ?_))
  case own0 =>
    exact own_lit05 _ _ _ (by simp) (by simp)
  intro v' w4 hown' hgrow
  obtain ⟨na, nc, rfl⟩ := owns_lenS hown'
  simp only [Value.ownBlock] at hgrow
  have hb4 : Below w.heap.size w w4 := ((((Below.refl w.heap.size w).alloc (by simp) _).alloc (by simp) _).alloc (by simp; omega) _).grown hgrow (by simp; omega) (fun k hk => by simp at hk; omega)
  have q0 : w4.heap[w.heap.size]? = some (.cells #[.int .i64 x.area, .int .i64 x.kind, .int .i64 x.owner, .int .i64 x.key, .int .i64 x.seq, .slice va x.near.length vc, .int .i64 x.cost, .bool x.far] 81) := by
    rw [hgrow.block w.heap.size (by simp; omega) (by simp; omega), Below.heap_alloc _ _ _ (by simp; omega), Below.heap_alloc _ _ _ (by simp), heap_alloc_new]
  have q1 : w4.heap[w.heap.size + 1]? = some (.cells #[.int .i64 0, .int .i64 0, .int .i64 0, .int .i64 0, .int .i64 0, .slice none 0 0, .int .i64 0, .bool false] 81) := by
    rw [hgrow.block (w.heap.size + 1) (by simp) (by simp), Below.heap_alloc _ _ _ (by simp)]
    have e := heap_alloc_new (w.alloc (.cells #[.int .i64 x.area, .int .i64 x.kind, .int .i64 x.owner, .int .i64 x.key, .int .i64 x.seq, .slice va x.near.length vc, .int .i64 x.cost, .bool x.far] 81)) (.cells #[.int .i64 0, .int .i64 0, .int .i64 0, .int .i64 0, .int .i64 0, .slice none 0 0, .int .i64 0, .bool false] 81)
    rw [show (w.alloc (.cells #[.int .i64 x.area, .int .i64 x.kind, .int .i64 x.owner, .int .i64 x.key, .int .i64 x.seq, .slice va x.near.length vc, .int .i64 x.cost, .bool x.far] 81)).heap.size = w.heap.size + 1 by simp] at e
    exact e
  have r5 := cells_at q0 5
  have f0 := frozen_at q0
  simp at r5
  have q2 := heap_setCell_same w4 w.heap.size 5 _ _ (.slice na x.near.length nc) q0
  simp only [List.setIfInBounds_toArray, List.set_cons_zero, List.set_cons_succ] at q2
  have q3 : (w4.setCell ⟨w.heap.size, 5, none⟩ (.slice na x.near.length nc)).heap[w.heap.size + 1]? = some (.cells #[.int .i64 0, .int .i64 0, .int .i64 0, .int .i64 0, .int .i64 0, .slice none 0 0, .int .i64 0, .bool false] 81) := by
    rw [heap_setCell_other w4 ⟨w.heap.size, 5, none⟩ _ _ (by show w.heap.size + 1 ≠ w.heap.size; omega)]; exact q1
  have y0 := cells_at q2 0
  have y1 := cells_at q2 1
  have y2 := cells_at q2 2
  have y3 := cells_at q2 3
  have y4 := cells_at q2 4
  have y5 := cells_at q2 5
  have y6 := cells_at q2 6
  have y7 := cells_at q2 7
  simp at y0 y1 y2 y3 y4 y5 y6 y7
  have u0 := cells_at q3 0
  have u1 := cells_at q3 1
  have u2 := cells_at q3 2
  have u3 := cells_at q3 3
  have u4 := cells_at q3 4
  have u5 := cells_at q3 5
  have u6 := cells_at q3 6
  have u7 := cells_at q3 7
  simp at u0 u1 u2 u3 u4 u5 u6 u7
  have fu := frozen_at q3
  have F := fin85 x (.slice na x.near.length nc) q3
  have hown2 := owns_set (j := 5) (u := .slice na x.near.length nc) hown' (show w.heap.size < w.heap.size + 2 by omega)
  have G8 := grown85 (w4.setCell ⟨w.heap.size, 5, none⟩ (.slice na x.near.length nc)) (w.heap.size + 1) x (.slice na x.near.length nc)
  have hown3 := owns_baseS (b0 := w.heap.size) (hown2.kept G8 (by
    cases hv : (Value.slice na x.near.length nc).ownBlock with
    | none => exact .inl rfl
    | some g => exact .inr (fun e => by have := (hown2.lt g hv).1; simp at e; omega))) (by omega)
  have hb5 : Below w.heap.size w (putR5 (w4.setCell ⟨w.heap.size, 5, none⟩ (.slice na x.near.length nc)) (w.heap.size + 1) x (.slice na x.near.length nc)) := (hb4.setCell (p := ⟨w.heap.size, 5, none⟩) (Nat.le_refl _) _).grown G8 (by have := lt_of_heap q3; omega) (fun k hk => by simp at hk; omega)
  have FF := hide F
  have H3 := hide hown3
  have H5 := hide hb5
  clear F hown3 hb5 hown2 G8 hb4 hown' hgrow q0 q1 q2 q3 OW
  go_wp2_with fail
  (try simp only [Exit.inBlock, Exit.then])
  refine bodyPost_ret (results_cell_row rfl _ _ (w.heap.size + 1) 81 (recC _ _) (0, 0) _ rfl FF.out Tryd.underlying81 rfl (by kernel_rfl)) rfl ?_
  exact ⟨_, rfl, H3.out, H5.out⟩

end Go.Proofs.YthmmpmbnpfhloaaDoor
namespace Go.Proofs.YthmmpmbnpfhloaaDoor
open Go.RowKit

theorem apart_snd (ps : List RP) : ps.Pairwise Apart ↔ (ps.map (·.2)).Pairwise (fun a b : Value => ∀ k, a.ownBlock = some k → b.ownBlock ≠ some k) := by
  rw [List.pairwise_map]
  exact Iff.rfl

theorem apart_at {ps : List RP} (h : ps.Pairwise Apart) {i k : Nat} {p q : RP} (hi : ps[i]? = some p) (hk : ps[k]? = some q) (hne : i ≠ k) : Apart p q := by
  obtain ⟨h1, e1⟩ := List.getElem?_eq_some_iff.1 hi
  obtain ⟨h2, e2⟩ := List.getElem?_eq_some_iff.1 hk
  rw [List.pairwise_iff_getElem] at h
  rcases Nat.lt_or_ge i k with hl | hl
  · have := h i k h1 h2 hl
    rw [e1, e2] at this
    exact this
  · have := h k i h2 h1 (by omega)
    rw [e1, e2] at this
    exact fun j hj he => this j he hj

theorem set_snd {ps : List RP} {k : Nat} {p q : RP} (hk : ps[k]? = some p) (h : q.2 = p.2) : (ps.set k q).map (·.2) = ps.map (·.2) := by
  apply List.ext_getElem?
  intro i
  by_cases e : i = k
  · subst e
    obtain ⟨h1, e1⟩ := List.getElem?_eq_some_iff.1 hk
    rw [List.getElem?_map, List.getElem?_set_self h1, List.getElem?_map, hk]
    simp [h]
  · simp [List.getElem?_set_ne (Ne.symm e)]

/-- one record turned within its list -/
theorem RecsOwn.turn {W W8 : World} {lo hi g n cap k : Nat} {xs : List RP} {p q : RP} (h : RecsOwn W lo hi (.slice (some ⟨g, 0, none⟩) n cap) xs) (hn : xs.length = n) (hk : xs[k]? = some p) (hq : q.2 = p.2)
    (row : W8.ownsRow lo 81 8 (.slice (some ⟨g, 0, none⟩) n cap) n (flat encP (xs.set k q))) (near : W8.ownsRow lo 84 2 q.2 q.1.near.length (flat nrE q.1.near))
    (hkeep : ∀ j, j < W.heap.size → j ≠ g → some j ≠ p.2.ownBlock → W8.heap[j]? = W.heap[j]?) : RecsOwn W8 lo hi (.slice (some ⟨g, 0, none⟩) n cap) (xs.set k q) where
  row := by rw [List.length_set, hn]; exact row
  top := h.top
  apart := by rw [apart_snd, set_snd hk hq, ← apart_snd]; exact h.apart
  nears := by
    intro r hr
    obtain ⟨i, hi, e⟩ := List.getElem_of_mem hr
    have hr2 : (xs.set k q)[i]? = some r := by rw [← e]; exact List.getElem?_eq_getElem hi
    by_cases ek : i = k
    · subst ek
      rw [List.getElem?_set_self (by simpa using hi)] at hr2
      cases hr2
      refine ⟨near, ?_⟩
      rw [hq]
      exact (h.nears p (List.mem_of_getElem? hk)).2
    · rw [List.getElem?_set_ne (Ne.symm ek)] at hr2
      have ho := h.nears r (List.mem_of_getElem? hr2)
      refine ⟨owns_keepB ho.1 (fun j hj => ?_), ho.2⟩
      refine hkeep j (ho.1.lt j hj).2 ?_ ?_
      · rintro rfl
        obtain ⟨cur, hh⟩ : ∃ cur, W.heap[j]? = some (.cells cur 81 (0, 0)) := by
          rcases h.row.2 with ⟨h0, _⟩ | ⟨g', cap', cur', hv', _, hh', _⟩
          · cases h0
          · cases hv'; exact ⟨cur', hh'⟩
        rcases ho.1.2 with ⟨h0, _⟩ | ⟨g', cap', cur', hv', _, hh', _⟩
        · rw [h0] at hj; simp [Value.ownBlock] at hj
        · rw [hv'] at hj
          simp [Value.ownBlock] at hj
          subst hj
          rw [hh] at hh'
          simp at hh'
      · intro he
        exact apart_at h.apart hr2 hk ek j hj he.symm

theorem own_type_ne2 {W : World} {base size n z : Nat} {e t : TypeId} {v : Value} {xs : List Value} {C : Array Value} {fr : Nat × Nat} (ho : W.ownsRow base e size v n xs) (h : W.heap[z]? = some (.cells C t fr)) (hne : e ≠ t) : some z ≠ v.ownBlock := by
  intro eq
  rcases ho.2 with ⟨h1, _⟩ | ⟨g', cap', cur', hv', _, hh', _⟩
  · rw [h1] at eq; simp [Value.ownBlock] at eq
  · rw [hv'] at eq
    simp [Value.ownBlock] at eq
    subst eq
    rw [h] at hh'
    simp at hh'
    exact hne hh'.2.1.symm

end Go.Proofs.YthmmpmbnpfhloaaDoor
namespace Go.Proofs.YthmmpmbnpfhloaaDoor
open Go.RowKit

set_option linter.unusedSimpArgs false

/-- the first that is not 0 -/
def cmpK (a b c d : Int) : Int := if a = 0 then (if b = 0 then (if c = 0 then d else c) else b) else a

theorem cmpK_neg (x y : RecD) : decide (cmpK (cmpN x.area y.area) (cmpN x.kind y.kind) (cmpN x.owner y.owner) (cmpN x.key y.key) < 0) = beforeB x y := by
  unfold cmpK beforeB
  by_cases h1 : x.area = y.area
  · rw [if_pos (cmpN_zero.2 h1)]
    by_cases h2 : x.kind = y.kind
    · rw [if_pos (cmpN_zero.2 h2)]
      by_cases h3 : x.owner = y.owner
      · rw [if_pos (cmpN_zero.2 h3)]
        simp [cmpN_neg, h1, h2, h3]
      · rw [if_neg (fun h => h3 (cmpN_zero.1 h))]
        simp [cmpN_neg, h1, h2, h3]
    · rw [if_neg (fun h => h2 (cmpN_zero.1 h))]
      simp [cmpN_neg, h1, h2]
  · rw [if_neg (fun h => h1 (cmpN_zero.1 h))]
    simp [cmpN_neg, h1]

end Go.Proofs.YthmmpmbnpfhloaaDoor
namespace Go.Proofs.YthmmpmbnpfhloaaDoor
open Go.RowKit

end Go.Proofs.YthmmpmbnpfhloaaDoor
namespace Go.Proofs.YthmmpmbnpfhloaaDoor
open Go.RowKit

theorem Tryd.infoWay : (Tryd.prog.info? 93).map (fun i => (i.zero, i.size, i.bytes)) = some (some (.agg (wayC zeroWD (.slice none 0 0))), 3, 40) := by kernel_rfl

def fstsW (ps : List WP) : List WayD := ps.map (·.1)

theorem fstsW_at {ps : List WP} {i : Nat} {p : WP} (h : ps[i]? = some p) : (fstsW ps)[i]? = some p.1 := by simp [fstsW, h]

end Go.Proofs.YthmmpmbnpfhloaaDoor
namespace Go.Proofs.YthmmpmbnpfhloaaDoor
open Go.RowKit

def linkOkB (n : Int) (l : Lk) : Bool := inB n 1 6 && inB l.a 1 n && inB l.b 1 n && decide (l.a < l.b) && inB l.c 1 1000 && inB l.r 0 2

def aheadB (a b : Lk) : Bool := decide (a.a < b.a) || (a.a == b.a && (decide (a.b < b.b) || (a.b == b.b && decide (a.r < b.r))))

def thingB (a b : Th) : Bool := decide (a.k < b.k) || (a.k == b.k && decide (a.o < b.o))

set_option maxRecDepth 100000 in
set_option maxHeartbeats 2000000 in
theorem slinkOk_any (n : Int) (l : Lk) (w : World) : Calls Tryd.prog 51 #[.int .i64 n, lkV l] w fun e w' => e = .returned (.bool (linkOkB n l)) ∧ Below w.heap.size w w' := by
  obtain ⟨a, b, c, r⟩ := l
  unfold lkV linkOkB
  simp only []
  generalize hq1 : inB n 1 6 = q1
  generalize hq2 : inB a 1 n = q2
  generalize hq3 : inB b 1 n = q3
  generalize hq4 : inB c 1 1000 = q4
  generalize hq5 : inB r 0 2 = q5
  have h1 := in_any n 1 6
  have h2 := in_any a 1 n
  have h3 := in_any b 1 n
  have h4 := in_any c 1 1000
  have h5 := in_any r 0 2
  rw [hq1] at h1
  rw [hq2] at h2
  rw [hq3] at h3
  rw [hq4] at h4
  rw [hq5] at h5
  have H1 := hide h1
  have H2 := hide h2
  have H3 := hide h3
  have H4 := hide h4
  have H5 := hide h5
  clear h1 h2 h3 h4 h5 hq1 hq2 hq3 hq4 hq5
  cases q1
  · go_enter Tryd.func51, Tryd.ntmps51
    go_wp2_with fail
    refine (H1.out _).mono ?_
    rintro e w1 ⟨rfl, rfl⟩
    go_wp2
    go_ret
    exact ⟨by simp, (Below.refl _ _).alloc (Nat.le_refl _) _⟩
  cases q2
  · go_enter Tryd.func51, Tryd.ntmps51
    go_wp2_with fail
    refine (H1.out _).mono ?_
    rintro e w1 ⟨rfl, rfl⟩
    go_wp2_with fail
    refine (H2.out _).mono ?_
    rintro e w1 ⟨rfl, rfl⟩
    go_wp2
    go_ret
    exact ⟨by simp, (Below.refl _ _).alloc (Nat.le_refl _) _⟩
  cases q3
  · go_enter Tryd.func51, Tryd.ntmps51
    go_wp2_with fail
    refine (H1.out _).mono ?_
    rintro e w1 ⟨rfl, rfl⟩
    go_wp2_with fail
    refine (H2.out _).mono ?_
    rintro e w1 ⟨rfl, rfl⟩
    go_wp2_with fail
    refine (H3.out _).mono ?_
    rintro e w1 ⟨rfl, rfl⟩
    go_wp2
    go_ret
    exact ⟨by simp, (Below.refl _ _).alloc (Nat.le_refl _) _⟩
  by_cases hab : a < b
  · cases q4
    · go_enter Tryd.func51, Tryd.ntmps51
      go_wp2_with fail
      refine (H1.out _).mono ?_
      rintro e w1 ⟨rfl, rfl⟩
      go_wp2_with fail
      refine (H2.out _).mono ?_
      rintro e w1 ⟨rfl, rfl⟩
      go_wp2_with fail
      refine (H3.out _).mono ?_
      rintro e w1 ⟨rfl, rfl⟩
      go_wp2_with fail
      refine (H4.out _).mono ?_
      rintro e w1 ⟨rfl, rfl⟩
      go_wp2
      go_ret
      exact ⟨by simp, (Below.refl _ _).alloc (Nat.le_refl _) _⟩
    · go_enter Tryd.func51, Tryd.ntmps51
      go_wp2_with fail
      refine (H1.out _).mono ?_
      rintro e w1 ⟨rfl, rfl⟩
      go_wp2_with fail
      refine (H2.out _).mono ?_
      rintro e w1 ⟨rfl, rfl⟩
      go_wp2_with fail
      refine (H3.out _).mono ?_
      rintro e w1 ⟨rfl, rfl⟩
      go_wp2_with fail
      refine (H4.out _).mono ?_
      rintro e w1 ⟨rfl, rfl⟩
      go_wp2_with fail
      refine (H5.out _).mono ?_
      rintro e w1 ⟨rfl, rfl⟩
      go_wp2
      go_ret
      exact ⟨ret_bool (by rw [decide_eq_true hab]; simp), (Below.refl _ _).alloc (Nat.le_refl _) _⟩
  · go_enter Tryd.func51, Tryd.ntmps51
    go_wp2_with fail
    refine (H1.out _).mono ?_
    rintro e w1 ⟨rfl, rfl⟩
    go_wp2_with fail
    refine (H2.out _).mono ?_
    rintro e w1 ⟨rfl, rfl⟩
    go_wp2_with fail
    refine (H3.out _).mono ?_
    rintro e w1 ⟨rfl, rfl⟩
    go_wp2
    go_ret
    exact ⟨ret_bool (by rw [decide_eq_false (show ¬ a < b by omega)]; simp), (Below.refl _ _).alloc (Nat.le_refl _) _⟩

set_option maxRecDepth 100000 in
set_option maxHeartbeats 2000000 in
theorem sahead_any (l m : Lk) (w : World) : Calls Tryd.prog 36 #[lkV l, lkV m] w fun e w' => e = .returned (.bool (aheadB l m)) ∧ Below w.heap.size w w' := by
  obtain ⟨a, b, c, r⟩ := l
  obtain ⟨a', b', c', r'⟩ := m
  unfold lkV
  go_enter Tryd.func36, Tryd.ntmps36
  go_wp2
  all_goals go_ret
  all_goals refine ⟨ret_bool ?_, below_two _ _⟩
  all_goals (simp only [aheadB]; grind)

set_option maxRecDepth 100000 in
set_option maxHeartbeats 2000000 in
theorem sthing_any (l m : Th) (w : World) : Calls Tryd.prog 37 #[thV l, thV m] w fun e w' => e = .returned (.bool (thingB l m)) ∧ Below w.heap.size w w' := by
  obtain ⟨a, b, c, r⟩ := l
  obtain ⟨a', b', c', r'⟩ := m
  unfold thV
  go_enter Tryd.func37, Tryd.ntmps37
  go_wp2
  all_goals go_ret
  all_goals refine ⟨ret_bool ?_, below_two _ _⟩
  all_goals (simp only [thingB]; grind)
end Go.Proofs.YthmmpmbnpfhloaaDoor
