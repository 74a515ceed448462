/-
  spec.l09Copy, l09Any: a packet with rows of its own; some packet, perhaps spoilt.
-/
import Derived.Test.YtchmmekhfcojgaaGreatDoorPq25
import Derived.Test.YtchmmekhfcojgaaGreatDoorPq26
import Derived.Test.YtchmmekhfcojgaaGreatDoorPq28
import Derived.Test.YtchmmekhfcojgaaGreatDoorPq38
namespace Go.Proofs.YtchmmekhfcojgaaGreatDoor
open Go.RowKit

set_option linter.unusedSimpArgs false

theorem pk_few {x : PkD} {xs : List RecD} (h : pkB x xs = true) : x.heard.length ≤ 6 ∧ xs.length ≤ 150 ∧ ∀ r ∈ xs, recOkB r = true := by
  have := pk_bounds h
  exact ⟨this.few, this.list, this.recs⟩

theorem tot_addP (qs : List RP) (q : RP) : tot (qs ++ [q]) = tot qs + (1 + q.1.near.length) := by
  simp [tot]
  try omega

set_option maxRecDepth 100000 in
set_option maxHeartbeats 2000000 in
theorem copyPk_any (v1 v2 : Value) (x : PkD) (ps : List RP) (hi : Nat) (w : World) (hv : PkSrc w hi v1 v2 x ps) (hhi : hi ≤ w.heap.size) (ht : totP x ps ≤ 1048576) :
    Calls Tryz.prog 62 #[pkV x v1 v2] w fun e w' => ∃ u1 u2 qs m, e = .returned (.agg (pkC x u1 u2)) ∧ fsts qs = fsts ps ∧ PkOwn w' (w.heap.size + 2) w'.heap.size u1 u2 x qs m ∧ Below w.heap.size w w' := by
  obtain ⟨⟨a1, c1, rfl⟩, ⟨a2, c2, rfl⟩⟩ := hv.in.shapes
  have hlH : x.heard.length ≤ 1048576 := by unfold totP at ht; omega
  have hlR : tot ps ≤ 1048576 := by unfold totP at ht; omega
  have HX := hide hv
  clear hv ht
  go_enter Tryz.func62, Tryz.ntmps62
  go_wp2_with (first
    | (at_builtin; refine append_row5 int_flat1 (by omega) intE_one (by omega) _ rfl _ _ 24 rfl (w.heap.size + 2) 3 Tryz.underlying24 (.int .i64 0) rfl Tryz.info3 _ [] rfl ?own0 0 _ x.heard rfl (((HX.out.heard.alloc _).alloc _).alloc _) (by simp; omega) (by simp) ?_))
  case own0 => exact own_litI _ _ _ (by simp) (by simp)
  intro v' w4 hown' hgrow
  obtain ⟨na, nc, rfl⟩ := owns_lenS hown'
  simp only [Value.ownBlock] at hgrow
  have hb4 : Below w.heap.size w w4 := ((((Below.refl w.heap.size w).alloc (by simp) _).alloc (by simp) _).alloc (by simp; omega) _).grown hgrow (by simp; omega) (fun k hk => by simp at hk; omega)
  have q0 : w4.heap[w.heap.size]? = some (.cells #[.int .i64 x.kind, .int .i64 x.src, .int .i64 x.dst, .int .i64 x.area, .slice a1 x.heard.length c1, .slice a2 ps.length c2] 27) := by
    rw [hgrow.block w.heap.size (by simp; omega) (by simp; omega), Below.heap_alloc _ _ _ (by simp; omega), Below.heap_alloc _ _ _ (by simp), heap_alloc_new]
  have q1 : w4.heap[w.heap.size + 1]? = some (.cells #[.int .i64 0, .int .i64 0, .int .i64 0, .int .i64 0, .slice none 0 0, .slice none 0 0] 27) := by
    rw [hgrow.block (w.heap.size + 1) (by simp) (by simp), Below.heap_alloc _ _ _ (by simp)]
    have e := heap_alloc_new (w.alloc (.cells #[.int .i64 x.kind, .int .i64 x.src, .int .i64 x.dst, .int .i64 x.area, .slice a1 x.heard.length c1, .slice a2 ps.length c2] 27)) (.cells #[.int .i64 0, .int .i64 0, .int .i64 0, .int .i64 0, .slice none 0 0, .slice none 0 0] 27)
    rw [show (w.alloc (.cells #[.int .i64 x.kind, .int .i64 x.src, .int .i64 x.dst, .int .i64 x.area, .slice a1 x.heard.length c1, .slice a2 ps.length c2] 27)).heap.size = w.heap.size + 1 by simp] at e
    exact e
  have hown4 : w4.ownsRow (w.heap.size + 2) 3 1 (.slice na x.heard.length nc) x.heard.length (flat intE x.heard) := hown'
  have fz := frozen_at q0 4
  have t4 := cells_at q0 4
  have t5 := cells_at q0 5
  simp at t4 t5
  have B5 : Below w.heap.size w (w4.setCell ⟨w.heap.size, 4, none⟩ (.slice na x.heard.length nc)) := hb4.setCell (Nat.le_refl _) _
  have y0 := heap_setCell_same _ _ 4 _ _ (Value.slice na x.heard.length nc) q0
  simp only [List.setIfInBounds_toArray, List.set_cons_zero, List.set_cons_succ] at y0
  have y1 : (w4.setCell ⟨w.heap.size, 4, none⟩ (.slice na x.heard.length nc)).heap[w.heap.size + 1]? = some (.cells #[.int .i64 0, .int .i64 0, .int .i64 0, .int .i64 0, .slice none 0 0, .slice none 0 0] 27) := by rw [heap_setCell_other _ ⟨w.heap.size, 4, none⟩ _ _ (by show w.heap.size + 1 ≠ w.heap.size; omega)]; exact q1
  have S3 := hide (owns_set (p := w.heap.size) (j := 4) (u := .slice na x.heard.length nc) hown4 (by omega))
  have HCL := hide (copyList_any (.slice a2 ps.length c2) ps hi (w4.setCell ⟨w.heap.size, 4, none⟩ (.slice na x.heard.length nc)) (HX.out.list.below B5 hhi) (by have := B5.size; omega) hlR)
  have Q03 := hide y0
  have Q13 := hide y1
  clear q0 q1 hown' hown4 hgrow y0 y1
  go_wp2_with fail
  obtain ⟨wS, hwS⟩ : ∃ W, W = (w4.setCell ⟨w.heap.size, 4, none⟩ (.slice na x.heard.length nc)) := ⟨_, rfl⟩
  rw [← hwS] at B5 Q03 Q13 HCL S3 ⊢
  clear hwS t4 t5 fz hb4
  refine HCL.out.mono ?_
  rintro e w6 ⟨p4, qs, rfl, fq, ho4, b6⟩
  obtain ⟨p4a, p4c, rfl⟩ := owns_lenS ho4.row
  have bw6 : Below w.heap.size w w6 := B5.trans (b6.mono B5.size)
  have hl1 := lt_of_heap Q13.out
  have q2 := (b6.block _ (lt_of_heap Q03.out)).trans Q03.out
  have q1 := (b6.block _ (lt_of_heap Q13.out)).trans Q13.out
  have OW : PkOwn w6 (w.heap.size + 2) w6.heap.size (.slice na x.heard.length nc) (.slice p4a qs.length p4c) x qs wS.heap.size := ⟨by omega, b6.size, ⟨owns_below S3.out b6 (Nat.le_refl _), fun k e => (S3.out.lt k e).2⟩, ho4⟩
  have FQ := hide fq
  have t0 := cells_at q2 0
  have t1 := cells_at q2 1
  have t2 := cells_at q2 2
  have t3 := cells_at q2 3
  have t4 := cells_at q2 4
  have t5 := cells_at q2 5
  have e5 := frozen_at q2 5
  simp at t0 t1 t2 t3 t4 t5
  have r0 := cells_at q1 0
  have r1 := cells_at q1 1
  have r2 := cells_at q1 2
  have r3 := cells_at q1 3
  have r4 := cells_at q1 4
  have r5 := cells_at q1 5
  have fr := frozen_at q1
  simp at r0 r1 r2 r3 r4 r5
  have QQ1 := hide q1
  have OWH := hide OW
  have BWH := hide bw6
  clear ho4 q1 q2 fq OW Q03 Q13 HCL S3 bw6 b6 B5 hl1
  go_wp2
  have k0 : (w6.setCell ⟨w.heap.size, 5, none⟩ (.slice p4a qs.length p4c)).heap[w.heap.size + 1]? = some (.cells #[.int .i64 0, .int .i64 0, .int .i64 0, .int .i64 0, .slice none 0 0, .slice none 0 0] 27) := by rw [heap_setCell_other _ ⟨w.heap.size, 5, none⟩ _ _ (by show w.heap.size + 1 ≠ w.heap.size; omega)]; exact QQ1.out
  have F := hide (finP6 x (.slice na x.heard.length nc) (.slice p4a qs.length p4c) k0)
  have G := grownP6 (w6.setCell ⟨w.heap.size, 5, none⟩ (.slice p4a qs.length p4c)) (w.heap.size + 1) x (.slice na x.heard.length nc) (.slice p4a qs.length p4c)
  have BB := hide ((BWH.out.setCell (p := ⟨w.heap.size, 5, none⟩) (Nat.le_refl _) (.slice p4a qs.length p4c)).grown G (by have := BWH.out.size; simp; omega) (fun k hk => by simp at hk; omega))
  have hGs : w6.heap.size ≤ (putP6 (w6.setCell ⟨w.heap.size, 5, none⟩ (.slice p4a qs.length p4c)) (w.heap.size + 1) x (.slice na x.heard.length nc) (.slice p4a qs.length p4c)).heap.size := Nat.le_trans (Nat.le_of_eq (show w6.heap.size = (w6.setCell ⟨w.heap.size, 5, none⟩ (.slice p4a qs.length p4c)).heap.size by simp)) G.size
  have OW9 := hide ((OWH.out.keep (W' := putP6 (w6.setCell ⟨w.heap.size, 5, none⟩ (.slice p4a qs.length p4c)) (w.heap.size + 1) x (.slice na x.heard.length nc) (.slice p4a qs.length p4c)) (fun k h1 _ h3 => (G.block k (by simp; exact h3) (by simp; omega)).trans (heap_setCell_other _ ⟨w.heap.size, 5, none⟩ _ _ (by show k ≠ w.heap.size; omega)))).wide (Nat.le_refl _) hGs)
  try simp only [Exit.inBlock, Exit.then]
  refine bodyPost_ret (results_cell_row rfl _ _ (w.heap.size + 1) 27 (pkC x (.slice na x.heard.length nc) (.slice p4a qs.length p4c)) (0, 0) _ rfl F.out Tryz.underlying27 rfl (by kernel_rfl)) rfl ?_
  exact ⟨_, _, qs, _, rfl, FQ.out, OW9.out, BB.out⟩

/-- a packet while it is drawn: its box at z, its rows in blocks of lo .. z, its result's cells -/
structure PkSt (w W : World) (p lo z : Nat) (a : Option Addr) (len cap : Nat) (v1 v2 : Value) (x : PkD) (ps : List RP) (m : Nat) : Prop where
  cur : Cur W p a len cap
  gro : w.grownBy W (some p)
  box : W.heap[z]? = some (.cells (pkC x v1 v2) 27)
  res : W.heap[w.heap.size]? = some (.cells #[.int .i64 0, .int .i64 0, .int .i64 0, .int .i64 0, .slice none 0 0, .slice none 0 0] 27)
  own : PkOwn W lo z v1 v2 x ps m

/-- the same, its rows anywhere -/
structure PkFin (w W : World) (p z : Nat) (a : Option Addr) (len cap : Nat) (v1 v2 : Value) (x : PkD) (ps : List RP) : Prop where
  cur : Cur W p a len cap
  gro : w.grownBy W (some p)
  box : W.heap[z]? = some (.cells (pkC x v1 v2) 27)
  res : W.heap[w.heap.size]? = some (.cells #[.int .i64 0, .int .i64 0, .int .i64 0, .int .i64 0, .slice none 0 0, .slice none 0 0] 27)
  src : PkSrc W W.heap.size v1 v2 x ps

section
variable {w W : World} {p lo z : Nat} {a : Option Addr} {len cap : Nat} {v1 v2 : Value} {x : PkD} {ps : List RP} {m : Nat}

theorem PkSt.fin (st : PkSt w W p lo z a len cap v1 v2 x ps m) : PkFin w W p z a len cap v1 v2 x ps :=
  ⟨st.cur, st.gro, st.box, st.res, st.own.src.wide (Nat.le_of_lt (lt_of_heap st.box))⟩

theorem PkSt.grown {W' : World} (st : PkSt w W p lo z a len cap v1 v2 x ps m) (hc : Cur W' p a len cap) (hg : W.grownBy W' (some p)) (hp : p < w.heap.size) (hlo : w.heap.size < lo) (hz : lo ≤ z) : PkSt w W' p lo z a len cap v1 v2 x ps m where
  cur := hc
  gro := gro_same st.gro hg
  box := (hg.block _ (lt_of_heap st.box) (by simp; omega)).trans st.box
  res := (hg.block _ (lt_of_heap st.res) (by simp; omega)).trans st.res
  own := st.own.keep (fun k h1 _ h3 => hg.block k h3 (by simp; omega))

theorem PkSt.below {W' : World} (st : PkSt w W p lo z a len cap v1 v2 x ps m) (hb : Below W.heap.size W W') : PkSt w W' p lo z a len cap v1 v2 x ps m where
  cur := st.cur.grown (grown_of_below hb) (fun b _ => by simp)
  gro := gro_step st.gro (grown_of_below hb) (fun k e => by cases e)
  box := (hb.block _ (lt_of_heap st.box)).trans st.box
  res := (hb.block _ (lt_of_heap st.res)).trans st.res
  own := st.own.keep (fun k _ _ h3 => hb.block k h3)

theorem PkSt.alloc (st : PkSt w W p lo z a len cap v1 v2 x ps m) (o : Obj) : PkSt w (W.alloc o) p lo z a len cap v1 v2 x ps m := st.below ((Below.refl _ _).alloc (Nat.le_refl _) o)

theorem PkSt.drew (st : PkSt w W p lo z a len cap v1 v2 x ps m) : PkSt w W.drew p lo z a len cap v1 v2 x ps m := st.below (Below.refl _ _).drew

theorem PkSt.set (st : PkSt w W p lo z a len cap v1 v2 x ps m) (j : Nat) (u : Value) (x' : PkD) (hx : (pkC x v1 v2).setIfInBounds j u = pkC x' v1 v2) (hh : x'.heard = x.heard) (hp : p < w.heap.size) (hlo : w.heap.size < lo) (hz : lo ≤ z) : PkSt w (W.setCell ⟨z, j, none⟩ u) p lo z a len cap v1 v2 x' ps m where
  cur := st.cur.grown (grown_set W z j u) (fun b hb => by simp; omega)
  gro := gro_step st.gro (grown_set W z j u) (fun k e => by simp at e; omega)
  box := by
    have h := heap_setCell_same _ _ j _ _ u st.box
    rw [hx] at h
    exact h
  res := (heap_setCell_other _ ⟨z, j, none⟩ _ _ (by show w.heap.size ≠ z; omega)).trans st.res
  own := by
    have h := st.own.keep (W' := W.setCell ⟨z, j, none⟩ u) (fun k h1 h2 h3 => heap_setCell_other _ ⟨z, j, none⟩ _ _ (by show k ≠ z; omega))
    exact ⟨h.o1, h.o2, by rw [hh]; exact h.heard, h.list⟩

/-- the end: the box is told in the result's cells -/
theorem PkFin.end (st : PkFin w W p z a len cap v1 v2 x ps) (hp : p < w.heap.size) : (putP6 W w.heap.size x v1 v2).heap[w.heap.size]? = some (.cells (pkC x v1 v2) 27) ∧ PkSrc (putP6 W w.heap.size x v1 v2) (putP6 W w.heap.size x v1 v2).heap.size v1 v2 x ps ∧ Cur (putP6 W w.heap.size x v1 v2) p a len cap ∧ w.grownBy (putP6 W w.heap.size x v1 v2) (some p) :=
  ⟨finP6 x v1 v2 st.res, st.src.put st.res, st.cur.grown (grownP6 W w.heap.size x v1 v2) (fun b hb => by simp; omega), gro_step st.gro (grownP6 W w.heap.size x v1 v2) (fun k e => by simp at e; omega)⟩

/-- one more that is heard -/
theorem PkSt.hear {W' : World} {y : Int} {va : Option Addr} {vc : Nat} (st : PkSt w W p lo z a len cap v1 v2 x ps m) (hp : p < w.heap.size) (hlo : w.heap.size < lo) (hz : lo ≤ z) (ho : W'.ownsRow lo 3 1 (.slice va (x.heard.length + 1) vc) (x.heard.length + 1) (flat intE (x.heard ++ [y]))) (hg : W.grownBy W' v1.ownBlock) :
    W'.heap[z]? = some (.cells (pkC x v1 v2) 27) ∧ PkFin w (W'.setCell ⟨z, 4, none⟩ (.slice va (x.heard.length + 1) vc)) p z a len cap (.slice va (x.heard.length + 1) vc) v2 { x with heard := x.heard ++ [y] } ps := by
  have own := st.own
  have o1 := own.o1
  have o2 := own.o2
  have hr := own.heard
  have hne : ∀ k, m ≤ k → some k ≠ v1.ownBlock := fun k hk e => by have := hr.top k e.symm; omega
  have hlt : ∀ k, k < lo → some k ≠ v1.ownBlock := fun k hk e => by have := (hr.row.lt k e.symm).1; omega
  have hbx := (hg.block z (lt_of_heap st.box) (hne z o2)).trans st.box
  have hrs := (hg.block _ (lt_of_heap st.res) (hlt _ hlo)).trans st.res
  refine ⟨hbx, ?_⟩
  have hcu : Cur W' p a len cap := st.cur.grown hg (fun b hb => hlt b (by omega))
  have hgr := gro_step st.gro hg (fun k e => .inr (by have := (hr.row.lt k e).1; omega))
  have hbz : (W'.setCell ⟨z, 4, none⟩ (.slice va (x.heard.length + 1) vc)).heap[z]? = some (.cells (pkC { x with heard := x.heard ++ [y] } (.slice va (x.heard.length + 1) vc) v2) 27) := by
    have h := heap_setCell_same _ _ 4 _ _ (Value.slice va (x.heard.length + 1) vc) hbx
    unfold pkC at h ⊢
    simpa using h
  have keep : ∀ k, k ≠ z → k < W'.heap.size → (W'.setCell ⟨z, 4, none⟩ (.slice va (x.heard.length + 1) vc)).heap[k]? = W'.heap[k]? := fun k hk _ => heap_setCell_other _ ⟨z, 4, none⟩ _ _ (by show k ≠ z; exact hk)
  refine ⟨hcu.grown (grown_set W' z 4 _) (fun b hb => by simp; omega), gro_step hgr (grown_set W' z 4 _) (fun k e => by simp at e; omega), hbz, (keep _ (by omega) (lt_of_heap hrs)).trans hrs, ?_, ?_, ?_⟩
  · have h2 := owns_keepB (W' := W'.setCell ⟨z, 4, none⟩ (.slice va (x.heard.length + 1) vc)) ho (fun k hk => keep k (fun e => by
      rcases ho.2 with ⟨e1, _⟩ | ⟨g2, cap2, cur2, e1, _, hh, _⟩
      · rw [e1] at hk; cases hk
      · rw [e1] at hk
        simp [Value.ownBlock] at hk
        subst hk
        rw [e, hbx] at hh
        simp at hh) (ho.lt k hk).2)
    show (W'.setCell ⟨z, 4, none⟩ (.slice va (x.heard.length + 1) vc)).ownsRow 0 3 1 (.slice va (x.heard.length + 1) vc) (x.heard ++ [y]).length (flat intE (x.heard ++ [y]))
    rw [show (x.heard ++ [y]).length = x.heard.length + 1 by simp]
    exact owns_baseS h2 (Nat.zero_le _)
  · intro k hk
    have := (ho.lt k hk).2
    simpa using this
  · have h3 := st.own.list.keep (W' := W') (fun k h1 _ h3 => hg.block k h3 (hne k h1))
    have h4 := h3.keep (W' := W'.setCell ⟨z, 4, none⟩ (.slice va (x.heard.length + 1) vc)) (fun k _ h2 h3 => keep k (by omega) h3)
    have hzl := lt_of_heap hbz
    exact h4.in.wide (by omega)

/-- one more record -/
theorem PkSt.tell {W' : World} {r : RP} {va : Option Addr} {vc : Nat} (st : PkSt w W p lo z a len cap v1 v2 x ps m) (hp : p < w.heap.size) (hlo : w.heap.size < lo) (hz : lo ≤ z) (hr : NearOwn W z W.heap.size r) (ho : W'.ownsRow m 51 8 (.slice va (ps.length + 1) vc) (ps.length + 1) (flat encP (ps ++ [r]))) (hg : W.grownBy W' v2.ownBlock) :
    W'.heap[z]? = some (.cells (pkC x v1 v2) 27) ∧ PkFin w (W'.setCell ⟨z, 5, none⟩ (.slice va (ps.length + 1) vc)) p z a len cap v1 (.slice va (ps.length + 1) vc) x (ps ++ [r]) := by
  have own := st.own
  have o1 := own.o1
  have o2 := own.o2
  have hl := own.list
  have hzW := lt_of_heap st.box
  have hne : ∀ k, z ≤ k → some k ≠ v2.ownBlock := fun k hk e => by have := hl.top k e.symm; omega
  have hlt : ∀ k, k < m → some k ≠ v2.ownBlock := fun k hk e => by have := (hl.row.lt k e.symm).1; omega
  have hbx := (hg.block z (lt_of_heap st.box) (hne z (Nat.le_refl _))).trans st.box
  have hrs := (hg.block _ (lt_of_heap st.res) (hlt _ (by omega))).trans st.res
  refine ⟨hbx, ?_⟩
  have hcu : Cur W' p a len cap := st.cur.grown hg (fun b hb => hlt b (by omega))
  have hgr := gro_step st.gro hg (fun k e => .inr (by have := (hl.row.lt k e).1; omega))
  have RO := hl.push2 (Nat.le_of_lt hzW) o2 hr ho hg
  have hbz : (W'.setCell ⟨z, 5, none⟩ (.slice va (ps.length + 1) vc)).heap[z]? = some (.cells (pkC x v1 (.slice va (ps.length + 1) vc)) 27) := by
    have h := heap_setCell_same _ _ 5 _ _ (Value.slice va (ps.length + 1) vc) hbx
    unfold pkC at h ⊢
    simpa using h
  refine ⟨hcu.grown (grown_set W' z 5 _) (fun b hb => by simp; omega), gro_step hgr (grown_set W' z 5 _) (fun k e => by simp at e; omega), hbz, (heap_setCell_other _ ⟨z, 5, none⟩ _ _ (by show w.heap.size ≠ z; omega)).trans hrs, ?_, ?_, ?_⟩
  · have h1 := own.heard.keep (W' := W') (fun k _ h2 h3 => hg.block k h3 (hlt k h2))
    have h2 := h1.keep (W' := W'.setCell ⟨z, 5, none⟩ (.slice va (ps.length + 1) vc)) (fun k _ h2 _ => heap_setCell_other _ ⟨z, 5, none⟩ _ _ (by show k ≠ z; omega))
    exact owns_baseS h2.row (Nat.zero_le _)
  · intro k hk
    have h1 := own.heard.top k hk
    have h2 := lt_of_heap hbz
    omega
  · have h1 := RO.in.setBox (j := 5) (u := .slice va (ps.length + 1) vc) hbx
    exact h1.wide (by simp)
end

set_option maxRecDepth 100000 in
set_option maxHeartbeats 4000000 in
theorem anyPk_any (p : Nat) (a : Option Addr) (len cap : Nat) (w : World) (hc : Cur w p a len cap) :
    Calls Tryz.prog 29 #[.pointer (some ⟨p, 0, none⟩)] w fun e w' => ∃ x v1 v2 ps, e = .returned (.agg (pkC x v1 v2)) ∧ totP x ps ≤ 1048576 ∧ PkSrc w' w'.heap.size v1 v2 x ps ∧ Cur w' p a len cap ∧ w.grownBy w' (some p) := by
  have hp := lt_of_cur hc
  have HC := hide hc
  clear hc
  go_enter Tryz.func29, Tryz.ntmps29
  go_wp2_with fail
  refine (drawPk_any p a len cap _ (cur_alloc HC.out _)).mono ?_
  rintro e w1 ⟨x, v1, v2, ps, rfl, hok, htp, src1, hc1, hg1⟩
  have r1 := hg1.block w.heap.size (by simp) (by simp; omega)
  rw [heap_alloc_new] at r1
  have hsz1 : w.heap.size < w1.heap.size := lt_of_heap r1
  obtain ⟨hh6, hl150, hrs⟩ := pk_few hok
  have htot : totP x ps ≤ 1100 := by
    have h4 := tot_small (ps := ps) hrs
    have h5 : (fsts ps).length = ps.length := by simp [fsts]
    unfold totP
    omega
  have G1 := hide (gro_same (gro_alloc (gro_refl w (some p)) (.cells #[.int .i64 0, .int .i64 0, .int .i64 0, .int .i64 0, .slice none 0 0, .slice none 0 0] 27)) hg1)
  have C1 := hide hc1
  have R1 := hide r1
  have HCP := hide (copyPk_any v1 v2 x ps w1.heap.size w1 src1 (Nat.le_refl _) (by omega))
  clear hc1 hg1 r1 hok htp HC
  unfold pkC
  go_wp2_with fail
  refine HCP.out.mono ?_
  rintro e w2 ⟨u1, u2, qs, m, rfl, hfq, own2, b2⟩
  obtain ⟨⟨va, vc, rfl⟩, ⟨ua, uc, rfl⟩⟩ := own2.in.shapes
  have hs2 := b2.size
  have htq : totP x qs ≤ 1100 := by unfold totP at htot ⊢; rw [tot_D, hfq, ← tot_D]; exact htot
  have hql : qs.length ≤ 150 := by
    have h5 : (fsts qs).length = qs.length := by simp [fsts]
    rw [hfq] at h5
    omega
  have st0 : PkSt w (w2.alloc (.cells (pkC x (.slice va x.heard.length vc) (.slice ua qs.length uc)) 27)) p (w1.heap.size + 2) w2.heap.size a len cap (.slice va x.heard.length vc) (.slice ua qs.length uc) x qs m :=
    { cur := cur_alloc (C1.out.grown (grown_of_below b2) (fun b _ => by simp)) _
      gro := gro_alloc (gro_step G1.out (grown_of_below b2) (fun k e => by cases e)) _
      box := heap_alloc_new w2 _
      res := (Below.heap_alloc _ _ _ (by omega)).trans ((b2.block _ hsz1).trans R1.out)
      own := own2.keep (fun k _ h2 h3 => Below.heap_alloc _ _ _ h3) }
  have hlz : w1.heap.size + 2 ≤ w2.heap.size := Nat.le_trans own2.o1 own2.o2
  have ST0 := hide st0
  have HTT := hide (show totP x qs ≤ 2000 by omega)
  have HQL := hide hql
  clear st0 own2 b2 src1 C1 G1 R1 HCP htq hql htot hh6 hl150 hrs hfq
  unfold pkC
  go_wp2_with fail
  obtain ⟨z, hz⟩ : ∃ z, z = w2.heap.size := ⟨_, rfl⟩
  obtain ⟨lo, hlo0⟩ : ∃ lo, lo = w1.heap.size + 2 := ⟨_, rfl⟩
  have hlo : w.heap.size < lo := by omega
  refine (below_any p a len cap 24 _ ST0.out.cur (by omega) (by omega)).mono ?_
  rintro e w3 ⟨y, rfl, hy0, hy1, hc3, hg3⟩
  have ST := hide (ST0.out.grown hc3 hg3 hp (by omega) hlz)
  clear hc3 hg3 ST0
  rw [← hz] at ST hlz ⊢
  rw [← hlo0] at ST hlz
  clear hz hlo0 hsz1 hs2
  have hzn : w.heap.size < z := by omega
  rcases (show y = 0 ∨ y = 1 ∨ y = 2 ∨ y = 3 ∨ y = 4 ∨ 5 ≤ y by omega) with rfl | rfl | rfl | rfl | rfl | h8
  · have FC := hide (ints_cells w3 [0, 1, 2, 3, 4])
    have hp2 : w3.heap.size ≠ p := by have := lt_of_cur ST.out.cur; omega
    go_wp2_with fail
    refine (pickR_any (fun _ => True) p a len cap w3.heap.size 5 _ (cur_alloc ST.out.cur _) (by omega) (by omega) hp2 FC.out).mono ?_
    rintro e w4 ⟨y5, rfl, _, hc4, hg4⟩
    have ST4 := hide ((ST.out.alloc _).grown hc4 hg4 hp hlo hlz)
    have sb := ST4.out.box
    unfold pkC at sb
    have s6 := cells_at sb 0
    have f6 := frozen_at sb
    simp at s6
    have PF := hide ((ST4.out.set 0 (.int .i64 y5) { x with kind := y5 } rfl rfl hp hlo hlz).fin)
    have HT9 : totP { x with kind := y5 } qs ≤ 1048576 := Nat.le_trans (show totP x qs ≤ 2000 from HTT.out) (by omega)
    clear hc4 hg4 ST ST4 sb FC
    have yb := PF.out.box
    have ub := PF.out.res
    unfold pkC at yb
    (try simp only [] at yb)
    have y0 := cells_at yb 0
    have y1 := cells_at yb 1
    have y2 := cells_at yb 2
    have y3 := cells_at yb 3
    have y4 := cells_at yb 4
    have y5 := cells_at yb 5
    have u0 := cells_at ub 0
    have u1 := cells_at ub 1
    have u2 := cells_at ub 2
    have u3 := cells_at ub 3
    have u4 := cells_at ub 4
    have u5 := cells_at ub 5
    simp at y0 y1 y2 y3 y4 y5 u0 u1 u2 u3 u4 u5
    have fu := frozen_at ub
    clear yb ub
    go_wp2_with fail
    (try simp only [Exit.inBlock, Exit.then])
    have F := PF.out.end hp
    refine bodyPost_ret (results_cell_row rfl _ _ w.heap.size 27 (pkC _ _ _) (0, 0) _ rfl F.1 Tryz.underlying27 rfl (by kernel_rfl)) rfl ?_
    exact ⟨_, _, _, _, rfl, HT9, F.2.1, F.2.2.1, F.2.2.2⟩
  · have FC := hide (ints_cells w3 [0, 6, 7, x.dst])
    have hp2 : w3.heap.size ≠ p := by have := lt_of_cur ST.out.cur; omega
    have sb0 := ST.out.box
    unfold pkC at sb0
    have s2 := cells_at sb0 2
    simp at s2
    clear sb0
    go_wp2_with fail
    refine (pickR_any (fun _ => True) p a len cap w3.heap.size 4 _ (cur_alloc ST.out.cur _) (by omega) (by omega) hp2 FC.out).mono ?_
    rintro e w4 ⟨y5, rfl, _, hc4, hg4⟩
    have ST4 := hide ((ST.out.alloc _).grown hc4 hg4 hp hlo hlz)
    have sb := ST4.out.box
    unfold pkC at sb
    have s6 := cells_at sb 1
    have f6 := frozen_at sb
    simp at s6
    have PF := hide ((ST4.out.set 1 (.int .i64 y5) { x with src := y5 } rfl rfl hp hlo hlz).fin)
    have HT9 : totP { x with src := y5 } qs ≤ 1048576 := Nat.le_trans (show totP x qs ≤ 2000 from HTT.out) (by omega)
    clear hc4 hg4 ST ST4 sb FC
    have yb := PF.out.box
    have ub := PF.out.res
    unfold pkC at yb
    (try simp only [] at yb)
    have y0 := cells_at yb 0
    have y1 := cells_at yb 1
    have y2 := cells_at yb 2
    have y3 := cells_at yb 3
    have y4 := cells_at yb 4
    have y5 := cells_at yb 5
    have u0 := cells_at ub 0
    have u1 := cells_at ub 1
    have u2 := cells_at ub 2
    have u3 := cells_at ub 3
    have u4 := cells_at ub 4
    have u5 := cells_at ub 5
    simp at y0 y1 y2 y3 y4 y5 u0 u1 u2 u3 u4 u5
    have fu := frozen_at ub
    clear yb ub
    go_wp2_with fail
    (try simp only [Exit.inBlock, Exit.then])
    have F := PF.out.end hp
    refine bodyPost_ret (results_cell_row rfl _ _ w.heap.size 27 (pkC _ _ _) (0, 0) _ rfl F.1 Tryz.underlying27 rfl (by kernel_rfl)) rfl ?_
    exact ⟨_, _, _, _, rfl, HT9, F.2.1, F.2.2.1, F.2.2.2⟩
  · have FC := hide (ints_cells w3 [-1, 0, 2, 3])
    have hp2 : w3.heap.size ≠ p := by have := lt_of_cur ST.out.cur; omega
    go_wp2_with fail
    refine (pickR_any (fun _ => True) p a len cap w3.heap.size 4 _ (cur_alloc ST.out.cur _) (by omega) (by omega) hp2 FC.out).mono ?_
    rintro e w4 ⟨y5, rfl, _, hc4, hg4⟩
    have ST4 := hide ((ST.out.alloc _).grown hc4 hg4 hp hlo hlz)
    have sb := ST4.out.box
    unfold pkC at sb
    have s6 := cells_at sb 3
    have f6 := frozen_at sb
    simp at s6
    have PF := hide ((ST4.out.set 3 (.int .i64 y5) { x with area := y5 } rfl rfl hp hlo hlz).fin)
    have HT9 : totP { x with area := y5 } qs ≤ 1048576 := Nat.le_trans (show totP x qs ≤ 2000 from HTT.out) (by omega)
    clear hc4 hg4 ST ST4 sb FC
    have yb := PF.out.box
    have ub := PF.out.res
    unfold pkC at yb
    (try simp only [] at yb)
    have y0 := cells_at yb 0
    have y1 := cells_at yb 1
    have y2 := cells_at yb 2
    have y3 := cells_at yb 3
    have y4 := cells_at yb 4
    have y5 := cells_at yb 5
    have u0 := cells_at ub 0
    have u1 := cells_at ub 1
    have u2 := cells_at ub 2
    have u3 := cells_at ub 3
    have u4 := cells_at ub 4
    have u5 := cells_at ub 5
    simp at y0 y1 y2 y3 y4 y5 u0 u1 u2 u3 u4 u5
    have fu := frozen_at ub
    clear yb ub
    go_wp2_with fail
    (try simp only [Exit.inBlock, Exit.then])
    have F := PF.out.end hp
    refine bodyPost_ret (results_cell_row rfl _ _ w.heap.size 27 (pkC _ _ _) (0, 0) _ rfl F.1 Tryz.underlying27 rfl (by kernel_rfl)) rfl ?_
    exact ⟨_, _, _, _, rfl, HT9, F.2.1, F.2.2.1, F.2.2.2⟩
  · have hxb := hide ST.out.drew.box
    go_wp2
    refine wp_region_noPanic ?_
    refine wp_region_startL 7 (fun W => W.heap[z]? = some (.cells (pkC x (.slice va x.heard.length vc) (.slice ua qs.length uc)) 27)) (by kernel_rfl) 8 rfl (fun ops hops => ?_)
    refine takeL_do 0 (oi := ?_) (v := ?_) ?_ (by rw [hops.out]; kernel_rfl) ?_ ?_ ?_ rfl hxb.out ?_
    rotate_left 2
    · rw [hops.out]; simp only [List.getElem?_toArray, List.getElem?_cons_succ, List.getElem?_cons_zero]; rfl
    · rw [hops.out]; kernel_rfl
    · intro W; go_simp <;> with_reducible rfl
    · exact fun _ _ _ h => h
    try simp only [Act.put, List.setIfInBounds_toArray, List.set_cons_zero, List.set_cons_succ]
    refine takeL_do 2 (oi := ?_) (v := ?_) ?_ (by rw [hops.out]; kernel_rfl) ?_ ?_ ?_ rfl hxb.out ?_
    rotate_left 2
    · rw [hops.out]; simp only [List.getElem?_toArray, List.getElem?_cons_succ, List.getElem?_cons_zero]; rfl
    · rw [hops.out]; kernel_rfl
    · intro W; go_simp <;> with_reducible rfl
    · exact fun _ _ _ h => h
    try simp only [Act.put, List.setIfInBounds_toArray, List.set_cons_zero, List.set_cons_succ]
    refine takeL_held 1 [5, 7] (oi := ?_) (v := ?_) ?_ (by rw [hops.out]; kernel_rfl) (by rw [hops.out]; kernel_rfl) ?_ ?_ ?_ hxb.out ?_
    rotate_left 2
    · rw [hops.out]; simp only [List.getElem?_toArray, List.getElem?_cons_succ, List.getElem?_cons_zero]; rfl
    · rw [hops.out]; kernel_rfl
    · intro W hW; have hWc := cells_at hW 4; unfold pkC at hWc; simp only [List.getElem?_toArray, List.getElem?_cons_succ, List.getElem?_cons_zero] at hWc; go_simp <;> with_reducible rfl
    · exact fun _ _ _ h => h
    try simp only [Act.put, List.setIfInBounds_toArray, List.set_cons_zero, List.set_cons_succ]
    refine takeL_call 3 (oi := ?_) ?_ (by rw [hops.out]; kernel_rfl) ?_ ?_
    rotate_left 1
    · rw [hops.out]; simp only [List.getElem?_toArray, List.getElem?_cons_succ, List.getElem?_cons_zero]; rfl
    · rw [hops.out]; kernel_rfl
    intro K hK
    go_simp
    refine (below_any p a len cap 8 _ ST.out.drew.cur (by omega) (by omega)).mono ?_
    rintro e w4 ⟨y5, rfl, _, _, hc4, hg4⟩
    have ST4 := ST.out.drew.grown hc4 hg4 hp hlo hlz
    refine hK.out _ _ (fun _ => ST4.box) ?_
    clear hK K
    try simp only [Act.put, List.setIfInBounds_toArray, List.set_cons_zero, List.set_cons_succ]
    refine takeL_call 4 (oi := ?_) ?_ (by rw [hops.out]; kernel_rfl) ?_ ?_
    rotate_left 1
    · rw [hops.out]; simp only [List.getElem?_toArray, List.getElem?_cons_succ, List.getElem?_cons_zero]; rfl
    · rw [hops.out]; kernel_rfl
    intro K hK
    go_simp
    have ST5 := ST4.alloc (.cells #[.int .i64 y5] 3)
    refine hK.out _ _ (fun _ => ST5.box) ?_
    clear hK K
    try simp only [Act.put, List.setIfInBounds_toArray, List.set_cons_zero, List.set_cons_succ]
    refine takeL_call 5 (oi := ?_) ?_ (by rw [hops.out]; kernel_rfl) ?_ ?_
    rotate_left 1
    · rw [hops.out]; simp only [List.getElem?_toArray, List.getElem?_cons_succ, List.getElem?_cons_zero]; rfl
    · rw [hops.out]; kernel_rfl
    intro K hK
    refine wp_append_oneR intE_len (by omega) (by omega) _ _ _ 24 rfl lo 3 Tryz.underlying24 (.int .i64 0) rfl Tryz.info3 _ x.heard y5 (intE_one _) rfl ST5.own.heard.row ⟨w4.heap.size, 0, none⟩ 1 rfl (news_struct (cs := intE y5)) (by have := HTT.out; unfold totP at this; omega) (by have := lt_of_heap ST5.box; omega) ?_
    intro v' w6 ho6 gr6
    have ho7 : w6.ownsRow lo 3 1 v' (x.heard.length + 1) (flat intE (x.heard ++ [y5])) := by simpa using ho6
    obtain ⟨na, nc, rfl⟩ := owns_lenS ho7
    obtain ⟨bx6, PF0⟩ := ST5.hear hp hlo hlz ho7 gr6
    have PF := hide PF0
    refine hK.out _ _ (fun _ => bx6) ?_
    clear hK K
    try simp only [Act.put, List.setIfInBounds_toArray, List.set_cons_zero, List.set_cons_succ]
    refine takeL_do 6 (oi := ?_) (v := ?_) ?_ (by rw [hops.out]; kernel_rfl) ?_ ?_ ?_ rfl bx6 ?_
    rotate_left 2
    · rw [hops.out]; simp only [List.getElem?_toArray, List.getElem?_cons_succ, List.getElem?_cons_zero]; rfl
    · rw [hops.out]; kernel_rfl
    · intro W; go_simp <;> with_reducible rfl
    · exact fun _ _ _ h => h
    try simp only [Act.put, List.setIfInBounds_toArray, List.set_cons_zero, List.set_cons_succ]
    refine takeL_call 7 (oi := ?_) ?_ (by rw [hops.out]; kernel_rfl) ?_ ?_
    rotate_left 1
    · rw [hops.out]; simp only [List.getElem?_toArray, List.getElem?_cons_succ, List.getElem?_cons_zero]; rfl
    · rw [hops.out]; kernel_rfl
    intro K hK
    have c6 := cells_at bx6 4
    have f6 := frozen_at bx6 4
    unfold pkC at c6
    simp only [List.getElem?_toArray, List.getElem?_cons_succ, List.getElem?_cons_zero] at c6
    go_simp
    (try simp only [List.length_append, List.length_cons, List.length_nil, Nat.zero_add])
    refine hK.out _ _ (fun h9 => by cases h9) ?_
    clear hK K
    refine wpAnyL_done (by rw [hops.out]; kernel_rfl) (NoPanic.normal ?_) _
    clear hops ops c6 f6
    have HT9 : totP { x with heard := x.heard ++ [y5] } qs ≤ 1048576 := by have := HTT.out; unfold totP at this ⊢; simp only [List.length_append, List.length_cons, List.length_nil]; omega
    clear ho6 ho7 gr6 bx6 ST4 ST5 hc4 hg4 ST hxb PF0
    have yb := PF.out.box
    have ub := PF.out.res
    unfold pkC at yb
    (try simp only [] at yb)
    have y0 := cells_at yb 0
    have y1 := cells_at yb 1
    have y2 := cells_at yb 2
    have y3 := cells_at yb 3
    have y4 := cells_at yb 4
    have y5 := cells_at yb 5
    have u0 := cells_at ub 0
    have u1 := cells_at ub 1
    have u2 := cells_at ub 2
    have u3 := cells_at ub 3
    have u4 := cells_at ub 4
    have u5 := cells_at ub 5
    simp at y0 y1 y2 y3 y4 y5 u0 u1 u2 u3 u4 u5
    have fu := frozen_at ub
    clear yb ub
    go_wp2_with fail
    (try simp only [Exit.inBlock, Exit.then])
    have F := PF.out.end hp
    refine bodyPost_ret (results_cell_row rfl _ _ w.heap.size 27 (pkC _ _ _) (0, 0) _ rfl F.1 Tryz.underlying27 rfl (by kernel_rfl)) rfl ?_
    exact ⟨_, _, _, _, rfl, HT9, F.2.1, F.2.2.1, F.2.2.2⟩
  · have hxb := hide ST.out.drew.box
    go_wp2
    refine wp_region_noPanic ?_
    refine wp_region_startL 7 (fun W => W.heap[z]? = some (.cells (pkC x (.slice va x.heard.length vc) (.slice ua qs.length uc)) 27)) (by kernel_rfl) 8 rfl (fun ops hops => ?_)
    refine takeL_do 0 (oi := ?_) (v := ?_) ?_ (by rw [hops.out]; kernel_rfl) ?_ ?_ ?_ rfl hxb.out ?_
    rotate_left 2
    · rw [hops.out]; simp only [List.getElem?_toArray, List.getElem?_cons_succ, List.getElem?_cons_zero]; rfl
    · rw [hops.out]; kernel_rfl
    · intro W; go_simp <;> with_reducible rfl
    · exact fun _ _ _ h => h
    try simp only [Act.put, List.setIfInBounds_toArray, List.set_cons_zero, List.set_cons_succ]
    refine takeL_do 2 (oi := ?_) (v := ?_) ?_ (by rw [hops.out]; kernel_rfl) ?_ ?_ ?_ rfl hxb.out ?_
    rotate_left 2
    · rw [hops.out]; simp only [List.getElem?_toArray, List.getElem?_cons_succ, List.getElem?_cons_zero]; rfl
    · rw [hops.out]; kernel_rfl
    · intro W; go_simp <;> with_reducible rfl
    · exact fun _ _ _ h => h
    try simp only [Act.put, List.setIfInBounds_toArray, List.set_cons_zero, List.set_cons_succ]
    refine takeL_held 1 [5, 7] (oi := ?_) (v := ?_) ?_ (by rw [hops.out]; kernel_rfl) (by rw [hops.out]; kernel_rfl) ?_ ?_ ?_ hxb.out ?_
    rotate_left 2
    · rw [hops.out]; simp only [List.getElem?_toArray, List.getElem?_cons_succ, List.getElem?_cons_zero]; rfl
    · rw [hops.out]; kernel_rfl
    · intro W hW; have hWc := cells_at hW 5; unfold pkC at hWc; simp only [List.getElem?_toArray, List.getElem?_cons_succ, List.getElem?_cons_zero] at hWc; go_simp <;> with_reducible rfl
    · exact fun _ _ _ h => h
    try simp only [Act.put, List.setIfInBounds_toArray, List.set_cons_zero, List.set_cons_succ]
    refine takeL_call 3 (oi := ?_) ?_ (by rw [hops.out]; kernel_rfl) ?_ ?_
    rotate_left 1
    · rw [hops.out]; simp only [List.getElem?_toArray, List.getElem?_cons_succ, List.getElem?_cons_zero]; rfl
    · rw [hops.out]; kernel_rfl
    intro K hK
    go_simp
    refine (anyD_any p a len cap _ ST.out.drew.cur).mono ?_
    rintro e w4 ⟨xr, vr, rfl, hor, hlr, hc4, hg4⟩
    obtain ⟨ra, rc, rfl⟩ := owns_lenS hor
    have ST4 := ST.out.drew.grown hc4 hg4 hp hlo hlz
    have hzz := lt_of_heap ST.out.box
    have NO4 : NearOwn w4 z w4.heap.size (xr, .slice ra xr.near.length rc) := ⟨owns_baseS hor (by simp; omega), fun k e => (hor.lt k e).2⟩
    refine hK.out _ _ (fun _ => ST4.box) ?_
    clear hK K
    unfold recC
    try simp only [Act.put, List.setIfInBounds_toArray, List.set_cons_zero, List.set_cons_succ]
    refine takeL_call 4 (oi := ?_) ?_ (by rw [hops.out]; kernel_rfl) ?_ ?_
    rotate_left 1
    · rw [hops.out]; simp only [List.getElem?_toArray, List.getElem?_cons_succ, List.getElem?_cons_zero]; rfl
    · rw [hops.out]; kernel_rfl
    intro K hK
    go_simp
    have ST5 := ST4.alloc (.cells #[.int .i64 xr.area, .int .i64 xr.kind, .int .i64 xr.owner, .int .i64 xr.key, .int .i64 xr.seq, .slice ra xr.near.length rc, .int .i64 xr.cost, .bool xr.far] 51)
    have NO5 : NearOwn (w4.alloc (.cells #[.int .i64 xr.area, .int .i64 xr.kind, .int .i64 xr.owner, .int .i64 xr.key, .int .i64 xr.seq, .slice ra xr.near.length rc, .int .i64 xr.cost, .bool xr.far] 51)) z (w4.alloc (.cells #[.int .i64 xr.area, .int .i64 xr.kind, .int .i64 xr.owner, .int .i64 xr.key, .int .i64 xr.seq, .slice ra xr.near.length rc, .int .i64 xr.cost, .bool xr.far] 51)).heap.size (xr, .slice ra xr.near.length rc) := ⟨NO4.1.alloc _, fun k e => by have := NO4.2 k e; simp; omega⟩
    refine hK.out _ _ (fun _ => ST5.box) ?_
    clear hK K
    try simp only [Act.put, List.setIfInBounds_toArray, List.set_cons_zero, List.set_cons_succ]
    refine takeL_call 5 (oi := ?_) ?_ (by rw [hops.out]; kernel_rfl) ?_ ?_
    rotate_left 1
    · rw [hops.out]; simp only [List.getElem?_toArray, List.getElem?_cons_succ, List.getElem?_cons_zero]; rfl
    · rw [hops.out]; kernel_rfl
    intro K hK
    refine wp_append_oneR encP_len (by omega) (by omega) _ _ _ 25 rfl m 51 Tryz.underlying25 (.agg (recC zeroRD (.slice none 0 0))) rfl Tryz.infoRec _ qs (xr, .slice ra xr.near.length rc) (encP_one _ _ _ _) rfl ST5.own.list.row ⟨w4.heap.size, 0, none⟩ 1 rfl (news_struct (cs := encP (xr, .slice ra xr.near.length rc))) (by have := HQL.out; omega) (by have := lt_of_heap ST5.box; have := ST5.own.o2; omega) ?_
    intro v' w6 ho6 gr6
    have ho7 : w6.ownsRow m 51 8 v' (qs.length + 1) (flat encP (qs ++ [(xr, .slice ra xr.near.length rc)])) := by simpa using ho6
    obtain ⟨na, nc, rfl⟩ := owns_lenS ho7
    obtain ⟨bx6, PF0⟩ := ST5.tell hp hlo hlz NO5 ho7 gr6
    have PF := hide PF0
    refine hK.out _ _ (fun _ => bx6) ?_
    clear hK K
    try simp only [Act.put, List.setIfInBounds_toArray, List.set_cons_zero, List.set_cons_succ]
    refine takeL_do 6 (oi := ?_) (v := ?_) ?_ (by rw [hops.out]; kernel_rfl) ?_ ?_ ?_ rfl bx6 ?_
    rotate_left 2
    · rw [hops.out]; simp only [List.getElem?_toArray, List.getElem?_cons_succ, List.getElem?_cons_zero]; rfl
    · rw [hops.out]; kernel_rfl
    · intro W; go_simp <;> with_reducible rfl
    · exact fun _ _ _ h => h
    try simp only [Act.put, List.setIfInBounds_toArray, List.set_cons_zero, List.set_cons_succ]
    refine takeL_call 7 (oi := ?_) ?_ (by rw [hops.out]; kernel_rfl) ?_ ?_
    rotate_left 1
    · rw [hops.out]; simp only [List.getElem?_toArray, List.getElem?_cons_succ, List.getElem?_cons_zero]; rfl
    · rw [hops.out]; kernel_rfl
    intro K hK
    have c6 := cells_at bx6 5
    have f6 := frozen_at bx6 5
    unfold pkC at c6
    simp only [List.getElem?_toArray, List.getElem?_cons_succ, List.getElem?_cons_zero] at c6
    go_simp
    (try simp only [List.length_append, List.length_cons, List.length_nil, Nat.zero_add])
    refine hK.out _ _ (fun h9 => by cases h9) ?_
    clear hK K
    refine wpAnyL_done (by rw [hops.out]; kernel_rfl) (NoPanic.normal ?_) _
    clear hops ops c6 f6
    have HT9 : totP x (qs ++ [(xr, .slice ra xr.near.length rc)]) ≤ 1048576 := by have := HTT.out; unfold totP at this ⊢; rw [tot_addP]; simp only []; omega
    clear ho6 ho7 gr6 bx6 ST4 ST5 hc4 hg4 ST hxb PF0 NO4 NO5 hor
    have yb := PF.out.box
    have ub := PF.out.res
    unfold pkC at yb
    (try simp only [] at yb)
    have y0 := cells_at yb 0
    have y1 := cells_at yb 1
    have y2 := cells_at yb 2
    have y3 := cells_at yb 3
    have y4 := cells_at yb 4
    have y5 := cells_at yb 5
    have u0 := cells_at ub 0
    have u1 := cells_at ub 1
    have u2 := cells_at ub 2
    have u3 := cells_at ub 3
    have u4 := cells_at ub 4
    have u5 := cells_at ub 5
    simp at y0 y1 y2 y3 y4 y5 u0 u1 u2 u3 u4 u5
    have fu := frozen_at ub
    clear yb ub
    go_wp2_with fail
    (try simp only [Exit.inBlock, Exit.then])
    have F := PF.out.end hp
    refine bodyPost_ret (results_cell_row rfl _ _ w.heap.size 27 (pkC _ _ _) (0, 0) _ rfl F.1 Tryz.underlying27 rfl (by kernel_rfl)) rfl ?_
    exact ⟨_, _, _, _, rfl, HT9, F.2.1, F.2.2.1, F.2.2.2⟩
  · have d0 : (y == 0) = false := by simp; omega
    have d1 : (y == 1) = false := by simp; omega
    have d2 : (y == 2) = false := by simp; omega
    have d3 : (y == 3) = false := by simp; omega
    have d4 : (y == 4) = false := by simp; omega
    have PF := hide ST.out.fin
    have HT9 : totP x qs ≤ 1048576 := Nat.le_trans HTT.out (by omega)
    clear ST h8
    have yb := PF.out.box
    have ub := PF.out.res
    unfold pkC at yb
    (try simp only [] at yb)
    have y0 := cells_at yb 0
    have y1 := cells_at yb 1
    have y2 := cells_at yb 2
    have y3 := cells_at yb 3
    have y4 := cells_at yb 4
    have y5 := cells_at yb 5
    have u0 := cells_at ub 0
    have u1 := cells_at ub 1
    have u2 := cells_at ub 2
    have u3 := cells_at ub 3
    have u4 := cells_at ub 4
    have u5 := cells_at ub 5
    simp at y0 y1 y2 y3 y4 y5 u0 u1 u2 u3 u4 u5
    have fu := frozen_at ub
    clear yb ub
    go_wp2_with fail
    (try simp only [Exit.inBlock, Exit.then])
    have F := PF.out.end hp
    refine bodyPost_ret (results_cell_row rfl _ _ w.heap.size 27 (pkC _ _ _) (0, 0) _ rfl F.1 Tryz.underlying27 rfl (by kernel_rfl)) rfl ?_
    exact ⟨_, _, _, _, rfl, HT9, F.2.1, F.2.2.1, F.2.2.2⟩
end Go.Proofs.YtchmmekhfcojgaaGreatDoor
