/-
  Regions that draw their order and store at their end: a condition on the world that is held till one operation has come up.
  append of one element, as an operation of a region (cut out of RpDag).
  spec.l04Record: some record.
-/
import Derived.Test.YtchmmekhfcojgaaGreatDoorPq4
import Derived.Test.YtchmmekhfcojgaaGreatDoorPq1
import Derived.Test.YtchmmekhfcojgaaGreatDoorPq13
namespace Go.Proofs.YtchmmekhfcojgaaGreatDoor
open Go.RowKit

/-- whatever order is picked, S holds behind every operation till number st has come up -/
def wpAnyL (P : Program) (ops : Array Oper) (Q : Exit → Act → World → Prop) (S : World → Prop) (st : Nat) : Nat → Array Bool → Act → World → Prop
  | 0, listed, a, w => Region.ready .any ops listed = [] ∧ Q .normal a w
  | fuel + 1, listed, a, w =>
    (Region.ready .any ops listed = [] → Q .normal a w) ∧
    ∀ i ∈ Region.ready .any ops listed, wpOp P ops Q i (fun a' w' => ((listed.setIfInBounds i true).getD st true = false → S w') ∧ wpAnyL P ops Q S st fuel (listed.setIfInBounds i true) a' w') a w

section
variable {P : Program} {ops : Array Oper} {Q : Exit → Act → World → Prop} {S : World → Prop} {st : Nat}

theorem wpAny_of_L : ∀ (fuel : Nat) (listed : Array Bool) (a : Act) (w : World), wpAnyL P ops Q S st fuel listed a w → wpAny P .any ops Q fuel listed a w
  | 0, _, _, _, h => h
  | fuel + 1, _, _, _, h => ⟨h.1, fun i hi => wpOp_mono (fun a' w' h' => wpAny_of_L fuel _ a' w' h'.2) (h.2 i hi)⟩

/-- the operations T (st among them) come up behind number i alone, and none of them has come up -/
def behindB (ops : Array Oper) (listed : Array Bool) (i st : Nat) (T : List Nat) : Bool :=
  T.contains st && T.all fun t => t != i && (listed.getD t true == false) && (match ops[t]? with | some o => o.after.any (fun e => Region.binds .any e && (e.on == i || T.contains e.on)) | none => false)

theorem un_getD {listed : Array Bool} {k : Nat} (h0 : listed.getD k true = false) (h1 : listed.getD k false = true) : False := by
  rcases Nat.lt_or_ge k listed.size with h' | h'
  · simp [h'] at h0 h1; rw [h0] at h1; cases h1
  · simp [Array.getElem?_eq_none h'] at h1

theorem wpAnyL_first {i : Nat} {oi : Oper} {v : Value} (hi : ops[i]? = some oi) (hsel : ∀ (j : Nat) (o : Oper) cs b, ops[j]? = some o → o.op ≠ .select cs b)
    (hQ : ∀ c a w, Q (.panic c) (a.put oi.dst v) w → Q (.panic c) a w) (T : List Nat) (hst : st ∈ T) (hne : ∀ t ∈ T, t ≠ i)
    (hT : ∀ t ∈ T, ∀ o, ops[t]? = some o → ∃ e ∈ o.after, Region.binds .any e = true ∧ (e.on = i ∨ e.on ∈ T)) :
    ∀ (fuel : Nat) (listed : Array Bool) (a : Act) (w : World),
      (∀ j oj, ops[j]? = some oj → j ≠ i → listed.getD j true = false → (∀ e ∈ oj.after, Region.binds .any e = true → e.on ≠ i) → oi.apart ops oj = true) →
      i ∈ Region.ready .any ops listed → (∀ t ∈ T, listed.getD t true = false) → YieldsIf P ops S oi v a → S w →
      wpAnyL P ops Q S st fuel (listed.setIfInBounds i true) (a.put oi.dst v) w → wpAnyL P ops Q S st (fuel + 1) listed a w := by
  intro fuel
  induction fuel with
  | zero =>
    intro listed a w _ hr _ hy hS H
    refine ⟨fun h => (by rw [h] at hr; cases hr), fun j hj => ?_⟩
    by_cases hji : j = i
    · subst hji; exact hy.wpOp hi hS ⟨fun _ => hS, H⟩
    · have := ready_mono hj hji
      rw [H.1] at this
      cases this
  | succ fuel ih =>
    intro listed a w hfree hr hun hy hS H
    refine ⟨fun h => (by rw [h] at hr; cases hr), fun j hj => ?_⟩
    by_cases hji : j = i
    · subst hji; exact hy.wpOp hi hS ⟨fun _ => hS, H⟩
    · have h1 := H.2 j (ready_mono hj hji)
      obtain ⟨hjun, oj, hoj, hall⟩ := mem_ready.1 hj
      have hi0 := (mem_ready.1 hr).1
      have hnot : ∀ e ∈ oj.after, Region.binds .any e = true → e.on ≠ i := fun e he hb heq => un_getD hi0 (heq ▸ hall e he hb)
      have hjT : j ∉ T := fun hm => by
        obtain ⟨e, he, hb, h⟩ := hT j hm oj hoj
        rcases h with h | h
        · exact hnot e he hb h
        · exact un_getD (hun _ h) (hall e he hb)
      have h2 := wpOp_putIf hoj (hfree j oj hoj hji hjun hnot) (fun cs b => hsel i oi cs b hi) (fun cs b => hsel j oj cs b hoj) hQ hy h1
      have hfree' : ∀ k ok, ops[k]? = some ok → k ≠ i → (listed.setIfInBounds j true).getD k true = false →
          (∀ e ∈ ok.after, Region.binds .any e = true → e.on ≠ i) → oi.apart ops ok = true := fun k ok hk hki hun hno => by
        refine hfree k ok hk hki ?_ hno
        by_cases hjk : j = k
        · subst hjk; exact hjun
        · rw [getD_set_ne true hjk] at hun; exact hun
      have hun' : ∀ t ∈ T, (listed.setIfInBounds j true).getD t true = false := fun t ht => by
        rw [getD_set_ne true (fun e => hjT (by rw [e]; exact ht))]
        exact hun t ht
      refine wpOp_mono (fun a' w' h3 => ?_) h2
      have hS' : S w' := h3.2.1 (by
        rw [getD_set_ne true (fun e => hjT (by rw [e]; exact hst)), getD_set_ne true (fun e => hne st hst e.symm)]
        exact hun st hst)
      refine ⟨fun _ => hS', ih (listed.setIfInBounds j true) a' w' hfree' (ready_mono hr (Ne.symm hji)) hun' h3.1 hS' ?_⟩
      rw [Array.setIfInBounds_comm _ _ hji]
      exact h3.2.2

theorem wpAnyL_pure {i : Nat} {oi : Oper} {v : Value} (hi : ops[i]? = some oi) (hsel : ∀ (j : Nat) (o : Oper) cs b, ops[j]? = some o → o.op ≠ .select cs b)
    (hQ : ∀ c a w, Q (.panic c) (a.put oi.dst v) w → Q (.panic c) a w) (his : i ≠ st) :
    ∀ (fuel : Nat) (listed : Array Bool) (a : Act) (w : World),
      (∀ j oj, ops[j]? = some oj → j ≠ i → listed.getD j true = false → (∀ e ∈ oj.after, Region.binds .any e = true → e.on ≠ i) → oi.apart ops oj = true) →
      i ∈ Region.ready .any ops listed → YieldsIf P ops (fun _ => True) oi v a → (listed.getD st true = false → S w) →
      wpAnyL P ops Q S st fuel (listed.setIfInBounds i true) (a.put oi.dst v) w → wpAnyL P ops Q S st (fuel + 1) listed a w := by
  intro fuel
  induction fuel with
  | zero =>
    intro listed a w _ hr hy hS H
    refine ⟨fun h => (by rw [h] at hr; cases hr), fun j hj => ?_⟩
    by_cases hji : j = i
    · subst hji; exact hy.wpOp hi trivial ⟨fun h => hS (by rw [getD_set_ne true his] at h; exact h), H⟩
    · have := ready_mono hj hji
      rw [H.1] at this
      cases this
  | succ fuel ih =>
    intro listed a w hfree hr hy hS H
    refine ⟨fun h => (by rw [h] at hr; cases hr), fun j hj => ?_⟩
    by_cases hji : j = i
    · subst hji; exact hy.wpOp hi trivial ⟨fun h => hS (by rw [getD_set_ne true his] at h; exact h), H⟩
    · have h1 := H.2 j (ready_mono hj hji)
      obtain ⟨hjun, oj, hoj, hall⟩ := mem_ready.1 hj
      have hi0 := (mem_ready.1 hr).1
      have hnot : ∀ e ∈ oj.after, Region.binds .any e = true → e.on ≠ i := fun e he hb heq => un_getD hi0 (heq ▸ hall e he hb)
      have h2 := wpOp_putIf hoj (hfree j oj hoj hji hjun hnot) (fun cs b => hsel i oi cs b hi) (fun cs b => hsel j oj cs b hoj) hQ hy h1
      have hfree' : ∀ k ok, ops[k]? = some ok → k ≠ i → (listed.setIfInBounds j true).getD k true = false →
          (∀ e ∈ ok.after, Region.binds .any e = true → e.on ≠ i) → oi.apart ops ok = true := fun k ok hk hki hun hno => by
        refine hfree k ok hk hki ?_ hno
        by_cases hjk : j = k
        · subst hjk; exact hjun
        · rw [getD_set_ne true hjk] at hun; exact hun
      refine wpOp_mono (fun a' w' h3 => ?_) h2
      have hS' : (listed.setIfInBounds j true).getD st true = false → S w' := fun h => h3.2.1 (by
        rw [Array.setIfInBounds_comm _ _ (Ne.symm hji), getD_set_ne true his]
        exact h)
      refine ⟨hS', ih (listed.setIfInBounds j true) a' w' hfree' (ready_mono hr (Ne.symm hji)) h3.1 hS' ?_⟩
      rw [Array.setIfInBounds_comm _ _ hji]
      exact h3.2.2

variable {fuel : Nat} {listed : Array Bool} {a : Act} {w : World}

/-- the beginning: the region's operations behind a letter -/
theorem wp_region_startL {id : Nat} (st : Nat) (S : World → Prop) (hm : P.follows .mixedOrders = true) (n : Nat) (hn : ops.size = n) (h : ∀ ops', Hid (ops' = ops) → wpAnyL P ops' Q S st n (Array.replicate n false) a w.drew) : (Code.region id ops true).wp P Q a w := by
  refine wp_region_any hm (wpAny_of_L _ _ _ _ (?_ : wpAnyL P ops Q S st _ _ _ _))
  rw [hn]
  exact h ops rfl

/-- an operation that yields v in every world -/
theorem takeL_do (i : Nat) {oi : Oper} {v : Value} (hi : ops[i]? = some oi) (ht : mayTake ops listed i = true) (hw : Region.wanted oi (yielded ops a.tmps) = true) (hy : ∀ w, (execOp a.eval oi).run P w = .ok (.value v) w)
    (hQ : ∀ c a w, Q (.panic c) (a.put oi.dst v) w → Q (.panic c) a w) (his : (i != st) = true) (hS : S w) (h : wpAnyL P ops Q S st fuel (listed.setIfInBounds i true) (a.put oi.dst v) w) : wpAnyL P ops Q S st (fuel + 1) listed a w := by
  obtain ⟨h1, h2, h3⟩ := mayTake_parts ht
  exact wpAnyL_pure hi (Region.noSelect_spec h1) hQ (by simpa using his) fuel listed a w (Region.free_spec hi h2) (by simpa using h3) (.inl ⟨hw, fun w _ => hy w⟩) (fun _ => hS) h

/-- an operation that yields v in every world that meets S, and that number st waits for -/
theorem takeL_held (i : Nat) (T : List Nat) {oi : Oper} {v : Value} (hi : ops[i]? = some oi) (ht : mayTake ops listed i = true) (hT : behindB ops listed i st T = true) (hw : Region.wanted oi (yielded ops a.tmps) = true) (hy : ∀ w, S w → (execOp a.eval oi).run P w = .ok (.value v) w)
    (hQ : ∀ c a w, Q (.panic c) (a.put oi.dst v) w → Q (.panic c) a w) (hS : S w) (h : wpAnyL P ops Q S st fuel (listed.setIfInBounds i true) (a.put oi.dst v) w) : wpAnyL P ops Q S st (fuel + 1) listed a w := by
  obtain ⟨h1, h2, h3⟩ := mayTake_parts ht
  unfold behindB at hT
  simp only [Bool.and_eq_true, List.all_eq_true, bne_iff_ne, beq_iff_eq, ne_eq] at hT
  refine wpAnyL_first hi (Region.noSelect_spec h1) hQ T (by simpa using hT.1) (fun t ht => (hT.2 t ht).1.1) (fun t ht o ho => ?_) fuel listed a w (Region.free_spec hi h2) (by simpa using h3) (fun t ht => (hT.2 t ht).1.2) (.inl ⟨hw, hy⟩) hS h
  have h4 := (hT.2 t ht).2
  rw [ho] at h4
  simp only [Array.any_eq_true'] at h4
  obtain ⟨e, he, h5⟩ := h4
  simp only [Bool.and_eq_true, Bool.or_eq_true, beq_iff_eq, List.contains_iff_mem] at h5
  exact ⟨e, he, h5.1, h5.2⟩

/-- a call that alone may come up -/
theorem takeL_call (i : Nat) {oi : Oper} (hi : ops[i]? = some oi) (hr : Region.ready .any ops listed = [i]) (hw : Region.wanted oi (yielded ops a.tmps) = true)
    (h : ∀ K' : Act → World → Prop, Shut (∀ a w, ((listed.setIfInBounds i true).getD st true = false → S w) → wpAnyL P ops Q S st fuel (listed.setIfInBounds i true) a w → K' a w) → Oper.wp P oi a w K' Q) : wpAnyL P ops Q S st (fuel + 1) listed a w := by
  refine ⟨fun h0 => (by rw [h0] at hr; cases hr), fun j hj => ?_⟩
  rw [hr] at hj
  have e : j = i := by simpa using hj
  subst e
  refine wpOp_step hi (fun K' hK => ?_)
  rw [if_pos hw]
  exact h K' (fun a w hS hW => hK a w ⟨hS, hW⟩)

theorem wpAnyL_done (hr : Region.ready .any ops listed = []) (h : Q .normal a w) : ∀ fuel, wpAnyL P ops Q S st fuel listed a w
  | 0 => ⟨hr, h⟩
  | _ + 1 => ⟨fun _ => h, by rw [hr]; simp⟩
end
end Go.Proofs.YtchmmekhfcojgaaGreatDoor
namespace Go.Proofs.YtchmmekhfcojgaaGreatDoor
open Go.RowKit

theorem wp_append_oneR {α : Type} {enc : α → List Value} {sz bytes : Nat} (hlen : ∀ a, (enc a).length = sz) (hpos : 0 < sz) (hbb : bytes ≤ 100) {P : Program} (w : World) {o : Oper} {a : Act} {K : Act → World → Prop} {Q : Exit → Act → World → Prop} (s x : Operand) (t : TypeId)
    (ho : o.op = .call { callee := .builtin .append, args := #[s, x], argTypes := #[t, t] }) (base : Nat) (e : TypeId) (ht : P.underlying t = some (.slice e)) (zv : Value) (hzv : zv.cells.size = sz)
    (hinfo : (P.info? e).map (fun i => (i.zero, i.size, i.bytes)) = some (some zv, sz, bytes))
    (v : Value) (l : List α) (y : α) (hone : ∀ u ∈ enc y, u.oneCell' = true) (hs : a.eval s = v) (hown : w.ownsRow base e sz v l.length (flat enc l))
    (ad : Addr) (c : Nat) (hx : a.eval x = .slice (some ad) 1 c) (hnews : ∀ j u, (enc y)[j]? = some u → w.cell? (ad.add j) = some u)
    (hl : l.length + 1 ≤ 1000000000) (hbase : base ≤ w.heap.size)
    (h : ∀ v' w', w'.ownsRow base e sz v' (l ++ [y]).length (flat enc (l ++ [y])) → w.grownBy w' v.ownBlock → K (a.put o.dst v') w') : o.wp P a w K Q := by
  obtain ⟨i0, hi, hz0, hz1, hz2⟩ := info_parts hinfo
  refine wp_append_own w s x t ho base e i0 zv sz bytes ht hi hz0 hz1 hz2 hzv hpos v l.length (flat enc l) hs hown ad 1 c (enc y) hx (by rw [hlen]; omega) hnews hone (by unfold maxLen; omega) ?_ hbase ?_
  · have : (l.length + 1) * bytes ≤ 1000000000 * 100 := Nat.mul_le_mul hl hbb
    omega
  · intro v' w' h1 h2 _
    have e1 : flat enc l ++ enc y = flat enc (l ++ [y]) := by rw [flat_append]; simp [flat]
    rw [e1] at h1
    exact h v' w' (by simpa using h1) h2

end Go.Proofs.YtchmmekhfcojgaaGreatDoor
namespace Go.Proofs.YtchmmekhfcojgaaGreatDoor
open Go.RowKit

set_option linter.unusedSimpArgs false

set_option maxRecDepth 100000 in
set_option maxHeartbeats 2000000 in
theorem recD_any (p : Nat) (a : Option Addr) (len cap : Nat) (w : World) (hc : Cur w p a len cap) :
    Calls Tryz.prog 70 #[.pointer (some ⟨p, 0, none⟩)] w fun e w' => ∃ (x : RecD) (v : Value), e = .returned (.agg (recC x v)) ∧ w'.ownsRow (w.heap.size + 1) 100 2 v x.near.length (flat nrE x.near) ∧ x.near.length ≤ 6 ∧ Cur w' p a len cap ∧ w.grownBy w' (some p) := by
  have hp := lt_of_cur hc
  have HC := hide hc
  clear hc
  go_enter Tryz.func70, Tryz.ntmps70
  go_wp2_with fail
  refine (below_any p a len cap 3 _ (cur_alloc HC.out _) (by omega) (by omega)).mono ?_
  rintro e w1 ⟨y0, rfl, hy0, hy0', hc1, hg1⟩
  have r1 := hg1.block w.heap.size (by simp) (by simp; omega)
  rw [heap_alloc_new] at r1
  have b1 : w.grownBy w1 (some p) := gro_same (gro_alloc (gro_refl w _) _) hg1
  have C1 := hide hc1
  have R1 := hide r1
  have D1 := hide b1
  clear hc1 r1 b1 hg1 HC
  go_wp2_with fail
  refine (below_any p a len cap 4 _ C1.out (by omega) (by omega)).mono ?_
  rintro e w2 ⟨y1, rfl, hy1, hy1', hc2, hg2⟩
  have R2 := hide ((hg2.block _ (lt_of_heap R1.out) (by simp; omega)).trans R1.out)
  have D2 := hide (gro_same D1.out hg2)
  have C2 := hide hc2
  clear hc2 hg2 C1 R1 D1
  go_wp2_with fail
  refine (below_any p a len cap 3 _ C2.out (by omega) (by omega)).mono ?_
  rintro e w3 ⟨y2, rfl, hy2, hy2', hc3, hg3⟩
  have R3 := hide ((hg3.block _ (lt_of_heap R2.out) (by simp; omega)).trans R2.out)
  have D3 := hide (gro_same D2.out hg3)
  have C3 := hide hc3
  clear hc3 hg3 C2 R2 D2
  go_wp2_with fail
  refine (below_any p a len cap 5 _ C3.out (by omega) (by omega)).mono ?_
  rintro e w4 ⟨y3, rfl, hy3, hy3', hc4, hg4⟩
  have R4 := hide ((hg4.block _ (lt_of_heap R3.out) (by simp; omega)).trans R3.out)
  have D4 := hide (gro_same D3.out hg4)
  have hsz4 : w.heap.size < w4.heap.size := lt_of_heap R4.out
  have wr0 : IntKind.i64.wrap (1 + y0) = 1 + y0 := wrap_fit _ (by omega) (by omega)
  have wr1 : IntKind.i64.wrap (1 + y1) = 1 + y1 := wrap_fit _ (by omega) (by omega)
  have wr3 : IntKind.i64.wrap (1 + y3) = 1 + y3 := wrap_fit _ (by omega) (by omega)
  obtain ⟨x0, hx0⟩ : ∃ x : RecD, x = ⟨y2, 1 + y0, 1 + y1, 0, 1 + y3, [], 0, false⟩ := ⟨_, rfl⟩
  have st0 : RcSt w (w4.alloc (.cells #[.int .i64 y2, .int .i64 (1 + y0), .int .i64 (1 + y1), .int .i64 0, .int .i64 (1 + y3), .slice none 0 0, .int .i64 0, .bool false] 51)) p w.heap.size w4.heap.size a len cap (.slice none 0 0) x0 :=
    { cur := cur_alloc hc4 _
      low := Nat.le_refl _
      gro := gro_alloc D4.out _
      box := by rw [hx0]; exact heap_alloc_new w4 _
      res := (Below.heap_alloc _ _ _ hsz4).trans R4.out
      own := by rw [hx0]; exact ⟨rfl, .inl ⟨rfl, rfl⟩⟩
      djn := by simp [Value.ownBlock] }
  have ST0 := hide st0
  have HX0 := hide hx0
  have g1 := heap_alloc_new w4 (.cells #[.int .i64 y2, .int .i64 (1 + y0), .int .i64 (1 + y1), .int .i64 0, .int .i64 (1 + y3), .slice none 0 0, .int .i64 0, .bool false] 51)
  clear st0 hx0 hc4 hg4 R4 D4 C3 R3 D3 g1
  rcases (show y0 = 0 ∨ y0 = 1 ∨ y0 = 2 by omega) with rfl | rfl | rfl
  · rw [show (1 : Int) + 0 = 1 from rfl] at ST0 HX0
    go_wp2
    obtain ⟨z, hz⟩ : ∃ z, z = w4.heap.size := ⟨_, rfl⟩
    rw [← hz] at ST0 hsz4 ⊢
    generalize w4.alloc (.cells #[.int .i64 y2, .int .i64 1, .int .i64 (1 + y1), .int .i64 0, .int .i64 (1 + y3), .slice none 0 0, .int .i64 0, .bool false] 51) = w5 at *
    clear hz
    have hw5 : p < w.heap.size := hp
    go_loopw [4] (fun i wr => ∃ (k : Nat) (l : List Nr) (va : Option Addr) (vc : Nat), 1 ≤ k ∧ k ≤ 7 ∧ i = .int .i64 k ∧ l.length + 1 ≤ k ∧ RcSt w wr p w.heap.size z a len cap (.slice va l.length vc) { x0 with near := l }) (fun i _ => 8 - (intOf i).toNat)
    case atStart =>
      refine ⟨1, [], none, 0, by omega, by omega, rfl, by simp, ?_⟩
      have e := ST0.out
      rw [show x0 = { x0 with near := [] } by rw [HX0.out]] at e
      exact e
    case round =>
      clear ST0
      obtain ⟨k, l, va, vc, hk1, hk7, rfl, hll, st⟩ := hrel
      have c2 := cells_at st.box 2
      simp only [recC] at c2
      have c2' : wr.cell? ⟨z, 2, none⟩ = some (.int .i64 x0.owner) := c2
      clear c2
      have ST := hide st
      clear st
      by_cases hk : k < 7
      · have hk6 : (k : Int) ≤ 6 := by omega
        by_cases ho : (k : Int) = x0.owner
        · have hd : ((k : Int) != x0.owner) = false := by simpa using ho
          clear ho
          go_wp2
          exact ⟨⟨k + 1, l, va, vc, by omega, by omega, by go_num, by omega, ST.out⟩, by simp [intOf]; omega⟩
        · have hd : ((k : Int) != x0.owner) = true := by simpa using ho
          clear ho
          go_wp2_with fail
          refine (once_any p a len cap 3 _ ST.out.cur (by omega) (by omega)).mono ?_
          rintro e w6 ⟨b, rfl, hc6, hg6⟩
          have ST6 := hide (ST.out.grown hc6 hg6 hp hsz4)
          clear hc6 hg6 ST c2'
          cases b
          · go_wp2
            exact ⟨⟨k + 1, l, va, vc, by omega, by omega, by go_num, by omega, ST6.out⟩, by simp [intOf]; omega⟩
          · go_wp2
            refine wp_region_noPanic ?_
            refine wp_region_start (S := fun _ => True) (by kernel_rfl) 11 rfl trivial ?_
            intro ops hops _
            refine rec_dag _ _ _ _ _ _ _ _ _ _ _ _ _ _ _ _ _ _ _ _ _ _ _ _ _ _ _ _ _ _ _ _ _ _ _ _ _ _ _ _ _ _ _ _ _ _ _ _ _ _ _ _ _ _ _ _ _ _ _ _ _ _ _ _ _ w _ p w.heap.size z a len cap va vc { x0 with near := l } (k : Int) _ ops hops (fun _ _ _ _ h => h) hp hsz4 (by show l.length ≤ 1000; omega) ST6.out.drew ?_
            intro W y na nc l' hl' hy0 hy1 st' sb
            refine NoPanic.normal ?_
            have hl7 : l'.length = l.length + 1 := by rw [hl'.out]; simp
            have ST7 := hide st'
            clear st' hops ops
            go_wp2
            exact ⟨⟨k + 1, l', na, nc, by omega, by omega, by go_num, by omega, ST7.out⟩, by simp [intOf]; omega⟩
      · have hk6 : ¬ (k : Int) ≤ 6 := by omega
        have HLL := hide hll
        clear c2'
        have yb := ST.out.box
        have ub := ST.out.res
        unfold recC at yb
        unfold zeroC at ub
        (try simp only [] at yb)
        have y0 := cells_at yb 0
        have y1 := cells_at yb 1
        have y2 := cells_at yb 2
        have y3 := cells_at yb 3
        have y4 := cells_at yb 4
        have y5 := cells_at yb 5
        have y6 := cells_at yb 6
        have y7 := cells_at yb 7
        have u0 := cells_at ub 0
        have u1 := cells_at ub 1
        have u2 := cells_at ub 2
        have u3 := cells_at ub 3
        have u4 := cells_at ub 4
        have u5 := cells_at ub 5
        have u6 := cells_at ub 6
        have u7 := cells_at ub 7
        simp at y0 y1 y2 y3 y4 y5 y6 y7 u0 u1 u2 u3 u4 u5 u6 u7
        have fu := frozen_at ub
        clear yb ub
        go_wp2_with fail
        (try simp only [Exit.inBlock, Exit.then])
        have F := ST.out.fin hp (by have := lt_of_heap ST.out.box; omega)
        refine bodyPost_ret (results_cell_row rfl _ _ w.heap.size 51 (recC _ _) (0, 0) _ rfl F.1 Tryz.underlying51 rfl (by kernel_rfl)) rfl ?_
        exact ⟨_, _, rfl, F.2.2.2, (by show l.length ≤ 6; have := HLL.out; omega), F.2.1, F.2.2.1⟩
  · rw [show (1 : Int) + 1 = 2 from rfl] at ST0 HX0
    have hz0 : w4.heap.size = w4.heap.size := rfl
    go_wp2_with fail
    obtain ⟨z, hz⟩ : ∃ z, z = w4.heap.size := ⟨_, rfl⟩
    rw [← hz] at ST0 hsz4 ⊢
    generalize w4.alloc (.cells #[.int .i64 y2, .int .i64 2, .int .i64 (1 + y1), .int .i64 0, .int .i64 (1 + y3), .slice none 0 0, .int .i64 0, .bool false] 51) = w5 at *
    clear hz hz0
    refine (below_any p a len cap 5 _ ST0.out.cur (by omega) (by omega)).mono ?_
    rintro e w6 ⟨y4, rfl, hy4, hy4', hc6, hg6⟩
    have ST6 := hide (ST0.out.grown hc6 hg6 hp hsz4)
    have wr4 : IntKind.i64.wrap (1 + y4) = 1 + y4 := wrap_fit _ (by omega) (by omega)
    have sb := ST6.out.box
    unfold recC at sb
    have s3 := cells_at sb 3
    have f3 := frozen_at sb
    simp at s3
    have ST7 := hide (ST6.out.set 3 (.int .i64 (1 + y4)) { x0 with key := 1 + y4 } rfl rfl hp hsz4)
    clear hc6 hg6 ST0 ST6 sb
    have hs7 : (w6.setCell ⟨z, 3, none⟩ (.int .i64 (1 + y4))).heap.size = w6.heap.size := by simp
    have fc := five_cells (w6.setCell ⟨z, 3, none⟩ (.int .i64 (1 + y4)))
    rw [hs7] at fc
    have FC := hide fc
    have hp6 : p < w6.heap.size := by have := lt_of_cur ST7.out.cur; omega
    clear hs7 fc
    go_wp2_with fail
    refine (pickR_any (fun _ => True) p a len cap w6.heap.size 5 _ (cur_alloc ST7.out.cur _) (by omega) (by omega) (by omega) FC.out).mono ?_
    rintro e w8 ⟨y5, rfl, _, hc8, hg8⟩
    have ST8 := hide ((ST7.out.alloc _).grown hc8 hg8 hp hsz4)
    have sb := ST8.out.box
    unfold recC at sb
    have s6 := cells_at sb 6
    have f6 := frozen_at sb
    simp at s6
    have ST9 := hide (ST8.out.set 6 (.int .i64 y5) { x0 with key := 1 + y4, cost := y5 } rfl rfl hp hsz4)
    have HL0 := hide (show x0.near.length ≤ 6 by rw [HX0.out]; simp)
    clear hc8 hg8 ST7 ST8 sb s3 f3 FC
    have yb := ST9.out.box
    have ub := ST9.out.res
    unfold recC at yb
    unfold zeroC at ub
    (try simp only [] at yb)
    have y0 := cells_at yb 0
    have y1 := cells_at yb 1
    have y2 := cells_at yb 2
    have y3 := cells_at yb 3
    have y4 := cells_at yb 4
    have y5 := cells_at yb 5
    have y6 := cells_at yb 6
    have y7 := cells_at yb 7
    have u0 := cells_at ub 0
    have u1 := cells_at ub 1
    have u2 := cells_at ub 2
    have u3 := cells_at ub 3
    have u4 := cells_at ub 4
    have u5 := cells_at ub 5
    have u6 := cells_at ub 6
    have u7 := cells_at ub 7
    simp at y0 y1 y2 y3 y4 y5 y6 y7 u0 u1 u2 u3 u4 u5 u6 u7
    have fu := frozen_at ub
    clear yb ub
    go_wp2_with fail
    (try simp only [Exit.inBlock, Exit.then])
    have F := ST9.out.fin hp (by have := lt_of_heap ST9.out.box; omega)
    refine bodyPost_ret (results_cell_row rfl _ _ w.heap.size 51 (recC _ _) (0, 0) _ rfl F.1 Tryz.underlying51 rfl (by kernel_rfl)) rfl ?_
    exact ⟨_, _, rfl, F.2.2.2, HL0.out, F.2.1, F.2.2.1⟩
  · rw [show (1 : Int) + 2 = 3 from rfl] at ST0 HX0
    have hz0 : w4.heap.size = w4.heap.size := rfl
    have ST5 := hide (ST0.out.set 0 (.int .i64 9) { x0 with area := 9 } rfl rfl hp hsz4)
    rw [World.setCell_alloc_new] at ST5
    go_wp2_with fail
    obtain ⟨z, hz⟩ : ∃ z, z = w4.heap.size := ⟨_, rfl⟩
    rw [← hz] at ST0 ST5 hsz4 ⊢
    have ST5' : Hid (RcSt w (w4.alloc (.cells #[.int .i64 9, .int .i64 3, .int .i64 (1 + y1), .int .i64 0, .int .i64 (1 + y3), .slice none 0 0, .int .i64 0, .bool false] 51)) p w.heap.size z a len cap (.slice none 0 0) { x0 with area := 9 }) := ST5
    clear ST5
    have ST5 := ST5'
    clear ST5' ST0
    generalize w4.alloc (.cells #[.int .i64 9, .int .i64 3, .int .i64 (1 + y1), .int .i64 0, .int .i64 (1 + y3), .slice none 0 0, .int .i64 0, .bool false] 51) = w5 at *
    clear hz hz0
    refine (below_any p a len cap 3 _ ST5.out.cur (by omega) (by omega)).mono ?_
    rintro e w6 ⟨y4, rfl, hy4, hy4', hc6, hg6⟩
    have ST6 := hide (ST5.out.grown hc6 hg6 hp hsz4)
    have wr4 : IntKind.i64.wrap (1 + y4) = 1 + y4 := wrap_fit _ (by omega) (by omega)
    have sb := ST6.out.box
    unfold recC at sb
    have s3 := cells_at sb 3
    have f3 := frozen_at sb
    simp at s3
    have ST7 := hide (ST6.out.set 3 (.int .i64 (1 + y4)) { x0 with area := 9, key := 1 + y4 } rfl rfl hp hsz4)
    clear hc6 hg6 ST5 ST6 sb
    have hs7 : (w6.setCell ⟨z, 3, none⟩ (.int .i64 (1 + y4))).heap.size = w6.heap.size := by simp
    have fc := fourb_cells (w6.setCell ⟨z, 3, none⟩ (.int .i64 (1 + y4)))
    rw [hs7] at fc
    have FC := hide fc
    have hp6 : p < w6.heap.size := by have := lt_of_cur ST7.out.cur; omega
    clear hs7 fc
    go_wp2_with fail
    refine (pickR_any (fun _ => True) p a len cap w6.heap.size 4 _ (cur_alloc ST7.out.cur _) (by omega) (by omega) (by omega) FC.out).mono ?_
    rintro e w8 ⟨y5, rfl, _, hc8, hg8⟩
    have ST8 := hide ((ST7.out.alloc _).grown hc8 hg8 hp hsz4)
    have sb := ST8.out.box
    unfold recC at sb
    have s6 := cells_at sb 6
    have f6 := frozen_at sb
    simp at s6
    have ST9 := hide (ST8.out.set 6 (.int .i64 y5) { x0 with area := 9, key := 1 + y4, cost := y5 } rfl rfl hp hsz4)
    have HL0 := hide (show x0.near.length ≤ 6 by rw [HX0.out]; simp)
    clear hc8 hg8 ST7 ST8 sb s3 f3 FC
    go_wp2_with fail
    refine (once_any p a len cap 2 _ ST9.out.cur (by omega) (by omega)).mono ?_
    rintro e wA ⟨b, rfl, hcA, hgA⟩
    have STA := hide (ST9.out.grown hcA hgA hp hsz4)
    have sb := STA.out.box
    unfold recC at sb
    have s7 := cells_at sb 7
    have f7 := frozen_at sb
    simp at s7
    have STB := hide (STA.out.set 7 (.bool b) { x0 with area := 9, key := 1 + y4, cost := y5, far := b } rfl rfl hp hsz4)
    clear hcA hgA ST9 STA sb s6 f6
    have yb := STB.out.box
    have ub := STB.out.res
    unfold recC at yb
    unfold zeroC at ub
    (try simp only [] at yb)
    have y0 := cells_at yb 0
    have y1 := cells_at yb 1
    have y2 := cells_at yb 2
    have y3 := cells_at yb 3
    have y4 := cells_at yb 4
    have y5 := cells_at yb 5
    have y6 := cells_at yb 6
    have y7 := cells_at yb 7
    have u0 := cells_at ub 0
    have u1 := cells_at ub 1
    have u2 := cells_at ub 2
    have u3 := cells_at ub 3
    have u4 := cells_at ub 4
    have u5 := cells_at ub 5
    have u6 := cells_at ub 6
    have u7 := cells_at ub 7
    simp at y0 y1 y2 y3 y4 y5 y6 y7 u0 u1 u2 u3 u4 u5 u6 u7
    have fu := frozen_at ub
    clear yb ub
    go_wp2_with fail
    (try simp only [Exit.inBlock, Exit.then])
    have F := STB.out.fin hp (by have := lt_of_heap STB.out.box; omega)
    refine bodyPost_ret (results_cell_row rfl _ _ w.heap.size 51 (recC _ _) (0, 0) _ rfl F.1 Tryz.underlying51 rfl (by kernel_rfl)) rfl ?_
    exact ⟨_, _, rfl, F.2.2.2, HL0.out, F.2.1, F.2.2.1⟩

end Go.Proofs.YtchmmekhfcojgaaGreatDoor
