/-
  Regions that draw their order, by hand: one operation at a time, in the text's order.
  (impl.Line).key, (impl.lineMap).leadsTo, put: their contracts.
-/
import Derived.Test.YtnpafmjfhglbhaaTb1
import Derived.Deep.RegionHeld3
import Derived.Test.YtnpafmjfhglbhaaTb6
namespace Go.Proofs.Ytnpafmjfhglbhaa
open Go.RowKit

def mayTake (ops : Array Oper) (listed : Array Bool) (i : Nat) : Bool := Region.noSelect ops && Region.free .any ops listed i && (Region.ready .any ops listed).contains i

theorem mayTake_parts {ops : Array Oper} {listed : Array Bool} {i : Nat} (h : mayTake ops listed i = true) : Region.noSelect ops = true ∧ Region.free .any ops listed i = true ∧ (Region.ready .any ops listed).contains i = true := by
  unfold mayTake at h
  simp only [Bool.and_eq_true] at h
  exact ⟨h.1.1, h.1.2, h.2⟩

section
variable {P : Program} {ops : Array Oper} {Q : Exit → Act → World → Prop} {S : World → Prop} {fuel : Nat} {listed : Array Bool} {a : Act} {w : World}

/-- the beginning: the region's operations behind a letter -/
theorem wp_region_start {id : Nat} (hm : P.follows .mixedOrders = true) (n : Nat) (hn : ops.size = n) (hS : S w.drew) (h : ∀ ops', Hid (ops' = ops) → S w.drew → wpAnyH P .any ops' Q S n (Array.replicate n false) a w.drew) : (Code.region id ops true).wp P Q a w := by
  refine wp_region_held_drew hm hS (fun hs => ?_)
  rw [hn]
  exact h ops rfl hs

/-- an operation that isn't wanted -/
theorem take_skip (i : Nat) (d : Tmp) (hi : (ops[i]?).map Oper.dst = some (some d)) (ht : mayTake ops listed i = true) (hw : (ops[i]?).map (fun o => Region.wanted o (yielded ops a.tmps)) = some false)
    (hQ : ∀ c a w, Q (.panic c) (a.put (some d) undef) w → Q (.panic c) a w) (hS : S w) (h : wpAnyH P .any ops Q S fuel (listed.setIfInBounds i true) (a.put (some d) undef) w) : wpAnyH P .any ops Q S (fuel + 1) listed a w := by
  obtain ⟨h1, h2, h3⟩ := mayTake_parts ht
  cases ho : ops[i]? with
  | none => rw [ho] at hi; cases hi
  | some oi =>
    rw [ho] at hi hw
    simp only [Option.map_some, Option.some.injEq] at hi hw
    refine wpAnyH_take ho h1 h2 h3 (v := undef) ?_ (Or.inr ⟨hw, rfl⟩) hS ?_
    · rw [hi]; exact hQ
    · rw [hi]; exact h

/-- an operation that yields v in every world that meets S -/
theorem take_do (i : Nat) {oi : Oper} {v : Value} (hi : ops[i]? = some oi) (ht : mayTake ops listed i = true) (hw : Region.wanted oi (yielded ops a.tmps) = true) (hy : ∀ w, S w → (execOp a.eval oi).run P w = .ok (.value v) w)
    (hQ : ∀ c a w, Q (.panic c) (a.put oi.dst v) w → Q (.panic c) a w) (hS : S w) (h : wpAnyH P .any ops Q S fuel (listed.setIfInBounds i true) (a.put oi.dst v) w) : wpAnyH P .any ops Q S (fuel + 1) listed a w := by
  obtain ⟨h1, h2, h3⟩ := mayTake_parts ht
  exact wpAnyH_take hi h1 h2 h3 hQ (Or.inl ⟨hw, hy⟩) hS h

/-- a call that alone may come up -/
theorem take_call (i : Nat) {oi : Oper} (hi : ops[i]? = some oi) (hr : Region.ready .any ops listed = [i]) (hw : Region.wanted oi (yielded ops a.tmps) = true)
    (h : ∀ K' : Act → World → Prop, Shut (∀ a w, S w → (S w → wpAnyH P .any ops Q S fuel (listed.setIfInBounds i true) a w) → K' a w) → Oper.wp P oi a w K' Q) : wpAnyH P .any ops Q S (fuel + 1) listed a w := by
  refine wpAnyH_ready (rs := [i]) hr (by simp) ?_
  refine AllReadyH.cons hi (fun K hK => ?_) AllReadyH.nil
  rw [if_pos hw]
  exact h K hK
end
end Go.Proofs.Ytnpafmjfhglbhaa
namespace Go.Proofs.Ytnpafmjfhglbhaa
open Go.RowKit
open Go.ChangeMaps (setBlock)

set_option linter.unusedVariables false
set_option linter.unusedSimpArgs false

set_option maxRecDepth 100000 in
set_option maxHeartbeats 2000000 in
theorem key_any (x : LnD) (u : Value) (w : World) : Calls Try.prog 29 #[.agg #[.bool x.thing, .int .i64 x.to, u]] w fun e w' => e = .returned (kV x.thing x.to) ∧ Below w.heap.size w w' := by
  unfold kV
  go_enter Try.func29, Try.ntmps29
  go_wp2
  go_returns
  exact ⟨rfl, below_two _ _⟩

def pmOps : Array Oper := #[{ dst := some 19, op := Go.Op.move (Go.Operand.tmp 0), type := 56, pos := "l11_table.go:74", after := #[], guard := none }, { dst := some 20, op := Go.Op.load 51 (Go.Operand.tmp 4), type := 51, pos := "l11_table.go:74", after := #[], guard := none }, { dst := some 21, op := Go.Op.call { callee := Go.Callee.value (Go.Operand.func 29), args := #[Go.Operand.tmp 20], argTypes := #[51] }, type := 59, pos := "l11_table.go:74", after := #[{ on := 1, ground := Go.Ground.data }], guard := none }, { dst := some 22, op := Go.Op.move (Go.Operand.tmp 6), type := 3, pos := "l11_table.go:74", after := #[], guard := none }, { dst := some 23, op := Go.Op.load 51 (Go.Operand.tmp 4), type := 51, pos := "l11_table.go:74", after := #[], guard := none }, { dst := some 24, op := Go.Op.build 72 #[(0, Go.Operand.tmp 22), (1, Go.Operand.tmp 23)], type := 72, pos := "l11_table.go:74", after := #[{ on := 3, ground := Go.Ground.data }, { on := 4, ground := Go.Ground.data }], guard := none }, { dst := some 25, op := Go.Op.buildSlice 70 1 #[(0, Go.Operand.tmp 24)], type := 70, pos := "l11_table.go:74", after := #[{ on := 5, ground := Go.Ground.data }], guard := none }, { dst := none, op := Go.Op.mapUpdate 56 (Go.Operand.tmp 19) (Go.Operand.tmp 21) (Go.Operand.tmp 25), type := 0, pos := "l11_table.go:74", after := #[{ on := 0, ground := Go.Ground.data }, { on := 2, ground := Go.Ground.data }, { on := 6, ground := Go.Ground.data }, { on := 2, ground := Go.Ground.chain }, { on := 0, ground := Go.Ground.phase }, { on := 1, ground := Go.Ground.phase }, { on := 2, ground := Go.Ground.phase }, { on := 3, ground := Go.Ground.phase }, { on := 4, ground := Go.Ground.phase }, { on := 5, ground := Go.Ground.phase }, { on := 6, ground := Go.Ground.phase }], guard := none }]

set_option maxRecDepth 100000 in
set_option maxHeartbeats 8000000 in
theorem pm_dag {t3 t5 t7 t8 t9 t10 t11 t12 t13 t14 t15 t16 t17 t18 t19 t20 t21 t22 t23 t24 t25 : Value} (q m : Nat) (x : LnD) (hv : Value) (pl : Int) (es : Array MapEntry) (clock : Nat) (ks : List (Bool × Int)) (w1 : World) (Q : Exit → Act → World → Prop) (ops : Array Oper) (hops : Hid (ops = pmOps)) (hq : q < w1.heap.size) (hmw : m < w1.heap.size)
    (hcall : ∀ W, Calls Try.prog 29 #[.agg #[.bool x.thing, .int .i64 x.to, hv]] W fun e w' => e = .returned (kV x.thing x.to) ∧ Below W.heap.size W w')
    (HB : w1.heap[q]? = some (.cells #[.bool x.thing, .int .i64 x.to, hv] 51)) (HM : w1.heap[m]? = some (.map es clock)) (hks : es.toList.map (·.key) = ks.map (fun k => kV k.1 k.2)) (hno : entAt ks x.thing x.to = none)
    (hend : ∀ W g1, Below w1.heap.size w1 W → W.heap[g1]? = some (.cells #[.int .i64 pl, .bool x.thing, .int .i64 x.to, hv] 72) → w1.heap.size ≤ g1 → Q .normal { tmps := #[.map (some m), .agg #[.bool x.thing, .int .i64 x.to, hv], .int .i64 pl, t3, .pointer (some ⟨q, 0, none⟩), t5, .int .i64 pl, t7, t8, t9, t10, t11, t12, t13, t14, t15, t16, t17, t18, .map (some m), .agg #[.bool x.thing, .int .i64 x.to, hv], kV x.thing x.to, .int .i64 pl, .agg #[.bool x.thing, .int .i64 x.to, hv], .agg #[.int .i64 pl, .bool x.thing, .int .i64 x.to, hv], (.slice (some ⟨g1, 0, none⟩) 1 1)], defers := [] } (setBlock W m (.map (es.push ⟨kV x.thing x.to, (.slice (some ⟨g1, 0, none⟩) 1 1), clock⟩) (clock + 1)))) :
    wpAnyH Try.prog .any ops (NoPanic Q) (fun _ => True) 8 #[false, false, false, false, false, false, false, false] { tmps := #[.map (some m), .agg #[.bool x.thing, .int .i64 x.to, hv], .int .i64 pl, t3, .pointer (some ⟨q, 0, none⟩), t5, .int .i64 pl, t7, t8, t9, t10, t11, t12, t13, t14, t15, t16, t17, t18, t19, t20, t21, t22, t23, t24, t25], defers := [] } w1 := by
  have h22 : ∀ (W : World) (g1 : Nat), Below w1.heap.size w1 W → W.heap[g1]? = some (.cells #[.int .i64 pl, .bool x.thing, .int .i64 x.to, hv] 72) → w1.heap.size ≤ g1 → wpAnyH Try.prog .any ops (NoPanic Q) (fun _ => True) 1 #[true, true, true, true, true, true, true, false] { tmps := #[.map (some m), .agg #[.bool x.thing, .int .i64 x.to, hv], .int .i64 pl, t3, .pointer (some ⟨q, 0, none⟩), t5, .int .i64 pl, t7, t8, t9, t10, t11, t12, t13, t14, t15, t16, t17, t18, .map (some m), .agg #[.bool x.thing, .int .i64 x.to, hv], kV x.thing x.to, .int .i64 pl, .agg #[.bool x.thing, .int .i64 x.to, hv], .agg #[.int .i64 pl, .bool x.thing, .int .i64 x.to, hv], (.slice (some ⟨g1, 0, none⟩) 1 1)], defers := [] } W := by
    intro W g1 g n1 l1
    have gs := g.size
    have hb := (g.block q hq).trans HB
    refine wpAnyH_ready (rs := [7]) (by rw [hops.out]; kernel_rfl) (by simp) ?_
    refine AllReadyH.cons (o := ?_) ?_ (fun K hK => ?_) ?_
    rotate_left 1
    · rw [hops.out]; unfold pmOps; simp only [List.getElem?_toArray, List.getElem?_cons_succ, List.getElem?_cons_zero]; rfl
    · rw [if_pos (by rfl)]
      have hm := (g.block m hmw).trans HM
      have hup := put_key W m es clock ks x.thing x.to (.slice (some ⟨g1, 0, none⟩) 1 1) hm hks hno
      have hE := hend W g1 g n1 l1
      go_simp
      refine hK.out _ _ trivial (fun _ => ?_)
      exact wpAnyH_done (by rw [hops.out]; kernel_rfl) (NoPanic.normal hE) _
    exact AllReadyH.nil
  have h12 : ∀ (W : World) (g1 : Nat), Below w1.heap.size w1 W → W.heap[g1]? = some (.cells #[.int .i64 pl, .bool x.thing, .int .i64 x.to, hv] 72) → w1.heap.size ≤ g1 → wpAnyH Try.prog .any ops (NoPanic Q) (fun _ => True) 2 #[true, true, false, true, true, true, true, false] { tmps := #[.map (some m), .agg #[.bool x.thing, .int .i64 x.to, hv], .int .i64 pl, t3, .pointer (some ⟨q, 0, none⟩), t5, .int .i64 pl, t7, t8, t9, t10, t11, t12, t13, t14, t15, t16, t17, t18, .map (some m), .agg #[.bool x.thing, .int .i64 x.to, hv], t21, .int .i64 pl, .agg #[.bool x.thing, .int .i64 x.to, hv], .agg #[.int .i64 pl, .bool x.thing, .int .i64 x.to, hv], (.slice (some ⟨g1, 0, none⟩) 1 1)], defers := [] } W := by
    intro W g1 g n1 l1
    have gs := g.size
    have hb := (g.block q hq).trans HB
    refine wpAnyH_ready (rs := [2]) (by rw [hops.out]; kernel_rfl) (by simp) ?_
    refine AllReadyH.cons (o := ?_) ?_ (fun K hK => ?_) ?_
    rotate_left 1
    · rw [hops.out]; unfold pmOps; simp only [List.getElem?_toArray, List.getElem?_cons_succ, List.getElem?_cons_zero]; rfl
    · rw [if_pos (by rfl)]
      have hpk := hcall W
      go_simp
      refine hpk.mono ?_
      rintro e w2 ⟨rfl, b2⟩
      refine hK.out _ _ trivial (fun _ => ?_)
      exact h22 w2 g1 (g.trans (b2.mono g.size)) ((b2.block g1 (lt_of_heap n1)).trans n1) l1
    exact AllReadyH.nil
  have h02 : ∀ (W : World) (g1 : Nat), Below w1.heap.size w1 W → W.heap[g1]? = some (.cells #[.int .i64 pl, .bool x.thing, .int .i64 x.to, hv] 72) → w1.heap.size ≤ g1 → wpAnyH Try.prog .any ops (NoPanic Q) (fun _ => True) 3 #[true, false, false, true, true, true, true, false] { tmps := #[.map (some m), .agg #[.bool x.thing, .int .i64 x.to, hv], .int .i64 pl, t3, .pointer (some ⟨q, 0, none⟩), t5, .int .i64 pl, t7, t8, t9, t10, t11, t12, t13, t14, t15, t16, t17, t18, .map (some m), t20, t21, .int .i64 pl, .agg #[.bool x.thing, .int .i64 x.to, hv], .agg #[.int .i64 pl, .bool x.thing, .int .i64 x.to, hv], (.slice (some ⟨g1, 0, none⟩) 1 1)], defers := [] } W := by
    intro W g1 g n1 l1
    have gs := g.size
    have hb := (g.block q hq).trans HB
    refine wpAnyH_ready (rs := [1]) (by rw [hops.out]; kernel_rfl) (by simp) ?_
    refine AllReadyH.cons (o := ?_) ?_ (fun K hK => ?_) ?_
    rotate_left 1
    · rw [hops.out]; unfold pmOps; simp only [List.getElem?_toArray, List.getElem?_cons_succ, List.getElem?_cons_zero]; rfl
    · rw [if_pos (by rfl)]
      refine wp_load_row 51 _ rfl _ rfl 51 _ (0, 0) _ hb Try.underlying51 rfl (by kernel_rfl) ?_
      refine hK.out _ _ trivial (fun _ => ?_)
      try simp only [Act.put, List.setIfInBounds_toArray, List.set_cons_zero, List.set_cons_succ]
      exact h12 W g1 g n1 l1
    exact AllReadyH.nil
  have h21 : ∀ (W : World) (g1 : Nat), Below w1.heap.size w1 W → wpAnyH Try.prog .any ops (NoPanic Q) (fun _ => True) 2 #[true, true, true, true, true, true, false, false] { tmps := #[.map (some m), .agg #[.bool x.thing, .int .i64 x.to, hv], .int .i64 pl, t3, .pointer (some ⟨q, 0, none⟩), t5, .int .i64 pl, t7, t8, t9, t10, t11, t12, t13, t14, t15, t16, t17, t18, .map (some m), .agg #[.bool x.thing, .int .i64 x.to, hv], kV x.thing x.to, .int .i64 pl, .agg #[.bool x.thing, .int .i64 x.to, hv], .agg #[.int .i64 pl, .bool x.thing, .int .i64 x.to, hv], t25], defers := [] } W := by
    intro W g1 g
    have gs := g.size
    have hb := (g.block q hq).trans HB
    refine wpAnyH_ready (rs := [6]) (by rw [hops.out]; kernel_rfl) (by simp) ?_
    refine AllReadyH.cons (o := ?_) ?_ (fun K hK => ?_) ?_
    rotate_left 1
    · rw [hops.out]; unfold pmOps; simp only [List.getElem?_toArray, List.getElem?_cons_succ, List.getElem?_cons_zero]; rfl
    · rw [if_pos (by rfl)]
      go_simp
      refine hK.out _ _ trivial (fun _ => ?_)
      exact h22 _ W.heap.size (g.alloc g.size _) (heap_alloc_new W _) g.size
    exact AllReadyH.nil
  have h11 : ∀ (W : World) (g1 : Nat), Below w1.heap.size w1 W → wpAnyH Try.prog .any ops (NoPanic Q) (fun _ => True) 3 #[true, true, false, true, true, true, false, false] { tmps := #[.map (some m), .agg #[.bool x.thing, .int .i64 x.to, hv], .int .i64 pl, t3, .pointer (some ⟨q, 0, none⟩), t5, .int .i64 pl, t7, t8, t9, t10, t11, t12, t13, t14, t15, t16, t17, t18, .map (some m), .agg #[.bool x.thing, .int .i64 x.to, hv], t21, .int .i64 pl, .agg #[.bool x.thing, .int .i64 x.to, hv], .agg #[.int .i64 pl, .bool x.thing, .int .i64 x.to, hv], t25], defers := [] } W := by
    intro W g1 g
    have gs := g.size
    have hb := (g.block q hq).trans HB
    refine wpAnyH_ready (rs := [2, 6]) (by rw [hops.out]; kernel_rfl) (by simp) ?_
    refine AllReadyH.cons (o := ?_) ?_ (fun K hK => ?_) ?_
    rotate_left 1
    · rw [hops.out]; unfold pmOps; simp only [List.getElem?_toArray, List.getElem?_cons_succ, List.getElem?_cons_zero]; rfl
    · rw [if_pos (by rfl)]
      have hpk := hcall W
      go_simp
      refine hpk.mono ?_
      rintro e w2 ⟨rfl, b2⟩
      refine hK.out _ _ trivial (fun _ => ?_)
      exact h21 w2 g1 (g.trans (b2.mono g.size))
    refine AllReadyH.cons (o := ?_) ?_ (fun K hK => ?_) ?_
    rotate_left 1
    · rw [hops.out]; unfold pmOps; simp only [List.getElem?_toArray, List.getElem?_cons_succ, List.getElem?_cons_zero]; rfl
    · rw [if_pos (by rfl)]
      go_simp
      refine hK.out _ _ trivial (fun _ => ?_)
      exact h12 _ W.heap.size (g.alloc g.size _) (heap_alloc_new W _) g.size
    exact AllReadyH.nil
  have h01 : ∀ (W : World) (g1 : Nat), Below w1.heap.size w1 W → wpAnyH Try.prog .any ops (NoPanic Q) (fun _ => True) 4 #[true, false, false, true, true, true, false, false] { tmps := #[.map (some m), .agg #[.bool x.thing, .int .i64 x.to, hv], .int .i64 pl, t3, .pointer (some ⟨q, 0, none⟩), t5, .int .i64 pl, t7, t8, t9, t10, t11, t12, t13, t14, t15, t16, t17, t18, .map (some m), t20, t21, .int .i64 pl, .agg #[.bool x.thing, .int .i64 x.to, hv], .agg #[.int .i64 pl, .bool x.thing, .int .i64 x.to, hv], t25], defers := [] } W := by
    intro W g1 g
    have gs := g.size
    have hb := (g.block q hq).trans HB
    refine wpAnyH_ready (rs := [1, 6]) (by rw [hops.out]; kernel_rfl) (by simp) ?_
    refine AllReadyH.cons (o := ?_) ?_ (fun K hK => ?_) ?_
    rotate_left 1
    · rw [hops.out]; unfold pmOps; simp only [List.getElem?_toArray, List.getElem?_cons_succ, List.getElem?_cons_zero]; rfl
    · rw [if_pos (by rfl)]
      refine wp_load_row 51 _ rfl _ rfl 51 _ (0, 0) _ hb Try.underlying51 rfl (by kernel_rfl) ?_
      refine hK.out _ _ trivial (fun _ => ?_)
      try simp only [Act.put, List.setIfInBounds_toArray, List.set_cons_zero, List.set_cons_succ]
      exact h11 W g1 g
    refine AllReadyH.cons (o := ?_) ?_ (fun K hK => ?_) ?_
    rotate_left 1
    · rw [hops.out]; unfold pmOps; simp only [List.getElem?_toArray, List.getElem?_cons_succ, List.getElem?_cons_zero]; rfl
    · rw [if_pos (by rfl)]
      go_simp
      refine hK.out _ _ trivial (fun _ => ?_)
      exact h02 _ W.heap.size (g.alloc g.size _) (heap_alloc_new W _) g.size
    exact AllReadyH.nil
  have h20 : ∀ (W : World) (g1 : Nat), Below w1.heap.size w1 W → wpAnyH Try.prog .any ops (NoPanic Q) (fun _ => True) 4 #[true, true, true, true, false, false, false, false] { tmps := #[.map (some m), .agg #[.bool x.thing, .int .i64 x.to, hv], .int .i64 pl, t3, .pointer (some ⟨q, 0, none⟩), t5, .int .i64 pl, t7, t8, t9, t10, t11, t12, t13, t14, t15, t16, t17, t18, .map (some m), .agg #[.bool x.thing, .int .i64 x.to, hv], kV x.thing x.to, .int .i64 pl, t23, t24, t25], defers := [] } W := by
    intro W g1 g
    have gs := g.size
    have hb := (g.block q hq).trans HB
    refine wpAnyH_ready (rs := [4]) (by rw [hops.out]; kernel_rfl) (by simp) ?_
    refine AllReadyH.cons (o := ?_) ?_ (fun K hK => ?_) ?_
    rotate_left 1
    · rw [hops.out]; unfold pmOps; simp only [List.getElem?_toArray, List.getElem?_cons_succ, List.getElem?_cons_zero]; rfl
    · rw [if_pos (by rfl)]
      refine wp_load_row 51 _ rfl _ rfl 51 _ (0, 0) _ hb Try.underlying51 rfl (by kernel_rfl) ?_
      refine hK.out _ _ trivial (fun _ => ?_)
      try simp only [Act.put, List.setIfInBounds_toArray, List.set_cons_zero, List.set_cons_succ]
      refine take_do 5 (oi := ?_) (v := ?_) ?_ (by rw [hops.out]; kernel_rfl) ?_ ?_ ?_ trivial ?_
      rotate_left 2
      · rw [hops.out]; unfold pmOps; simp only [List.getElem?_toArray, List.getElem?_cons_succ, List.getElem?_cons_zero]; rfl
      · rw [hops.out]; kernel_rfl
      · intro W hW; (try dsimp only at hW); go_simp <;> with_reducible rfl
      · exact fun _ _ _ h => h
      try simp only [Act.put, List.setIfInBounds_toArray, List.set_cons_zero, List.set_cons_succ]
      exact h21 W g1 g
    exact AllReadyH.nil
  have h10 : ∀ (W : World) (g1 : Nat), Below w1.heap.size w1 W → wpAnyH Try.prog .any ops (NoPanic Q) (fun _ => True) 5 #[true, true, false, true, false, false, false, false] { tmps := #[.map (some m), .agg #[.bool x.thing, .int .i64 x.to, hv], .int .i64 pl, t3, .pointer (some ⟨q, 0, none⟩), t5, .int .i64 pl, t7, t8, t9, t10, t11, t12, t13, t14, t15, t16, t17, t18, .map (some m), .agg #[.bool x.thing, .int .i64 x.to, hv], t21, .int .i64 pl, t23, t24, t25], defers := [] } W := by
    intro W g1 g
    have gs := g.size
    have hb := (g.block q hq).trans HB
    refine wpAnyH_ready (rs := [2, 4]) (by rw [hops.out]; kernel_rfl) (by simp) ?_
    refine AllReadyH.cons (o := ?_) ?_ (fun K hK => ?_) ?_
    rotate_left 1
    · rw [hops.out]; unfold pmOps; simp only [List.getElem?_toArray, List.getElem?_cons_succ, List.getElem?_cons_zero]; rfl
    · rw [if_pos (by rfl)]
      have hpk := hcall W
      go_simp
      refine hpk.mono ?_
      rintro e w2 ⟨rfl, b2⟩
      refine hK.out _ _ trivial (fun _ => ?_)
      exact h20 w2 g1 (g.trans (b2.mono g.size))
    refine AllReadyH.cons (o := ?_) ?_ (fun K hK => ?_) ?_
    rotate_left 1
    · rw [hops.out]; unfold pmOps; simp only [List.getElem?_toArray, List.getElem?_cons_succ, List.getElem?_cons_zero]; rfl
    · rw [if_pos (by rfl)]
      refine wp_load_row 51 _ rfl _ rfl 51 _ (0, 0) _ hb Try.underlying51 rfl (by kernel_rfl) ?_
      refine hK.out _ _ trivial (fun _ => ?_)
      try simp only [Act.put, List.setIfInBounds_toArray, List.set_cons_zero, List.set_cons_succ]
      refine take_do 5 (oi := ?_) (v := ?_) ?_ (by rw [hops.out]; kernel_rfl) ?_ ?_ ?_ trivial ?_
      rotate_left 2
      · rw [hops.out]; unfold pmOps; simp only [List.getElem?_toArray, List.getElem?_cons_succ, List.getElem?_cons_zero]; rfl
      · rw [hops.out]; kernel_rfl
      · intro W hW; (try dsimp only at hW); go_simp <;> with_reducible rfl
      · exact fun _ _ _ h => h
      try simp only [Act.put, List.setIfInBounds_toArray, List.set_cons_zero, List.set_cons_succ]
      exact h11 W g1 g
    exact AllReadyH.nil
  have h00 : ∀ (W : World) (g1 : Nat), Below w1.heap.size w1 W → wpAnyH Try.prog .any ops (NoPanic Q) (fun _ => True) 6 #[true, false, false, true, false, false, false, false] { tmps := #[.map (some m), .agg #[.bool x.thing, .int .i64 x.to, hv], .int .i64 pl, t3, .pointer (some ⟨q, 0, none⟩), t5, .int .i64 pl, t7, t8, t9, t10, t11, t12, t13, t14, t15, t16, t17, t18, .map (some m), t20, t21, .int .i64 pl, t23, t24, t25], defers := [] } W := by
    intro W g1 g
    have gs := g.size
    have hb := (g.block q hq).trans HB
    refine wpAnyH_ready (rs := [1, 4]) (by rw [hops.out]; kernel_rfl) (by simp) ?_
    refine AllReadyH.cons (o := ?_) ?_ (fun K hK => ?_) ?_
    rotate_left 1
    · rw [hops.out]; unfold pmOps; simp only [List.getElem?_toArray, List.getElem?_cons_succ, List.getElem?_cons_zero]; rfl
    · rw [if_pos (by rfl)]
      refine wp_load_row 51 _ rfl _ rfl 51 _ (0, 0) _ hb Try.underlying51 rfl (by kernel_rfl) ?_
      refine hK.out _ _ trivial (fun _ => ?_)
      try simp only [Act.put, List.setIfInBounds_toArray, List.set_cons_zero, List.set_cons_succ]
      exact h10 W g1 g
    refine AllReadyH.cons (o := ?_) ?_ (fun K hK => ?_) ?_
    rotate_left 1
    · rw [hops.out]; unfold pmOps; simp only [List.getElem?_toArray, List.getElem?_cons_succ, List.getElem?_cons_zero]; rfl
    · rw [if_pos (by rfl)]
      refine wp_load_row 51 _ rfl _ rfl 51 _ (0, 0) _ hb Try.underlying51 rfl (by kernel_rfl) ?_
      refine hK.out _ _ trivial (fun _ => ?_)
      try simp only [Act.put, List.setIfInBounds_toArray, List.set_cons_zero, List.set_cons_succ]
      refine take_do 5 (oi := ?_) (v := ?_) ?_ (by rw [hops.out]; kernel_rfl) ?_ ?_ ?_ trivial ?_
      rotate_left 2
      · rw [hops.out]; unfold pmOps; simp only [List.getElem?_toArray, List.getElem?_cons_succ, List.getElem?_cons_zero]; rfl
      · rw [hops.out]; kernel_rfl
      · intro W hW; (try dsimp only at hW); go_simp <;> with_reducible rfl
      · exact fun _ _ _ h => h
      try simp only [Act.put, List.setIfInBounds_toArray, List.set_cons_zero, List.set_cons_succ]
      exact h01 W g1 g
    exact AllReadyH.nil
  refine take_do 0 (oi := ?_) (v := ?_) ?_ (by rw [hops.out]; kernel_rfl) ?_ ?_ ?_ trivial ?_
  rotate_left 2
  · rw [hops.out]; unfold pmOps; simp only [List.getElem?_toArray, List.getElem?_cons_succ, List.getElem?_cons_zero]; rfl
  · rw [hops.out]; kernel_rfl
  · intro W hW; (try dsimp only at hW); go_simp <;> with_reducible rfl
  · exact fun _ _ _ h => h
  try simp only [Act.put, List.setIfInBounds_toArray, List.set_cons_zero, List.set_cons_succ]
  refine take_do 3 (oi := ?_) (v := ?_) ?_ (by rw [hops.out]; kernel_rfl) ?_ ?_ ?_ trivial ?_
  rotate_left 2
  · rw [hops.out]; unfold pmOps; simp only [List.getElem?_toArray, List.getElem?_cons_succ, List.getElem?_cons_zero]; rfl
  · rw [hops.out]; kernel_rfl
  · intro W hW; (try dsimp only at hW); go_simp <;> with_reducible rfl
  · exact fun _ _ _ h => h
  try simp only [Act.put, List.setIfInBounds_toArray, List.set_cons_zero, List.set_cons_succ]
  exact h00 w1 0 (Below.refl _ _)
end Go.Proofs.Ytnpafmjfhglbhaa
