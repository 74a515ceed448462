/-
  (impl.Line).key, (impl.lineMap).leadsTo, put: their contracts.
  The map of lines under way: (impl.lineMap).leadsTo, and put where there was none.
  slices.SortFunc of placed lines of the call's own, by their places.
  spec.l11Copy: a line with hops of its own.
-/
import Derived.Test.YtbknmgobmnjphaaWk25
import Derived.Test.YtbknmgobmnjphaaWk2
import Derived.Test.YtbknmgobmnjphaaShelfG
import Derived.Test.YtbknmgobmnjphaaWk21
import Derived.Shelf.SlSortCmp.NoneTotal
import Derived.Test.YtbknmgobmnjphaaWk3
namespace Go.Proofs.Ytbknmgobmnjphaa
open Go.RowKit
open Go.ChangeMaps (setBlock)

set_option linter.unusedVariables false
set_option linter.unusedSimpArgs false

set_option maxRecDepth 100000 in
set_option maxHeartbeats 2000000 in
theorem key_any (x : LnD) (u : Value) (w : World) : Calls Try.prog 23 #[.agg #[.bool x.thing, .int .i64 x.to, u]] w fun e w' => e = .returned (kV x.thing x.to) ∧ Below w.heap.size w w' := by
  unfold kV
  go_enter Try.func23, Try.ntmps23
  go_wp2
  go_returns
  exact ⟨rfl, below_two _ _⟩

def pmOps : Array Oper := #[{ dst := some 19, op := Go.Op.move (Go.Operand.tmp 0), type := 65, pos := "l11_table.go:74", after := #[], guard := none }, { dst := some 20, op := Go.Op.load 67 (Go.Operand.tmp 4), type := 67, pos := "l11_table.go:74", after := #[], guard := none }, { dst := some 21, op := Go.Op.call { callee := Go.Callee.value (Go.Operand.func 23), args := #[Go.Operand.tmp 20], argTypes := #[67] }, type := 70, pos := "l11_table.go:74", after := #[{ on := 1, ground := Go.Ground.data }], guard := none }, { dst := some 22, op := Go.Op.move (Go.Operand.tmp 6), type := 3, pos := "l11_table.go:74", after := #[], guard := none }, { dst := some 23, op := Go.Op.load 67 (Go.Operand.tmp 4), type := 67, pos := "l11_table.go:74", after := #[], guard := none }, { dst := some 24, op := Go.Op.build 104 #[(0, Go.Operand.tmp 22), (1, Go.Operand.tmp 23)], type := 104, pos := "l11_table.go:74", after := #[{ on := 3, ground := Go.Ground.data }, { on := 4, ground := Go.Ground.data }], guard := none }, { dst := some 25, op := Go.Op.buildSlice 102 1 #[(0, Go.Operand.tmp 24)], type := 102, pos := "l11_table.go:74", after := #[{ on := 5, ground := Go.Ground.data }], guard := none }, { dst := none, op := Go.Op.mapUpdate 65 (Go.Operand.tmp 19) (Go.Operand.tmp 21) (Go.Operand.tmp 25), type := 0, pos := "l11_table.go:74", after := #[{ on := 0, ground := Go.Ground.data }, { on := 2, ground := Go.Ground.data }, { on := 6, ground := Go.Ground.data }, { on := 2, ground := Go.Ground.chain }, { on := 0, ground := Go.Ground.phase }, { on := 1, ground := Go.Ground.phase }, { on := 2, ground := Go.Ground.phase }, { on := 3, ground := Go.Ground.phase }, { on := 4, ground := Go.Ground.phase }, { on := 5, ground := Go.Ground.phase }, { on := 6, ground := Go.Ground.phase }], guard := none }]

set_option maxRecDepth 100000 in
set_option maxHeartbeats 8000000 in
theorem pm_dag {t3 t5 t7 t8 t9 t10 t11 t12 t13 t14 t15 t16 t17 t18 t19 t20 t21 t22 t23 t24 t25 : Value} (q m : Nat) (x : LnD) (hv : Value) (pl : Int) (es : Array MapEntry) (clock : Nat) (ks : List (Bool × Int)) (w1 : World) (Q : Exit → Act → World → Prop) (ops : Array Oper) (hops : Hid (ops = pmOps)) (hq : q < w1.heap.size) (hmw : m < w1.heap.size)
    (hcall : ∀ W, Calls Try.prog 23 #[.agg #[.bool x.thing, .int .i64 x.to, hv]] W fun e w' => e = .returned (kV x.thing x.to) ∧ Below W.heap.size W w')
    (HB : w1.heap[q]? = some (.cells #[.bool x.thing, .int .i64 x.to, hv] 67)) (HM : w1.heap[m]? = some (.map es clock)) (hks : es.toList.map (·.key) = ks.map (fun k => kV k.1 k.2)) (hno : entAt ks x.thing x.to = none)
    (hend : ∀ W g1, Below w1.heap.size w1 W → W.heap[g1]? = some (.cells #[.int .i64 pl, .bool x.thing, .int .i64 x.to, hv] 104) → w1.heap.size ≤ g1 → Q .normal { tmps := #[.map (some m), .agg #[.bool x.thing, .int .i64 x.to, hv], .int .i64 pl, t3, .pointer (some ⟨q, 0, none⟩), t5, .int .i64 pl, t7, t8, t9, t10, t11, t12, t13, t14, t15, t16, t17, t18, .map (some m), .agg #[.bool x.thing, .int .i64 x.to, hv], kV x.thing x.to, .int .i64 pl, .agg #[.bool x.thing, .int .i64 x.to, hv], .agg #[.int .i64 pl, .bool x.thing, .int .i64 x.to, hv], (.slice (some ⟨g1, 0, none⟩) 1 1)], defers := [] } (setBlock W m (.map (es.push ⟨kV x.thing x.to, (.slice (some ⟨g1, 0, none⟩) 1 1), clock⟩) (clock + 1)))) :
    wpAnyH Try.prog .any ops (NoPanic Q) (fun _ => True) 8 #[false, false, false, false, false, false, false, false] { tmps := #[.map (some m), .agg #[.bool x.thing, .int .i64 x.to, hv], .int .i64 pl, t3, .pointer (some ⟨q, 0, none⟩), t5, .int .i64 pl, t7, t8, t9, t10, t11, t12, t13, t14, t15, t16, t17, t18, t19, t20, t21, t22, t23, t24, t25], defers := [] } w1 := by
  have h22 : ∀ (W : World) (g1 : Nat), Below w1.heap.size w1 W → W.heap[g1]? = some (.cells #[.int .i64 pl, .bool x.thing, .int .i64 x.to, hv] 104) → w1.heap.size ≤ g1 → wpAnyH Try.prog .any ops (NoPanic Q) (fun _ => True) 1 #[true, true, true, true, true, true, true, false] { tmps := #[.map (some m), .agg #[.bool x.thing, .int .i64 x.to, hv], .int .i64 pl, t3, .pointer (some ⟨q, 0, none⟩), t5, .int .i64 pl, t7, t8, t9, t10, t11, t12, t13, t14, t15, t16, t17, t18, .map (some m), .agg #[.bool x.thing, .int .i64 x.to, hv], kV x.thing x.to, .int .i64 pl, .agg #[.bool x.thing, .int .i64 x.to, hv], .agg #[.int .i64 pl, .bool x.thing, .int .i64 x.to, hv], (.slice (some ⟨g1, 0, none⟩) 1 1)], defers := [] } W := by
    intro W g1 g n1 l1
    have gs := g.size
    have hb := (g.block q hq).trans HB
    refine wpAnyH_ready (rs := [7]) (by rw [hops.out]; kernel_rfl) (by simp) ?_
    refine AllReadyH.cons (o := ?_) ?_ (fun K hK => ?_) ?_
    rotate_left 1
    · rw [hops.out]; unfold pmOps; simp only [List.getElem?_toArray, List.getElem?_cons_succ, List.getElem?_cons_zero]; rfl
    · rw [if_pos (by rfl)]
      have hm := (g.block m hmw).trans HM
      have hup := put_key W m es clock ks x.thing x.to (.slice (some ⟨g1, 0, none⟩) 1 1) hm hks hno
      have hE := hend W g1 g n1 l1
      go_simp
      refine hK.out _ _ trivial (fun _ => ?_)
      exact wpAnyH_done (by rw [hops.out]; kernel_rfl) (NoPanic.normal hE) _
    exact AllReadyH.nil
  have h12 : ∀ (W : World) (g1 : Nat), Below w1.heap.size w1 W → W.heap[g1]? = some (.cells #[.int .i64 pl, .bool x.thing, .int .i64 x.to, hv] 104) → w1.heap.size ≤ g1 → wpAnyH Try.prog .any ops (NoPanic Q) (fun _ => True) 2 #[true, true, false, true, true, true, true, false] { tmps := #[.map (some m), .agg #[.bool x.thing, .int .i64 x.to, hv], .int .i64 pl, t3, .pointer (some ⟨q, 0, none⟩), t5, .int .i64 pl, t7, t8, t9, t10, t11, t12, t13, t14, t15, t16, t17, t18, .map (some m), .agg #[.bool x.thing, .int .i64 x.to, hv], t21, .int .i64 pl, .agg #[.bool x.thing, .int .i64 x.to, hv], .agg #[.int .i64 pl, .bool x.thing, .int .i64 x.to, hv], (.slice (some ⟨g1, 0, none⟩) 1 1)], defers := [] } W := by
    intro W g1 g n1 l1
    have gs := g.size
    have hb := (g.block q hq).trans HB
    refine wpAnyH_ready (rs := [2]) (by rw [hops.out]; kernel_rfl) (by simp) ?_
    refine AllReadyH.cons (o := ?_) ?_ (fun K hK => ?_) ?_
    rotate_left 1
    · rw [hops.out]; unfold pmOps; simp only [List.getElem?_toArray, List.getElem?_cons_succ, List.getElem?_cons_zero]; rfl
    · rw [if_pos (by rfl)]
      have hpk := hcall W
      go_simp
      refine hpk.mono ?_
      rintro e w2 ⟨rfl, b2⟩
      refine hK.out _ _ trivial (fun _ => ?_)
      exact h22 w2 g1 (g.trans (b2.mono g.size)) ((b2.block g1 (lt_of_heap n1)).trans n1) l1
    exact AllReadyH.nil
  have h02 : ∀ (W : World) (g1 : Nat), Below w1.heap.size w1 W → W.heap[g1]? = some (.cells #[.int .i64 pl, .bool x.thing, .int .i64 x.to, hv] 104) → w1.heap.size ≤ g1 → wpAnyH Try.prog .any ops (NoPanic Q) (fun _ => True) 3 #[true, false, false, true, true, true, true, false] { tmps := #[.map (some m), .agg #[.bool x.thing, .int .i64 x.to, hv], .int .i64 pl, t3, .pointer (some ⟨q, 0, none⟩), t5, .int .i64 pl, t7, t8, t9, t10, t11, t12, t13, t14, t15, t16, t17, t18, .map (some m), t20, t21, .int .i64 pl, .agg #[.bool x.thing, .int .i64 x.to, hv], .agg #[.int .i64 pl, .bool x.thing, .int .i64 x.to, hv], (.slice (some ⟨g1, 0, none⟩) 1 1)], defers := [] } W := by
    intro W g1 g n1 l1
    have gs := g.size
    have hb := (g.block q hq).trans HB
    refine wpAnyH_ready (rs := [1]) (by rw [hops.out]; kernel_rfl) (by simp) ?_
    refine AllReadyH.cons (o := ?_) ?_ (fun K hK => ?_) ?_
    rotate_left 1
    · rw [hops.out]; unfold pmOps; simp only [List.getElem?_toArray, List.getElem?_cons_succ, List.getElem?_cons_zero]; rfl
    · rw [if_pos (by rfl)]
      refine wp_load_row 67 _ rfl _ rfl 67 _ (0, 0) _ hb Try.underlying67 rfl (by kernel_rfl) ?_
      refine hK.out _ _ trivial (fun _ => ?_)
      try simp only [Act.put, List.setIfInBounds_toArray, List.set_cons_zero, List.set_cons_succ]
      exact h12 W g1 g n1 l1
    exact AllReadyH.nil
  have h21 : ∀ (W : World) (g1 : Nat), Below w1.heap.size w1 W → wpAnyH Try.prog .any ops (NoPanic Q) (fun _ => True) 2 #[true, true, true, true, true, true, false, false] { tmps := #[.map (some m), .agg #[.bool x.thing, .int .i64 x.to, hv], .int .i64 pl, t3, .pointer (some ⟨q, 0, none⟩), t5, .int .i64 pl, t7, t8, t9, t10, t11, t12, t13, t14, t15, t16, t17, t18, .map (some m), .agg #[.bool x.thing, .int .i64 x.to, hv], kV x.thing x.to, .int .i64 pl, .agg #[.bool x.thing, .int .i64 x.to, hv], .agg #[.int .i64 pl, .bool x.thing, .int .i64 x.to, hv], t25], defers := [] } W := by
    intro W g1 g
    have gs := g.size
    have hb := (g.block q hq).trans HB
    refine wpAnyH_ready (rs := [6]) (by rw [hops.out]; kernel_rfl) (by simp) ?_
    refine AllReadyH.cons (o := ?_) ?_ (fun K hK => ?_) ?_
    rotate_left 1
    · rw [hops.out]; unfold pmOps; simp only [List.getElem?_toArray, List.getElem?_cons_succ, List.getElem?_cons_zero]; rfl
    · rw [if_pos (by rfl)]
      go_simp
      refine hK.out _ _ trivial (fun _ => ?_)
      exact h22 _ W.heap.size (g.alloc g.size _) (heap_alloc_new W _) g.size
    exact AllReadyH.nil
  have h11 : ∀ (W : World) (g1 : Nat), Below w1.heap.size w1 W → wpAnyH Try.prog .any ops (NoPanic Q) (fun _ => True) 3 #[true, true, false, true, true, true, false, false] { tmps := #[.map (some m), .agg #[.bool x.thing, .int .i64 x.to, hv], .int .i64 pl, t3, .pointer (some ⟨q, 0, none⟩), t5, .int .i64 pl, t7, t8, t9, t10, t11, t12, t13, t14, t15, t16, t17, t18, .map (some m), .agg #[.bool x.thing, .int .i64 x.to, hv], t21, .int .i64 pl, .agg #[.bool x.thing, .int .i64 x.to, hv], .agg #[.int .i64 pl, .bool x.thing, .int .i64 x.to, hv], t25], defers := [] } W := by
    intro W g1 g
    have gs := g.size
    have hb := (g.block q hq).trans HB
    refine wpAnyH_ready (rs := [2, 6]) (by rw [hops.out]; kernel_rfl) (by simp) ?_
    refine AllReadyH.cons (o := ?_) ?_ (fun K hK => ?_) ?_
    rotate_left 1
    · rw [hops.out]; unfold pmOps; simp only [List.getElem?_toArray, List.getElem?_cons_succ, List.getElem?_cons_zero]; rfl
    · rw [if_pos (by rfl)]
      have hpk := hcall W
      go_simp
      refine hpk.mono ?_
      rintro e w2 ⟨rfl, b2⟩
      refine hK.out _ _ trivial (fun _ => ?_)
      exact h21 w2 g1 (g.trans (b2.mono g.size))
    refine AllReadyH.cons (o := ?_) ?_ (fun K hK => ?_) ?_
    rotate_left 1
    · rw [hops.out]; unfold pmOps; simp only [List.getElem?_toArray, List.getElem?_cons_succ, List.getElem?_cons_zero]; rfl
    · rw [if_pos (by rfl)]
      go_simp
      refine hK.out _ _ trivial (fun _ => ?_)
      exact h12 _ W.heap.size (g.alloc g.size _) (heap_alloc_new W _) g.size
    exact AllReadyH.nil
  have h01 : ∀ (W : World) (g1 : Nat), Below w1.heap.size w1 W → wpAnyH Try.prog .any ops (NoPanic Q) (fun _ => True) 4 #[true, false, false, true, true, true, false, false] { tmps := #[.map (some m), .agg #[.bool x.thing, .int .i64 x.to, hv], .int .i64 pl, t3, .pointer (some ⟨q, 0, none⟩), t5, .int .i64 pl, t7, t8, t9, t10, t11, t12, t13, t14, t15, t16, t17, t18, .map (some m), t20, t21, .int .i64 pl, .agg #[.bool x.thing, .int .i64 x.to, hv], .agg #[.int .i64 pl, .bool x.thing, .int .i64 x.to, hv], t25], defers := [] } W := by
    intro W g1 g
    have gs := g.size
    have hb := (g.block q hq).trans HB
    refine wpAnyH_ready (rs := [1, 6]) (by rw [hops.out]; kernel_rfl) (by simp) ?_
    refine AllReadyH.cons (o := ?_) ?_ (fun K hK => ?_) ?_
    rotate_left 1
    · rw [hops.out]; unfold pmOps; simp only [List.getElem?_toArray, List.getElem?_cons_succ, List.getElem?_cons_zero]; rfl
    · rw [if_pos (by rfl)]
      refine wp_load_row 67 _ rfl _ rfl 67 _ (0, 0) _ hb Try.underlying67 rfl (by kernel_rfl) ?_
      refine hK.out _ _ trivial (fun _ => ?_)
      try simp only [Act.put, List.setIfInBounds_toArray, List.set_cons_zero, List.set_cons_succ]
      exact h11 W g1 g
    refine AllReadyH.cons (o := ?_) ?_ (fun K hK => ?_) ?_
    rotate_left 1
    · rw [hops.out]; unfold pmOps; simp only [List.getElem?_toArray, List.getElem?_cons_succ, List.getElem?_cons_zero]; rfl
    · rw [if_pos (by rfl)]
      go_simp
      refine hK.out _ _ trivial (fun _ => ?_)
      exact h02 _ W.heap.size (g.alloc g.size _) (heap_alloc_new W _) g.size
    exact AllReadyH.nil
  have h20 : ∀ (W : World) (g1 : Nat), Below w1.heap.size w1 W → wpAnyH Try.prog .any ops (NoPanic Q) (fun _ => True) 4 #[true, true, true, true, false, false, false, false] { tmps := #[.map (some m), .agg #[.bool x.thing, .int .i64 x.to, hv], .int .i64 pl, t3, .pointer (some ⟨q, 0, none⟩), t5, .int .i64 pl, t7, t8, t9, t10, t11, t12, t13, t14, t15, t16, t17, t18, .map (some m), .agg #[.bool x.thing, .int .i64 x.to, hv], kV x.thing x.to, .int .i64 pl, t23, t24, t25], defers := [] } W := by
    intro W g1 g
    have gs := g.size
    have hb := (g.block q hq).trans HB
    refine wpAnyH_ready (rs := [4]) (by rw [hops.out]; kernel_rfl) (by simp) ?_
    refine AllReadyH.cons (o := ?_) ?_ (fun K hK => ?_) ?_
    rotate_left 1
    · rw [hops.out]; unfold pmOps; simp only [List.getElem?_toArray, List.getElem?_cons_succ, List.getElem?_cons_zero]; rfl
    · rw [if_pos (by rfl)]
      refine wp_load_row 67 _ rfl _ rfl 67 _ (0, 0) _ hb Try.underlying67 rfl (by kernel_rfl) ?_
      refine hK.out _ _ trivial (fun _ => ?_)
      try simp only [Act.put, List.setIfInBounds_toArray, List.set_cons_zero, List.set_cons_succ]
      refine take_do 5 (oi := ?_) (v := ?_) ?_ (by rw [hops.out]; kernel_rfl) ?_ ?_ ?_ trivial ?_
      rotate_left 2
      · rw [hops.out]; unfold pmOps; simp only [List.getElem?_toArray, List.getElem?_cons_succ, List.getElem?_cons_zero]; rfl
      · rw [hops.out]; kernel_rfl
      · intro W hW; (try dsimp only at hW); go_simp <;> with_reducible rfl
      · exact fun _ _ _ h => h
      try simp only [Act.put, List.setIfInBounds_toArray, List.set_cons_zero, List.set_cons_succ]
      exact h21 W g1 g
    exact AllReadyH.nil
  have h10 : ∀ (W : World) (g1 : Nat), Below w1.heap.size w1 W → wpAnyH Try.prog .any ops (NoPanic Q) (fun _ => True) 5 #[true, true, false, true, false, false, false, false] { tmps := #[.map (some m), .agg #[.bool x.thing, .int .i64 x.to, hv], .int .i64 pl, t3, .pointer (some ⟨q, 0, none⟩), t5, .int .i64 pl, t7, t8, t9, t10, t11, t12, t13, t14, t15, t16, t17, t18, .map (some m), .agg #[.bool x.thing, .int .i64 x.to, hv], t21, .int .i64 pl, t23, t24, t25], defers := [] } W := by
    intro W g1 g
    have gs := g.size
    have hb := (g.block q hq).trans HB
    refine wpAnyH_ready (rs := [2, 4]) (by rw [hops.out]; kernel_rfl) (by simp) ?_
    refine AllReadyH.cons (o := ?_) ?_ (fun K hK => ?_) ?_
    rotate_left 1
    · rw [hops.out]; unfold pmOps; simp only [List.getElem?_toArray, List.getElem?_cons_succ, List.getElem?_cons_zero]; rfl
    · rw [if_pos (by rfl)]
      have hpk := hcall W
      go_simp
      refine hpk.mono ?_
      rintro e w2 ⟨rfl, b2⟩
      refine hK.out _ _ trivial (fun _ => ?_)
      exact h20 w2 g1 (g.trans (b2.mono g.size))
    refine AllReadyH.cons (o := ?_) ?_ (fun K hK => ?_) ?_
    rotate_left 1
    · rw [hops.out]; unfold pmOps; simp only [List.getElem?_toArray, List.getElem?_cons_succ, List.getElem?_cons_zero]; rfl
    · rw [if_pos (by rfl)]
      refine wp_load_row 67 _ rfl _ rfl 67 _ (0, 0) _ hb Try.underlying67 rfl (by kernel_rfl) ?_
      refine hK.out _ _ trivial (fun _ => ?_)
      try simp only [Act.put, List.setIfInBounds_toArray, List.set_cons_zero, List.set_cons_succ]
      refine take_do 5 (oi := ?_) (v := ?_) ?_ (by rw [hops.out]; kernel_rfl) ?_ ?_ ?_ trivial ?_
      rotate_left 2
      · rw [hops.out]; unfold pmOps; simp only [List.getElem?_toArray, List.getElem?_cons_succ, List.getElem?_cons_zero]; rfl
      · rw [hops.out]; kernel_rfl
      · intro W hW; (try dsimp only at hW); go_simp <;> with_reducible rfl
      · exact fun _ _ _ h => h
      try simp only [Act.put, List.setIfInBounds_toArray, List.set_cons_zero, List.set_cons_succ]
      exact h11 W g1 g
    exact AllReadyH.nil
  have h00 : ∀ (W : World) (g1 : Nat), Below w1.heap.size w1 W → wpAnyH Try.prog .any ops (NoPanic Q) (fun _ => True) 6 #[true, false, false, true, false, false, false, false] { tmps := #[.map (some m), .agg #[.bool x.thing, .int .i64 x.to, hv], .int .i64 pl, t3, .pointer (some ⟨q, 0, none⟩), t5, .int .i64 pl, t7, t8, t9, t10, t11, t12, t13, t14, t15, t16, t17, t18, .map (some m), t20, t21, .int .i64 pl, t23, t24, t25], defers := [] } W := by
    intro W g1 g
    have gs := g.size
    have hb := (g.block q hq).trans HB
    refine wpAnyH_ready (rs := [1, 4]) (by rw [hops.out]; kernel_rfl) (by simp) ?_
    refine AllReadyH.cons (o := ?_) ?_ (fun K hK => ?_) ?_
    rotate_left 1
    · rw [hops.out]; unfold pmOps; simp only [List.getElem?_toArray, List.getElem?_cons_succ, List.getElem?_cons_zero]; rfl
    · rw [if_pos (by rfl)]
      refine wp_load_row 67 _ rfl _ rfl 67 _ (0, 0) _ hb Try.underlying67 rfl (by kernel_rfl) ?_
      refine hK.out _ _ trivial (fun _ => ?_)
      try simp only [Act.put, List.setIfInBounds_toArray, List.set_cons_zero, List.set_cons_succ]
      exact h10 W g1 g
    refine AllReadyH.cons (o := ?_) ?_ (fun K hK => ?_) ?_
    rotate_left 1
    · rw [hops.out]; unfold pmOps; simp only [List.getElem?_toArray, List.getElem?_cons_succ, List.getElem?_cons_zero]; rfl
    · rw [if_pos (by rfl)]
      refine wp_load_row 67 _ rfl _ rfl 67 _ (0, 0) _ hb Try.underlying67 rfl (by kernel_rfl) ?_
      refine hK.out _ _ trivial (fun _ => ?_)
      try simp only [Act.put, List.setIfInBounds_toArray, List.set_cons_zero, List.set_cons_succ]
      refine take_do 5 (oi := ?_) (v := ?_) ?_ (by rw [hops.out]; kernel_rfl) ?_ ?_ ?_ trivial ?_
      rotate_left 2
      · rw [hops.out]; unfold pmOps; simp only [List.getElem?_toArray, List.getElem?_cons_succ, List.getElem?_cons_zero]; rfl
      · rw [hops.out]; kernel_rfl
      · intro W hW; (try dsimp only at hW); go_simp <;> with_reducible rfl
      · exact fun _ _ _ h => h
      try simp only [Act.put, List.setIfInBounds_toArray, List.set_cons_zero, List.set_cons_succ]
      exact h01 W g1 g
    exact AllReadyH.nil
  refine take_do 0 (oi := ?_) (v := ?_) ?_ (by rw [hops.out]; kernel_rfl) ?_ ?_ ?_ trivial ?_
  rotate_left 2
  · rw [hops.out]; unfold pmOps; simp only [List.getElem?_toArray, List.getElem?_cons_succ, List.getElem?_cons_zero]; rfl
  · rw [hops.out]; kernel_rfl
  · intro W hW; (try dsimp only at hW); go_simp <;> with_reducible rfl
  · exact fun _ _ _ h => h
  try simp only [Act.put, List.setIfInBounds_toArray, List.set_cons_zero, List.set_cons_succ]
  refine take_do 3 (oi := ?_) (v := ?_) ?_ (by rw [hops.out]; kernel_rfl) ?_ ?_ ?_ trivial ?_
  rotate_left 2
  · rw [hops.out]; unfold pmOps; simp only [List.getElem?_toArray, List.getElem?_cons_succ, List.getElem?_cons_zero]; rfl
  · rw [hops.out]; kernel_rfl
  · intro W hW; (try dsimp only at hW); go_simp <;> with_reducible rfl
  · exact fun _ _ _ h => h
  try simp only [Act.put, List.setIfInBounds_toArray, List.set_cons_zero, List.set_cons_succ]
  exact h00 w1 0 (Below.refl _ _)
end Go.Proofs.Ytbknmgobmnjphaa
namespace Go.Proofs.Ytbknmgobmnjphaa
open Go.RowKit
open Go.ChangeMaps (setBlock)

set_option linter.unusedSimpArgs false

/-- a line at its place -/
abbrev PlP := Int × JP

def encPl (p : PlP) : List Value := [.int .i64 p.1, .bool p.2.1.thing, .int .i64 p.2.1.to, p.2.2]

theorem encPl_len (p : PlP) : (encPl p).length = 4 := rfl

/-- the entries of a map that was only put into -/
def entsF : Nat → List (PlP × Value) → List MapEntry
  | _, [] => []
  | i, x :: xs => ⟨kV x.1.2.1.thing x.1.2.1.to, x.2, i⟩ :: entsF (i + 1) xs

def ksOf (es : List (PlP × Value)) : List (Bool × Int) := es.map (fun x => (x.1.2.1.thing, x.1.2.1.to))

def lnsOf (es : List (PlP × Value)) : List LnD := es.map (fun x => x.1.2.1)

theorem entsF_key : ∀ (i : Nat) (es : List (PlP × Value)), (entsF i es).map (·.key) = (ksOf es).map (fun k => kV k.1 k.2)
  | _, [] => rfl
  | i, x :: xs => by simp only [entsF, List.map_cons, ksOf]; rw [entsF_key (i + 1) xs]; rfl

theorem entsF_get : ∀ (i : Nat) (es : List (PlP × Value)) (j : Nat), (entsF i es)[j]? = es[j]?.map (fun x => (⟨kV x.1.2.1.thing x.1.2.1.to, x.2, i + j⟩ : MapEntry))
  | _, [], j => by simp [entsF]
  | i, x :: xs, 0 => by simp [entsF]
  | i, x :: xs, j + 1 => by
    simp only [entsF, List.getElem?_cons_succ]
    rw [entsF_get (i + 1) xs j]
    congr 1
    funext y
    rw [show i + 1 + j = i + (j + 1) by omega]

theorem entsF_push : ∀ (i : Nat) (es : List (PlP × Value)) (x : PlP × Value), entsF i (es ++ [x]) = entsF i es ++ [⟨kV x.1.2.1.thing x.1.2.1.to, x.2, i + es.length⟩]
  | i, [], x => by simp [entsF]
  | i, y :: ys, x => by
    simp only [List.cons_append, entsF, List.length_cons]
    rw [entsF_push (i + 1) ys x, show i + 1 + ys.length = i + (ys.length + 1) by omega]

theorem entAt_idx (es : List (PlP × Value)) (t : Bool) (z : Int) : entAt (ksOf es) t z = (lnsOf es).findIdx? (isLn t z) := by
  unfold entAt ksOf lnsOf
  rw [List.findIdx?_map, List.findIdx?_map]
  rfl

theorem entAt_none {es : List (PlP × Value)} {t : Bool} {z : Int} (h : idxZ (lnsOf es) t z = -1) : entAt (ksOf es) t z = none := by
  rw [entAt_idx]
  unfold idxZ at h
  cases e : (lnsOf es).findIdx? (isLn t z) with
  | none => rfl
  | some i => rw [e] at h; simp at h

structure LmAt (W : World) (lo hi m : Nat) (es : List (PlP × Value)) : Prop where
  map : W.heap[m]? = some (.map (entsF 0 es).toArray es.length)
  low : lo ≤ m
  high : m < hi
  rows : ∀ x ∈ es, W.ownsRow lo 104 4 x.2 1 (encPl x.1) ∧ ∀ k, x.2.ownBlock = some k → k < hi

theorem LmAt.below {W W' : World} {lo hi m B : Nat} {es : List (PlP × Value)} (h : LmAt W lo hi m es) (hb : Below B W W') (hB : hi ≤ B) : LmAt W' lo hi m es :=
  ⟨(hb.block m (by have := h.high; omega)).trans h.map, h.low, h.high, fun x hx => ⟨owns_keepB (h.rows x hx).1 (fun k e => hb.block k (by have := (h.rows x hx).2 k e; omega)), (h.rows x hx).2⟩⟩

theorem LmAt.wide {W : World} {lo hi hi' m : Nat} {es : List (PlP × Value)} (h : LmAt W lo hi m es) (hh : hi ≤ hi') : LmAt W lo hi' m es :=
  ⟨h.map, h.low, Nat.lt_of_lt_of_le h.high hh, fun x hx => ⟨(h.rows x hx).1, fun k e => Nat.lt_of_lt_of_le ((h.rows x hx).2 k e) hh⟩⟩

theorem LmAt.made (w : World) : LmAt (w.alloc (.map #[] 0)) w.heap.size (w.heap.size + 1) w.heap.size [] :=
  ⟨heap_alloc_new w _, Nat.le_refl _, Nat.lt_succ_self _, by simp⟩

/-- what a look-up gives -/
theorem LmAt.look {W : World} {lo hi m : Nat} {es : List (PlP × Value)} (h : LmAt W lo hi m es) (t : Bool) (z : Int) :
    ∃ a n c, (Instr.lookup 65 (.map (some m)) (.agg #[.bool t, .int .i64 z]) false).run Try.prog W = .ok (.slice a n c) W ∧ (idxZ (lnsOf es) t z = -1 ∧ n = 0 ∨ 0 ≤ idxZ (lnsOf es) t z ∧ n = 1) := by
  have h1 := look_key W m (entsF 0 es).toArray es.length (ksOf es) t z h.map (entsF_key 0 es)
  unfold kV at h1
  rw [h1]
  rcases idxZ_cases (lnsOf es) t z with hk | ⟨k, x, hk, hx, _⟩
  · rw [entAt_none hk]
    exact ⟨none, 0, 0, rfl, .inl ⟨hk, rfl⟩⟩
  · have e1 : entAt (ksOf es) t z = some k := by
      rw [entAt_idx]
      unfold idxZ at hk
      cases e : (lnsOf es).findIdx? (isLn t z) with
      | none => rw [e] at hk; simp at hk
      | some i => rw [e] at hk; simp only [] at hk; have e9 : i = k := by omega
                  rw [e9]
    have hkl : k < es.length := by have := (List.getElem?_eq_some_iff.1 hx).1; simpa [lnsOf] using this
    obtain ⟨y, hy⟩ : ∃ y, es[k]? = some y := ⟨es[k], List.getElem?_eq_getElem hkl⟩
    have hr := (h.rows y (List.mem_of_getElem? hy)).1
    obtain ⟨a, c, hv⟩ := owns_lenS hr
    rw [e1]
    simp only [Option.bind_some, List.toList_toArray, entsF_get, hy, Option.map_some, hv]
    exact ⟨a, 1, c, rfl, .inr ⟨by omega, rfl⟩⟩

set_option maxRecDepth 100000 in
set_option maxHeartbeats 2000000 in
theorem leads_any (lo m : Nat) (es : List (PlP × Value)) (t : Bool) (z : Int) (w : World) (h : LmAt w lo w.heap.size m es) :
    Calls Try.prog 22 #[.map (some m), kV t z] w fun e w' => e = .returned (.bool (decide (0 ≤ idxZ (lnsOf es) t z))) ∧ Below w.heap.size w w' := by
  have hb := (Below.refl w.heap.size w).alloc (Nat.le_refl _) (.cells #[.bool t, .int .i64 z] 70)
  obtain ⟨a, n, c, hl, hn⟩ := (h.below hb (Nat.le_refl _)).look t z
  have HB := hide hb
  unfold kV
  clear h hb
  rcases hn with ⟨h1, rfl⟩ | ⟨h1, rfl⟩
  · rw [decide_eq_false (show ¬ 0 ≤ idxZ (lnsOf es) t z by omega)]
    clear h1
    go_enter Try.func22, Try.ntmps22
    go_wp2
    go_ret
    exact ⟨rfl, HB.out⟩
  · rw [decide_eq_true h1]
    clear h1
    go_enter Try.func22, Try.ntmps22
    go_wp2
    go_ret
    exact ⟨rfl, HB.out⟩

set_option maxRecDepth 100000 in
set_option maxHeartbeats 4000000 in
theorem putM_any (lo m : Nat) (es : List (PlP × Value)) (x : LnD) (hv : Value) (pl : Int) (w : World) (h : LmAt w lo w.heap.size m es) (hno : idxZ (lnsOf es) x.thing x.to = -1) :
    Calls Try.prog 24 #[.map (some m), .agg (lnC x hv), .int .i64 pl] w fun e w' => e = .returned (.tuple #[]) ∧ ∃ v, LmAt w' lo w'.heap.size m (es ++ [((pl, (x, hv)), v)]) ∧ w.grownBy w' (some m) := by
  have hb := (Below.refl w.heap.size w).alloc (Nat.le_refl _) (.cells #[.bool x.thing, .int .i64 x.to, hv] 67)
  have hbox := heap_alloc_new w (.cells #[.bool x.thing, .int .i64 x.to, hv] 67)
  unfold lnC
  have HL := hide h
  have HNO := hide hno
  clear h hno
  go_enter Try.func24, Try.ntmps24
  go_wp2_with fail
  obtain ⟨W0, hW0⟩ : ∃ W0, W0 = w.alloc (.cells #[.bool x.thing, .int .i64 x.to, hv] 67) := ⟨_, rfl⟩
  rw [← hW0] at hb hbox ⊢
  have c0 := cells_at hbox 0
  have c1 := cells_at hbox 1
  have c2 := cells_at hbox 2
  simp at c0 c1 c2
  have hl0 := lt_of_heap hbox
  have hbs := hb.size
  have HL0 := hide ((HL.out.below hb (Nat.le_refl _)).wide hbs)
  refine (key_any x hv W0).mono ?_
  rintro e w1 ⟨rfl, b1⟩
  have HL1 := hide ((HL0.out.below b1 (Nat.le_refl _)).wide b1.size)
  go_wp2_with fail
  refine (leads_any lo m es x.thing x.to w1 HL1.out).mono ?_
  rintro e w2 ⟨rfl, b2⟩
  rw [decide_eq_false (show ¬ 0 ≤ idxZ (lnsOf es) x.thing x.to by rw [HNO.out]; omega)]
  have HL2 := hide ((HL1.out.below b2 (Nat.le_refl _)).wide b2.size)
  have hbox2 := (b2.block _ (by have := b1.size; omega)).trans ((b1.block _ hl0).trans hbox)
  have bw2 : Below w.heap.size w w2 := hb.trans ((b1.trans (b2.mono b1.size)).mono hbs)
  have HBX := hide hbox2
  have HM2 := hide HL2.out.map
  have hw2s := bw2.size
  clear hb hbox c0 c1 c2 HL0 HL1 b1 b2 hbox2 hbs hl0 hW0 HL
  go_wp2
  refine wp_region_noPanic ?_
  refine wp_region_start (S := fun _ => True) (by kernel_rfl) 8 rfl trivial (fun ops hops _ => ?_)
  refine pm_dag w.heap.size m x hv pl (entsF 0 es).toArray es.length (ksOf es) w2.drew _ ops hops (lt_of_heap HBX.out) (lt_of_heap HM2.out) (key_any x hv) HBX.out HM2.out (entsF_key 0 es) (entAt_none HNO.out) ?_
  intro W g1 g hg1 hlg
  clear hops ops
  have gs := g.size
  have gs2 : w2.heap.size ≤ W.heap.size := gs
  have hmw : m < w2.heap.size := lt_of_heap HM2.out
  have hg1w := lt_of_heap hg1
  have hWm : W.heap[m]? = some (.map (entsF 0 es).toArray es.length) := (g.block m hmw).trans HM2.out
  have hmg : m ≠ g1 := fun e => by have h9 : w2.heap.size ≤ g1 := hlg; omega
  obtain ⟨W9, hW9⟩ : ∃ W9, W9 = setBlock W m (.map ((entsF 0 es).toArray.push ⟨kV x.thing x.to, .slice (some ⟨g1, 0, none⟩) 1 1, es.length⟩) (es.length + 1)) := ⟨_, rfl⟩
  have hk9 : ∀ j, j ≠ m → W9.heap[j]? = W.heap[j]? := fun j hj => by rw [hW9]; exact Go.ChangeMaps.heap_setBlock_other hWm _ hj
  have hm9 : W9.heap[m]? = some (.map ((entsF 0 es).toArray.push ⟨kV x.thing x.to, .slice (some ⟨g1, 0, none⟩) 1 1, es.length⟩) (es.length + 1)) := by rw [hW9]; exact Go.ChangeMaps.heap_setBlock_same hWm _
  have hs9 : W9.heap.size = W.heap.size := by rw [hW9]; simp [setBlock]
  have hg9 : W.grownBy W9 (some m) := ⟨by rw [hW9]; rfl, by rw [hW9]; rfl, by rw [hW9]; rfl, by omega, fun j _ hj => hk9 j (fun e => hj (by rw [e]))⟩
  have FIN : LmAt W9 lo W9.heap.size m (es ++ [((pl, (x, hv)), .slice (some ⟨g1, 0, none⟩) 1 1)]) := by
    refine ⟨?_, HL2.out.low, by omega, ?_⟩
    · rw [hm9, entsF_push, List.length_append]
      simp
    · intro y hy
      rcases List.mem_append.1 hy with h1 | h1
      · have hr := HL2.out.rows y h1
        refine ⟨owns_keepB hr.1 (fun k e => ?_), fun k e => by have := hr.2 k e; omega⟩
        have hkw := hr.2 k e
        have hkm : k ≠ m := fun e9 => by
          subst e9
          rcases hr.1.2 with ⟨e1, _⟩ | ⟨g2, cap, cur, e1, _, hh, _⟩
          · rw [e1] at e; cases e
          · rw [e1] at e
            simp [Value.ownBlock] at e
            subst e
            rw [HM2.out] at hh
            cases hh
        rw [hk9 k hkm]
        exact g.block k hkw
      · have : y = ((pl, (x, hv)), .slice (some ⟨g1, 0, none⟩) 1 1) := by simpa using h1
        subst this
        have hg1' : W9.heap[g1]? = some (.cells #[.int .i64 pl, .bool x.thing, .int .i64 x.to, hv] 104) := (hk9 g1 (fun e => hmg e.symm)).trans hg1
        have hlg2 : w2.heap.size ≤ g1 := hlg
        refine ⟨⟨rfl, .inr ⟨g1, 1, _, rfl, by have := HL2.out.low; omega, hg1', Nat.le_refl _, by unfold maxLen; omega, rfl, rfl⟩⟩, fun k e => ?_⟩
        simp [Value.ownBlock] at e
        subst e
        exact lt_of_heap hg1'
  have GRW : w.grownBy W9 (some m) := by
    have h1 : w.grownBy w2 (some m) := ⟨bw2.os, bw2.tape, bw2.output, bw2.size, fun j hj _ => bw2.block j hj⟩
    have h2 : w2.grownBy W (some m) := ⟨g.os, g.tape, g.output, g.size, fun j hj _ => g.block j hj⟩
    exact grown_trans (grown_trans h1 h2) hg9
  rw [← hW9]
  clear hW9
  go_wp2
  go_returns
  exact ⟨rfl, _, FIN, GRW⟩
end Go.Proofs.Ytbknmgobmnjphaa
namespace Go.Proofs.Ytbknmgobmnjphaa
open Go.RowKit

set_option linter.unusedSimpArgs false

/-- a placed line, and the row of its hops -/
abbrev PS := Int × LnD × Option Addr × Nat × Nat

instance : Inhabited PS := ⟨(0, zeroJD, none, 0, 0)⟩

def psP (p : PS) : PlP := (p.1, (p.2.1, .slice p.2.2.1 p.2.2.2.1 p.2.2.2.2))

def encPS (p : PS) : List Value := encPl (psP p)

theorem encPl_one (p : PS) : ∀ u ∈ encPS p, u.oneCell' = true := by
  intro u hu
  simp [encPS, encPl, psP] at hu
  rcases hu with rfl | rfl | rfl | rfl <;> rfl

def cfPS (p q : PS) : Int := cmpN p.1 q.1

theorem cmpP_lt (a b : Int) : cmpN a b < 0 ↔ a < b := by
  unfold cmpN
  split
  · omega
  · split <;> omega

theorem swoPS : Go.Sort.SWO (Go.Proofs.ltOf cfPS) where
  irrefl x := by unfold Go.Proofs.ltOf cfPS; rw [decide_eq_false_iff_not, cmpP_lt]; omega
  trans x y z h1 h2 := by
    unfold Go.Proofs.ltOf cfPS at *
    rw [decide_eq_true_eq, cmpP_lt] at *
    omega
  ntrans x y z h1 h2 := by
    unfold Go.Proofs.ltOf cfPS at *
    rw [decide_eq_false_iff_not, cmpP_lt] at *
    omega

/-- lines in the order of their places -/
def SortedP (qs : List PlP) : Prop := qs.Pairwise (fun a b => ¬ cmpN b.1 a.1 < 0)

set_option maxRecDepth 100000 in
set_option maxHeartbeats 2000000 in
theorem cmpPl_any (p q : PS) (w : World) : Calls Try.prog 47 #[.agg #[.int .i64 p.1, .bool p.2.1.thing, .int .i64 p.2.1.to, .slice p.2.2.1 p.2.2.2.1 p.2.2.2.2], .agg #[.int .i64 q.1, .bool q.2.1.thing, .int .i64 q.2.1.to, .slice q.2.2.1 q.2.2.2.1 q.2.2.2.2]] w fun e w' => e = .returned (.int .i64 (cfPS p q)) ∧ Below w.heap.size w w' ∧ w.drawn ≤ w'.drawn := by
  unfold cfPS
  go_enter Try.func47, Try.ntmps47
  go_wp2_with fail
  refine (compare_any _ _ _).mono ?_
  rintro e w1 ⟨rfl, rfl⟩
  go_wp2
  go_ret
  exact ⟨rfl, below_two _ _, Nat.le_refl _⟩

/-- in the sort's words -/
theorem cmpLaysP (blk off size : Nat) (w : World) : CmpLays Try.prog 47 #[] encPS 4 cfPS blk off size w :=
  fun _ _ _ _ x y => (cmpPl_any x y _).mono fun _ _ ⟨h1, h2, h3⟩ => ⟨h1, grown_of h2 h3⟩

theorem as_ps : ∀ {os : List PlP}, (∀ q ∈ os, ∃ a n c, q.2.2 = .slice a n c) → ∃ ss : List PS, ss.map psP = os
  | [], _ => ⟨[], rfl⟩
  | q :: os, h => by
    obtain ⟨ss, hs⟩ := as_ps (os := os) (fun x hx => h x (by simp [hx]))
    obtain ⟨a, n, c, e⟩ := h q (by simp)
    refine ⟨(q.1, q.2.1, a, n, c) :: ss, ?_⟩
    rw [List.map_cons, hs]
    congr 1
    unfold psP
    rw [← e]

theorem Try.aggPlaced : ∀ w, (isAgg 104).run Try.prog w = .ok true w := fun w => by kernel_rfl

theorem Try.sizePlaced : ∀ w, (Go.sizeOf 104).run Try.prog w = .ok 4 w := fun w => by kernel_rfl

set_option maxRecDepth 100000 in
set_option maxHeartbeats 4000000 in
theorem sortP_own (v : Value) (os : List PlP) (base : Nat) (w : World) (h : w.ownsRow base 104 4 v os.length (flat encPl os)) (hsl : ∀ q ∈ os, ∃ a n c, q.2.2 = .slice a n c) (hlen : os.length ≤ 1048576) :
    Calls Try.prog 46 #[v, .func (.func 47) #[] #[]] w fun e w' => e = .returned (.tuple #[]) ∧ ∃ qs : List PlP, qs.Perm os ∧ SortedP qs ∧ w'.ownsRow base 104 4 v qs.length (flat encPl qs) ∧ w.grownBy w' v.ownBlock := by
  obtain ⟨ss, hss⟩ := as_ps hsl
  rcases h.2 with ⟨e0, hn0⟩ | ⟨g, cap, cur, e0, hb, hg, hn, hm, hs, ht⟩
  · subst e0
    have hos : os = [] := List.length_eq_zero_iff.1 hn0
    subst hos
    have hc := Go.Proofs.AnyF.slices_SortFunc_none Try.sortP none 0 (.func (.func 47) #[] #[]) w
    change Calls Try.prog 46 _ _ _ at hc
    refine hc.mono fun e w' ⟨h1, h2⟩ => ⟨h1, [], List.Perm.refl _, by simp [SortedP], ?_, ?_⟩
    · exact World.ownsRow_nil _ _ _ _
    · rw [h2]
      exact ⟨rfl, rfl, rfl, Nat.le_refl _, fun _ _ _ => rfl⟩
  · subst e0
    have hsl2 : ss.length = os.length := by rw [← hss, List.length_map]
    have hflat : flat encPl os = flat encPS ss := by
      rw [← hss]
      unfold flat encPS
      rw [List.flatMap_map]
    have hcell : ∀ i c, i < ss.length → c < 4 → (flat encPS ss)[i * 4 + c]? = (encPS ss[i]!)[c]? := fun i c hi hc => by
      exact flat_get (sz := 4) (fun _ => rfl) ss i c ss[i]! (by rw [getElem!_pos _ i hi]; exact List.getElem?_eq_getElem hi) hc
    have hgl := lt_of_heap hg
    have hH : Go.Sort.HoldsK encPS 4 w g 0 ss.toArray := by
      intro j hj
      rw [Go.Sort.size_flatK] at hj
      simp only [List.size_toArray] at hj
      refine ⟨?_, by simp [World.frozen?, hg]⟩
      rw [Go.Sort.get_flatK _ _ _ j (by simpa using hj)]
      have hd : j / 4 < ss.length := by omega
      have e1 : (flat encPl os)[j]? = (encPS ss[j / 4]!)[j % 4]? := by
        rw [hflat, ← hcell (j / 4) (j % 4) hd (by omega)]
        congr 1
        omega
      have e2 : cur[j]? = (flat encPl os)[j]? := by
        rw [← ht, List.getElem?_take, if_pos (by omega), Array.getElem?_toList]
      simp only [World.cell?, hg, Nat.zero_add]
      simp only [Option.isSome_none, Bool.false_eq_true, if_false]
      rw [e2, e1]
      have e3 : (ss.toArray[j / 4]! : PS) = ss[j / 4]! := by simp
      rw [e3, List.getElem?_eq_getElem (show j % 4 < (encPS ss[j / 4]!).length by show j % 4 < 4; omega), getElem!_pos _ (j % 4) (show j % 4 < (encPS ss[j / 4]!).length by show j % 4 < 4; omega)]
      rfl
    have hc := Go.Proofs.AnyQ.slices_SortFunc Try.sortP 4 Try.aggPlaced Try.sizePlaced encPS (fun _ => rfl) (fun x u hu => encPl_one _ u hu) cfPS swoPS 47 #[] g 0 cap ss.toArray w (enters_of Try.func47 (by kernel_rfl) rfl) (cmpLaysP g 0 ss.toArray.size w) hH hgl (by simp; omega)
    change Calls Try.prog 46 _ _ _ at hc
    rw [show ss.toArray.size = os.length by simp [hsl2]] at hc
    refine hc.mono fun e w' ⟨h1, d', n, os', hp, hso, hw⟩ => ⟨h1, d'.toList.map psP, ?_, ?_, ?_, ?_⟩
    · have hpp := hp.2.2
      have hds : d'.size = os.length := by rw [hp.1]; simp [hsl2]
      rw [Array.extract_eq_self_of_le (by omega), Array.extract_eq_self_of_le (by simp [hsl2])] at hpp
      have := hpp.map psP
      rw [hss] at this
      exact this
    · have hds : d'.size = os.length := by rw [hp.1]; simp [hsl2]
      unfold SortedP
      rw [List.pairwise_map, List.pairwise_iff_getElem]
      intro i j hi hj hij
      simp only [Array.length_toList] at hi hj
      have h3 := hso i j (by omega) hij (by omega)
      rw [getElem!_pos d' i hi, getElem!_pos d' j hj] at h3
      unfold Go.Proofs.ltOf cfPS at h3
      have h4 : ¬ cmpN d'[j].1 d'[i].1 < 0 := by simpa using h3
      exact h4
    · have hds : d'.size = os.length := by rw [hp.1]; simp [hsl2]
      obtain ⟨cur', hg', hs'⟩ := sortWorld_block (enc := encPS) (k := 4) (m := n) (dk := d') (os := os') hg
      have hH' := Go.Proofs.holdsK_sortWorldK_c encPS 4 w g 0 ss.toArray d' n os' hH hgl (by rw [hds]; simp [hsl2])
      rw [hw]
      have hlm : (d'.toList.map psP).length = os.length := by simp [hds]
      rw [hlm]
      refine owns_cells hg' hb hn hm (by rw [hs', hs]) (by rw [flat_len encPl_len, hlm]) (fun j hj => ?_)
      have hd : j / 4 < d'.size := by omega
      have h6 := hH'.cell (i := j / 4) (c := j % 4) hd (by omega)
      rw [show 0 + j / 4 * 4 + j % 4 = j by omega] at h6
      rw [h6.1]
      have e1 : (flat encPl (d'.toList.map psP))[j / 4 * 4 + j % 4]? = (encPl (psP d'[j / 4]!))[j % 4]? := flat_get encPl_len _ _ _ _ (by rw [List.getElem?_map, Array.getElem?_toList, Array.getElem?_eq_getElem hd, getElem!_pos d' _ hd]; rfl) (by omega)
      rw [show j / 4 * 4 + j % 4 = j by omega] at e1
      rw [e1]
      show some (encPS d'[j / 4]!)[j % 4]! = (encPS d'[j / 4]!)[j % 4]?
      rw [List.getElem?_eq_getElem (show j % 4 < (encPS d'[j / 4]!).length by show j % 4 < 4; omega), getElem!_pos _ (j % 4) (show j % 4 < (encPS d'[j / 4]!).length by show j % 4 < 4; omega)]
    · rw [hw]
      exact sortWorld_grown
end Go.Proofs.Ytbknmgobmnjphaa
namespace Go.Proofs.Ytbknmgobmnjphaa
open Go.RowKit

set_option linter.unusedSimpArgs false

abbrev putL3 (W : World) (g : Nat) (x : LnD) (v : Value) : World := ((W.setCell ⟨g, 0, none⟩ (.bool x.thing)).setCell ⟨g, 1, none⟩ (.int .i64 x.to)).setCell ⟨g, 2, none⟩ v

theorem finL3 {W : World} {B0 : Nat} {c0 c1 c2 : Value} (x : LnD) (v : Value) (hr : W.heap[B0]? = some (.cells #[c0, c1, c2] 67)) :
    (putL3 W B0 x v).heap[B0]? = some (.cells (lnC x v) 67) := by
  have k1 := heap_setCell_same _ _ 0 _ _ (.bool x.thing) hr
  have k2 := heap_setCell_same _ _ 1 _ _ (.int .i64 x.to) k1
  have k3 := heap_setCell_same _ _ 2 _ _ v k2
  simp only [List.setIfInBounds_toArray, List.set_cons_zero, List.set_cons_succ] at k3
  unfold putL3 lnC
  exact k3

theorem grownL3 (W : World) (g : Nat) (x : LnD) (v : Value) : W.grownBy (putL3 W g x v) (some g) :=
  grown_trans (grown_trans (grown_set W g _ _) (grown_set _ g _ _)) (grown_set _ g _ _)

end Go.Proofs.Ytbknmgobmnjphaa
