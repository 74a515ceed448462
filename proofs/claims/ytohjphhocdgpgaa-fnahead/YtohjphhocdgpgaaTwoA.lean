/-
  Two records under way while they are drawn: spec.l04Two.
-/
import Derived.Test.YtohjphhocdgpgaaDrawCopyB
import Derived.Laws.Tables
namespace Go.Proofs.Ytohjphhocdgpgaa
open Go.RowKit

set_option linter.unusedSimpArgs false

theorem grown_row (W : World) (g : Nat) (cs : Array Value) : W.grownBy (W.setRow g cs) (some g) := ⟨rfl, rfl, rfl, by simp, fun k _ hk => setRow_other W g k cs (fun e => hk (by rw [e]))⟩

theorem recC_one (x : RecD) {v : Value} (hv : v.oneCell' = true) : (recC x v).all (·.oneCell') = true := by
  simp [recC, hv]
  simp [Value.oneCell']

theorem owns_one {W : World} {base n : Nat} {v : Value} {xs : List Value} (h : W.ownsRow base 67 2 v n xs) : v.oneCell' = true := by
  obtain ⟨a, c, rfl⟩ := owns_lenS h
  rfl

theorem kept_ne {W W' : World} {base n k : Nat} {v : Value} {xs : List Value} (h : W.ownsRow base 67 2 v n xs) (hg : W.grownBy W' (some k)) (hk : v.ownBlock ≠ some k) : W'.ownsRow base 67 2 v n xs := h.kept hg (.inr hk)

/-- cursor in block p, boxes in za and zb, results in B and B + 1 -/
structure TwoSt (w W : World) (p B za zb : Nat) (a : Option Addr) (len cap : Nat) (va vb : Value) (x y : RecD) : Prop where
  cur : Cur W p a len cap
  low : w.heap.size ≤ B
  hB : B + 1 < p
  hza : p < za
  hzb : za < zb
  bel : Below w.heap.size w W
  boxa : W.heap[za]? = some (.cells (recC x va) 26)
  boxb : W.heap[zb]? = some (.cells (recC y vb) 26)
  r0 : W.heap[B]? = some (.cells zeroC 26)
  r1 : W.heap[B + 1]? = some (.cells zeroC 26)
  owna : W.ownsRow (p + 1) 67 2 va x.near.length (flat nrE x.near)
  ownb : W.ownsRow (p + 1) 67 2 vb y.near.length (flat nrE y.near)
  sep : va.ownBlock = none ∨ va.ownBlock ≠ vb.ownBlock

/-- the first result has been written -/
structure Two9 (w W : World) (p B za zb : Nat) (va vb : Value) (x y : RecD) : Prop where
  low : w.heap.size ≤ B
  hB : B + 1 < p
  hza : p < za
  hzb : za < zb
  bel : Below w.heap.size w W
  boxb : W.heap[zb]? = some (.cells (recC y vb) 26)
  r0 : W.heap[B]? = some (.cells (recC x va) 26)
  r1 : W.heap[B + 1]? = some (.cells zeroC 26)
  owna : W.ownsRow (p + 1) 67 2 va x.near.length (flat nrE x.near)
  ownb : W.ownsRow (p + 1) 67 2 vb y.near.length (flat nrE y.near)

/-- both -/
structure TwoF (w W : World) (p B : Nat) (va vb : Value) (x y : RecD) : Prop where
  bel : Below w.heap.size w W
  r0 : W.heap[B]? = some (.cells (recC x va) 26)
  r1 : W.heap[B + 1]? = some (.cells (recC y vb) 26)
  owna : W.ownsRow (p + 1) 67 2 va x.near.length (flat nrE x.near)
  ownb : W.ownsRow (p + 1) 67 2 vb y.near.length (flat nrE y.near)

section
variable {w W W' : World} {p B za zb : Nat} {a : Option Addr} {len cap : Nat} {va vb : Value} {x y : RecD}

theorem TwoSt.va1 (h : TwoSt w W p B za zb a len cap va vb x y) : va.oneCell' = true := owns_one h.owna
theorem TwoSt.vb1 (h : TwoSt w W p B za zb a len cap va vb x y) : vb.oneCell' = true := owns_one h.ownb
theorem Two9.vb1 (h : Two9 w W p B za zb va vb x y) : vb.oneCell' = true := owns_one h.ownb

theorem TwoSt.grown (h : TwoSt w W p B za zb a len cap va vb x y) (hc : Cur W' p a len cap) (hg : W.grownBy W' (some p)) : TwoSt w W' p B za zb a len cap va vb x y :=
  have := h.hB
  have := h.hza
  have := h.hzb
  { h with
    cur := hc
    bel := h.bel.grown hg h.bel.size (fun k hk => by have := h.low; simp at hk; omega)
    boxa := by rw [hg.block za (lt_of_heap h.boxa) (by simp; omega)]; exact h.boxa
    boxb := by rw [hg.block zb (lt_of_heap h.boxb) (by simp; omega)]; exact h.boxb
    r0 := by rw [hg.block B (lt_of_heap h.r0) (by simp; omega)]; exact h.r0
    r1 := by rw [hg.block (B + 1) (lt_of_heap h.r1) (by simp; omega)]; exact h.r1
    owna := kept_ne h.owna hg (fun e => by have := (h.owna.lt p e).1; omega)
    ownb := kept_ne h.ownb hg (fun e => by have := (h.ownb.lt p e).1; omega) }

theorem TwoSt.put0 (h : TwoSt w W p B za zb a len cap va vb x y) : Two9 w (W.setRow B (recC x va)) p B za zb va vb x y :=
  have := h.hB
  have := h.hza
  have := h.hzb
  have hg := grown_row W B (recC x va)
  { low := h.low, hB := h.hB, hza := h.hza, hzb := h.hzb
    bel := h.bel.grown hg h.bel.size (fun k hk => by have := h.low; simp at hk; omega)
    boxb := by rw [hg.block zb (lt_of_heap h.boxb) (by simp; omega)]; exact h.boxb
    r0 := setRow_heap _ _ _ _ _ _ h.r0
    r1 := by rw [hg.block (B + 1) (lt_of_heap h.r1) (by simp)]; exact h.r1
    owna := kept_ne h.owna hg (fun e => by have := (h.owna.lt B e).1; omega)
    ownb := kept_ne h.ownb hg (fun e => by have := (h.ownb.lt B e).1; omega) }

theorem Two9.put1 (h : Two9 w W p B za zb va vb x y) : TwoF w (W.setRow (B + 1) (recC y vb)) p B va vb x y :=
  have := h.hB
  have := h.hza
  have := h.hzb
  have hg := grown_row W (B + 1) (recC y vb)
  { bel := h.bel.grown hg h.bel.size (fun k hk => by have := h.low; simp at hk; omega)
    r0 := by rw [hg.block B (lt_of_heap h.r0) (by simp)]; exact h.r0
    r1 := setRow_heap _ _ _ _ _ _ h.r1
    owna := kept_ne h.owna hg (fun e => by have := (h.owna.lt (B + 1) e).1; omega)
    ownb := kept_ne h.ownb hg (fun e => by have := (h.ownb.lt (B + 1) e).1; omega) }

theorem TwoSt.setSeq (h : TwoSt w W p B za zb a len cap va vb x y) (q : Int) : TwoSt w (W.setCell ⟨zb, 4, none⟩ (.int .i64 q)) p B za zb a len cap va vb x { y with seq := q } :=
  have := h.hB
  have := h.hza
  have := h.hzb
  have hg := grown_set W zb 4 (.int .i64 q)
  { low := h.low, hB := h.hB, hza := h.hza, hzb := h.hzb, sep := h.sep
    cur := h.cur.grown hg (fun b hb => by simp; omega)
    bel := h.bel.grown hg h.bel.size (fun k hk => by have := h.low; simp at hk; omega)
    boxa := by rw [hg.block za (lt_of_heap h.boxa) (by simp; omega)]; exact h.boxa
    boxb := heap_setCell_same _ _ 4 _ _ _ h.boxb
    r0 := by rw [hg.block B (lt_of_heap h.r0) (by simp; omega)]; exact h.r0
    r1 := by rw [hg.block (B + 1) (lt_of_heap h.r1) (by simp; omega)]; exact h.r1
    owna := kept_ne h.owna hg (fun e => row_ne_box h.owna h.boxb e.symm)
    ownb := kept_ne h.ownb hg (fun e => row_ne_box h.ownb h.boxb e.symm) }
end

def ops9 : Array Oper := #[{ dst := some 35, op := Go.Op.load 26 (Go.Operand.tmp 5), type := 26, pos := "l04_record.go:203", after := #[], guard := none }, { dst := some 36, op := Go.Op.load 26 (Go.Operand.tmp 6), type := 26, pos := "l04_record.go:203", after := #[{ on := 2, ground := Go.Ground.gcOnly Go.Departure.lateStores }], guard := none }, { dst := none, op := Go.Op.store 26 (Go.Operand.tmp 2) (Go.Operand.tmp 35), type := 0, pos := "l04_record.go:203", after := #[{ on := 0, ground := Go.Ground.data }, { on := 0, ground := Go.Ground.phase }, { on := 1, ground := Go.Ground.textOnly Go.Departure.lateStores }], guard := none }, { dst := none, op := Go.Op.store 26 (Go.Operand.tmp 3) (Go.Operand.tmp 36), type := 0, pos := "l04_record.go:203", after := #[{ on := 1, ground := Go.Ground.data }, { on := 2, ground := Go.Ground.chain }, { on := 0, ground := Go.Ground.phase }, { on := 1, ground := Go.Ground.phase }, { on := 2, ground := Go.Ground.phase }], guard := none }]
def ops6 : Array Oper := #[{ dst := some 17, op := Go.Op.fieldAddr 26 (Go.Operand.tmp 6) 4, type := 0, pos := "l04_record.go:198", after := #[], guard := none }, { dst := some 18, op := Go.Op.load 3 (Go.Operand.tmp 17), type := 3, pos := "l04_record.go:198", after := #[{ on := 0, ground := Go.Ground.data }], guard := none }, { dst := some 19, op := Go.Op.move (Go.Operand.tmp 4), type := 63, pos := "l04_record.go:198", after := #[], guard := none }, { dst := some 20, op := Go.Op.call { callee := Go.Callee.value (Go.Operand.func 80), args := #[Go.Operand.tmp 19, Go.Operand.const (Go.Value.int Go.IntKind.i64 2)], argTypes := #[63, 3] }, type := 3, pos := "l04_record.go:198", after := #[{ on := 2, ground := Go.Ground.data }], guard := none }, { dst := some 21, op := Go.Op.binOp Go.BinOp.add 3 (Go.Operand.tmp 18) (Go.Operand.tmp 20) 3, type := 3, pos := "l04_record.go:198", after := #[{ on := 1, ground := Go.Ground.data }, { on := 3, ground := Go.Ground.data }], guard := none }, { dst := some 22, op := Go.Op.fieldAddr 26 (Go.Operand.tmp 6) 4, type := 0, pos := "l04_record.go:198", after := #[{ on := 0, ground := Go.Ground.phase }, { on := 1, ground := Go.Ground.phase }, { on := 2, ground := Go.Ground.phase }, { on := 3, ground := Go.Ground.phase }, { on := 4, ground := Go.Ground.phase }], guard := none }, { dst := none, op := Go.Op.store 3 (Go.Operand.tmp 22) (Go.Operand.tmp 21), type := 0, pos := "l04_record.go:198", after := #[{ on := 5, ground := Go.Ground.data }, { on := 4, ground := Go.Ground.data }, { on := 3, ground := Go.Ground.chain }, { on := 0, ground := Go.Ground.phase }, { on := 1, ground := Go.Ground.phase }, { on := 2, ground := Go.Ground.phase }, { on := 3, ground := Go.Ground.phase }, { on := 4, ground := Go.Ground.phase }], guard := none }]

set_option maxRecDepth 100000 in
set_option maxHeartbeats 1000000 in
theorem two9_dag (t0 t1 t7 t8 t9 t10 t11 t12 t13 t14 t15 t16 t17 t18 t19 t20 t21 t22 t23 t24 t25 t26 t27 t28 t29 t30 t31 t32 t33 t34 t35 t36 : Value) (w W0 : World) (p B za zb : Nat) (a : Option Addr) (len cap : Nat) (va vb : Value) (x y : RecD) (Q : Exit → Act → World → Prop) (ops : Array Oper) (hops : Hid (ops = ops9))
    (st0 : TwoSt w W0 p B za zb a len cap va vb x y)
    (hend : ∀ (W : World), TwoF w W p B va vb x y → Q .normal { tmps := #[t0, t1, .pointer (some ⟨B, 0, none⟩), .pointer (some ⟨B + 1, 0, none⟩), .pointer (some ⟨p, 0, none⟩), .pointer (some ⟨za, 0, none⟩), .pointer (some ⟨zb, 0, none⟩), t7, t8, t9, t10, t11, t12, t13, t14, t15, t16, t17, t18, t19, t20, t21, t22, t23, t24, t25, t26, t27, t28, t29, t30, t31, t32, t33, t34, .agg (recC x va), .agg (recC y vb)], defers := [] } W) :
    wpAnyH Try.prog .any ops Q (fun _ => True) 4 (Array.replicate 4 false) { tmps := #[t0, t1, .pointer (some ⟨B, 0, none⟩), .pointer (some ⟨B + 1, 0, none⟩), .pointer (some ⟨p, 0, none⟩), .pointer (some ⟨za, 0, none⟩), .pointer (some ⟨zb, 0, none⟩), t7, t8, t9, t10, t11, t12, t13, t14, t15, t16, t17, t18, t19, t20, t21, t22, t23, t24, t25, t26, t27, t28, t29, t30, t31, t32, t33, t34, t35, t36], defers := [] } W0 := by
  have h111 : ∀ W, Two9 w W p B za zb va vb x y → wpAnyH Try.prog .any ops Q (fun _ => True) 1 #[true, true, true, false] { tmps := #[t0, t1, .pointer (some ⟨B, 0, none⟩), .pointer (some ⟨B + 1, 0, none⟩), .pointer (some ⟨p, 0, none⟩), .pointer (some ⟨za, 0, none⟩), .pointer (some ⟨zb, 0, none⟩), t7, t8, t9, t10, t11, t12, t13, t14, t15, t16, t17, t18, t19, t20, t21, t22, t23, t24, t25, t26, t27, t28, t29, t30, t31, t32, t33, t34, .agg (recC x va), .agg (recC y vb)], defers := [] } W := by
    intro W st
    refine wpAnyH_ready (rs := [3]) (by rw [hops.out]; kernel_rfl) (by simp) ?_
    refine AllReadyH.cons (o := ?_) ?_ (fun K hK => ?_) ?_
    rotate_left 1
    · rw [hops.out]; unfold ops9; simp only [List.getElem?_toArray, List.getElem?_cons_succ, List.getElem?_cons_zero]; rfl
    · rw [if_pos (by rfl)]
      refine wp_store_row 26 _ _ rfl _ _ rfl rfl 26 _ st.r1 (by kernel_rfl) rfl (recC_one y st.vb1) ?_
      refine hK.out _ _ trivial (fun _ => ?_)
      refine wpAnyH_done (by rw [hops.out]; kernel_rfl) ?_ _
      exact hend _ st.put1
    exact AllReadyH.nil
  have h101 : ∀ W, Two9 w W p B za zb va vb x y → wpAnyH Try.prog .any ops Q (fun _ => True) 2 #[true, false, true, false] { tmps := #[t0, t1, .pointer (some ⟨B, 0, none⟩), .pointer (some ⟨B + 1, 0, none⟩), .pointer (some ⟨p, 0, none⟩), .pointer (some ⟨za, 0, none⟩), .pointer (some ⟨zb, 0, none⟩), t7, t8, t9, t10, t11, t12, t13, t14, t15, t16, t17, t18, t19, t20, t21, t22, t23, t24, t25, t26, t27, t28, t29, t30, t31, t32, t33, t34, .agg (recC x va), t36], defers := [] } W := by
    intro W st
    refine wpAnyH_ready (rs := [1]) (by rw [hops.out]; kernel_rfl) (by simp) ?_
    refine AllReadyH.cons (o := ?_) ?_ (fun K hK => ?_) ?_
    rotate_left 1
    · rw [hops.out]; unfold ops9; simp only [List.getElem?_toArray, List.getElem?_cons_succ, List.getElem?_cons_zero]; rfl
    · rw [if_pos (by rfl)]
      refine wp_load_row 26 _ rfl _ rfl 26 _ (0, 0) _ st.boxb Try.underlying26 rfl (by kernel_rfl) ?_
      refine hK.out _ _ trivial (fun _ => ?_)
      exact h111 W st
    exact AllReadyH.nil
  have h110 : ∀ W, TwoSt w W p B za zb a len cap va vb x y → wpAnyH Try.prog .any ops Q (fun _ => True) 2 #[true, true, false, false] { tmps := #[t0, t1, .pointer (some ⟨B, 0, none⟩), .pointer (some ⟨B + 1, 0, none⟩), .pointer (some ⟨p, 0, none⟩), .pointer (some ⟨za, 0, none⟩), .pointer (some ⟨zb, 0, none⟩), t7, t8, t9, t10, t11, t12, t13, t14, t15, t16, t17, t18, t19, t20, t21, t22, t23, t24, t25, t26, t27, t28, t29, t30, t31, t32, t33, t34, .agg (recC x va), .agg (recC y vb)], defers := [] } W := by
    intro W st
    refine wpAnyH_ready (rs := [2]) (by rw [hops.out]; kernel_rfl) (by simp) ?_
    refine AllReadyH.cons (o := ?_) ?_ (fun K hK => ?_) ?_
    rotate_left 1
    · rw [hops.out]; unfold ops9; simp only [List.getElem?_toArray, List.getElem?_cons_succ, List.getElem?_cons_zero]; rfl
    · rw [if_pos (by rfl)]
      refine wp_store_row 26 _ _ rfl _ _ rfl rfl 26 _ st.r0 (by kernel_rfl) rfl (recC_one x st.va1) ?_
      refine hK.out _ _ trivial (fun _ => ?_)
      exact h111 _ st.put0
    exact AllReadyH.nil
  have h010 : ∀ W, TwoSt w W p B za zb a len cap va vb x y → wpAnyH Try.prog .any ops Q (fun _ => True) 3 #[false, true, false, false] { tmps := #[t0, t1, .pointer (some ⟨B, 0, none⟩), .pointer (some ⟨B + 1, 0, none⟩), .pointer (some ⟨p, 0, none⟩), .pointer (some ⟨za, 0, none⟩), .pointer (some ⟨zb, 0, none⟩), t7, t8, t9, t10, t11, t12, t13, t14, t15, t16, t17, t18, t19, t20, t21, t22, t23, t24, t25, t26, t27, t28, t29, t30, t31, t32, t33, t34, t35, .agg (recC y vb)], defers := [] } W := by
    intro W st
    refine wpAnyH_ready (rs := [0]) (by rw [hops.out]; kernel_rfl) (by simp) ?_
    refine AllReadyH.cons (o := ?_) ?_ (fun K hK => ?_) ?_
    rotate_left 1
    · rw [hops.out]; unfold ops9; simp only [List.getElem?_toArray, List.getElem?_cons_succ, List.getElem?_cons_zero]; rfl
    · rw [if_pos (by rfl)]
      refine wp_load_row 26 _ rfl _ rfl 26 _ (0, 0) _ st.boxa Try.underlying26 rfl (by kernel_rfl) ?_
      refine hK.out _ _ trivial (fun _ => ?_)
      exact h110 W st
    exact AllReadyH.nil
  have h100 : ∀ W, TwoSt w W p B za zb a len cap va vb x y → wpAnyH Try.prog .any ops Q (fun _ => True) 3 #[true, false, false, false] { tmps := #[t0, t1, .pointer (some ⟨B, 0, none⟩), .pointer (some ⟨B + 1, 0, none⟩), .pointer (some ⟨p, 0, none⟩), .pointer (some ⟨za, 0, none⟩), .pointer (some ⟨zb, 0, none⟩), t7, t8, t9, t10, t11, t12, t13, t14, t15, t16, t17, t18, t19, t20, t21, t22, t23, t24, t25, t26, t27, t28, t29, t30, t31, t32, t33, t34, .agg (recC x va), t36], defers := [] } W := by
    intro W st
    refine wpAnyH_ready (rs := [1, 2]) (by rw [hops.out]; kernel_rfl) (by simp) ?_
    refine AllReadyH.cons (o := ?_) ?_ (fun K hK => ?_) ?_
    rotate_left 1
    · rw [hops.out]; unfold ops9; simp only [List.getElem?_toArray, List.getElem?_cons_succ, List.getElem?_cons_zero]; rfl
    · rw [if_pos (by rfl)]
      refine wp_load_row 26 _ rfl _ rfl 26 _ (0, 0) _ st.boxb Try.underlying26 rfl (by kernel_rfl) ?_
      refine hK.out _ _ trivial (fun _ => ?_)
      exact h110 W st
    refine AllReadyH.cons (o := ?_) ?_ (fun K hK => ?_) ?_
    rotate_left 1
    · rw [hops.out]; unfold ops9; simp only [List.getElem?_toArray, List.getElem?_cons_succ, List.getElem?_cons_zero]; rfl
    · rw [if_pos (by rfl)]
      refine wp_store_row 26 _ _ rfl _ _ rfl rfl 26 _ st.r0 (by kernel_rfl) rfl (recC_one x st.va1) ?_
      refine hK.out _ _ trivial (fun _ => ?_)
      exact h101 _ st.put0
    exact AllReadyH.nil
  have h000 : ∀ W, TwoSt w W p B za zb a len cap va vb x y → wpAnyH Try.prog .any ops Q (fun _ => True) 4 #[false, false, false, false] { tmps := #[t0, t1, .pointer (some ⟨B, 0, none⟩), .pointer (some ⟨B + 1, 0, none⟩), .pointer (some ⟨p, 0, none⟩), .pointer (some ⟨za, 0, none⟩), .pointer (some ⟨zb, 0, none⟩), t7, t8, t9, t10, t11, t12, t13, t14, t15, t16, t17, t18, t19, t20, t21, t22, t23, t24, t25, t26, t27, t28, t29, t30, t31, t32, t33, t34, t35, t36], defers := [] } W := by
    intro W st
    refine wpAnyH_ready (rs := [0, 1]) (by rw [hops.out]; kernel_rfl) (by simp) ?_
    refine AllReadyH.cons (o := ?_) ?_ (fun K hK => ?_) ?_
    rotate_left 1
    · rw [hops.out]; unfold ops9; simp only [List.getElem?_toArray, List.getElem?_cons_succ, List.getElem?_cons_zero]; rfl
    · rw [if_pos (by rfl)]
      refine wp_load_row 26 _ rfl _ rfl 26 _ (0, 0) _ st.boxa Try.underlying26 rfl (by kernel_rfl) ?_
      refine hK.out _ _ trivial (fun _ => ?_)
      exact h100 W st
    refine AllReadyH.cons (o := ?_) ?_ (fun K hK => ?_) ?_
    rotate_left 1
    · rw [hops.out]; unfold ops9; simp only [List.getElem?_toArray, List.getElem?_cons_succ, List.getElem?_cons_zero]; rfl
    · rw [if_pos (by rfl)]
      refine wp_load_row 26 _ rfl _ rfl 26 _ (0, 0) _ st.boxb Try.underlying26 rfl (by kernel_rfl) ?_
      refine hK.out _ _ trivial (fun _ => ?_)
      exact h010 W st
    exact AllReadyH.nil
  show wpAnyH Try.prog .any ops Q (fun _ => True) 4 #[false, false, false, false] _ W0
  exact h000 W0 st0

set_option maxRecDepth 100000 in
set_option maxHeartbeats 1000000 in
theorem two6_dag (t0 t1 t7 t8 t9 t10 t11 t12 t13 t14 t15 t16 t17 t18 t19 t20 t21 t22 t23 t24 t25 t26 t27 t28 t29 t30 t31 t32 t33 t34 t35 t36 : Value) (w W0 : World) (p B za zb : Nat) (a : Option Addr) (len cap : Nat) (va vb : Value) (x y : RecD) (Q : Exit → Act → World → Prop) (ops : Array Oper) (hops : Hid (ops = ops6)) (hpan : ∀ c a1 a2 w, Q (.panic c) a1 w → Q (.panic c) a2 w)
    (st0 : TwoSt w W0 p B za zb a len cap va vb x y)
    (hend : ∀ (W : World) (q : Int), TwoSt w W p B za zb a len cap va vb x { y with seq := IntKind.i64.wrap (y.seq + q) } → Q .normal { tmps := #[t0, t1, .pointer (some ⟨B, 0, none⟩), .pointer (some ⟨B + 1, 0, none⟩), .pointer (some ⟨p, 0, none⟩), .pointer (some ⟨za, 0, none⟩), .pointer (some ⟨zb, 0, none⟩), t7, t8, t9, t10, t11, t12, t13, t14, t15, t16, .pointer (some ⟨zb, 4, none⟩), .int .i64 y.seq, .pointer (some ⟨p, 0, none⟩), .int .i64 q, .int .i64 (IntKind.i64.wrap (y.seq + q)), .pointer (some ⟨zb, 4, none⟩), t23, t24, t25, t26, t27, t28, t29, t30, t31, t32, t33, t34, t35, t36], defers := [] } W) :
    wpAnyH Try.prog .any ops Q (fun _ => True) 7 (Array.replicate 7 false) { tmps := #[t0, t1, .pointer (some ⟨B, 0, none⟩), .pointer (some ⟨B + 1, 0, none⟩), .pointer (some ⟨p, 0, none⟩), .pointer (some ⟨za, 0, none⟩), .pointer (some ⟨zb, 0, none⟩), t7, t8, t9, t10, t11, t12, t13, t14, t15, t16, t17, t18, t19, t20, t21, t22, t23, t24, t25, t26, t27, t28, t29, t30, t31, t32, t33, t34, t35, t36], defers := [] } W0 := by
  have h11 : ∀ W (q : Int), TwoSt w W p B za zb a len cap va vb x y → wpAnyH Try.prog .any ops Q (fun _ => True) 3 #[true, true, true, true, false, false, false] { tmps := #[t0, t1, .pointer (some ⟨B, 0, none⟩), .pointer (some ⟨B + 1, 0, none⟩), .pointer (some ⟨p, 0, none⟩), .pointer (some ⟨za, 0, none⟩), .pointer (some ⟨zb, 0, none⟩), t7, t8, t9, t10, t11, t12, t13, t14, t15, t16, .pointer (some ⟨zb, 4, none⟩), .int .i64 y.seq, .pointer (some ⟨p, 0, none⟩), .int .i64 q, t21, t22, t23, t24, t25, t26, t27, t28, t29, t30, t31, t32, t33, t34, t35, t36], defers := [] } W := by
    intro W q st
    refine take_do 4 (oi := ?_) (v := ?_) ?_ (by rw [hops.out]; kernel_rfl) ?_ ?_ ?_ trivial ?_
    rotate_left 2
    · rw [hops.out]; unfold ops6; simp only [List.getElem?_toArray, List.getElem?_cons_succ, List.getElem?_cons_zero]; rfl
    · rw [hops.out]; kernel_rfl
    · intro W _; go_simp <;> with_reducible rfl
    · exact fun c _ w h => hpan c _ _ w h
    try simp only [Act.put, List.setIfInBounds_toArray, List.set_cons_zero, List.set_cons_succ]
    refine take_do 5 (oi := ?_) (v := ?_) ?_ (by rw [hops.out]; kernel_rfl) ?_ ?_ ?_ trivial ?_
    rotate_left 2
    · rw [hops.out]; unfold ops6; simp only [List.getElem?_toArray, List.getElem?_cons_succ, List.getElem?_cons_zero]; rfl
    · rw [hops.out]; kernel_rfl
    · intro W _; go_simp <;> with_reducible rfl
    · exact fun c _ w h => hpan c _ _ w h
    try simp only [Act.put, List.setIfInBounds_toArray, List.set_cons_zero, List.set_cons_succ]
    refine wpAnyH_ready (rs := [6]) (by rw [hops.out]; kernel_rfl) (by simp) ?_
    refine AllReadyH.cons (o := ?_) ?_ (fun K hK => ?_) ?_
    rotate_left 1
    · rw [hops.out]; unfold ops6; simp only [List.getElem?_toArray, List.getElem?_cons_succ, List.getElem?_cons_zero]; rfl
    · rw [if_pos (by rfl)]
      have c5 := cells_at st.boxb 4
      simp only [recC] at c5
      have c6 : W.cell? ⟨zb, 4, none⟩ = some (.int .i64 y.seq) := c5
      have f6 := frozen_at st.boxb 4
      clear c5
      go_simp
      refine hK.out _ _ trivial (fun _ => ?_)
      refine wpAnyH_done (by rw [hops.out]; kernel_rfl) ?_ _
      exact hend _ q (st.setSeq _)
    exact AllReadyH.nil
  have h01 : ∀ W (q : Int), TwoSt w W p B za zb a len cap va vb x y → wpAnyH Try.prog .any ops Q (fun _ => True) 4 #[true, false, true, true, false, false, false] { tmps := #[t0, t1, .pointer (some ⟨B, 0, none⟩), .pointer (some ⟨B + 1, 0, none⟩), .pointer (some ⟨p, 0, none⟩), .pointer (some ⟨za, 0, none⟩), .pointer (some ⟨zb, 0, none⟩), t7, t8, t9, t10, t11, t12, t13, t14, t15, t16, .pointer (some ⟨zb, 4, none⟩), t18, .pointer (some ⟨p, 0, none⟩), .int .i64 q, t21, t22, t23, t24, t25, t26, t27, t28, t29, t30, t31, t32, t33, t34, t35, t36], defers := [] } W := by
    intro W q st
    refine wpAnyH_ready (rs := [1]) (by rw [hops.out]; kernel_rfl) (by simp) ?_
    refine AllReadyH.cons (o := ?_) ?_ (fun K hK => ?_) ?_
    rotate_left 1
    · rw [hops.out]; unfold ops6; simp only [List.getElem?_toArray, List.getElem?_cons_succ, List.getElem?_cons_zero]; rfl
    · rw [if_pos (by rfl)]
      have c5 := cells_at st.boxb 4
      simp only [recC] at c5
      have c6 : W.cell? ⟨zb, 4, none⟩ = some (.int .i64 y.seq) := c5
      clear c5
      go_simp
      refine hK.out _ _ trivial (fun _ => ?_)
      exact h11 W q st
    exact AllReadyH.nil
  have h10 : ∀ W, TwoSt w W p B za zb a len cap va vb x y → wpAnyH Try.prog .any ops Q (fun _ => True) 4 #[true, true, true, false, false, false, false] { tmps := #[t0, t1, .pointer (some ⟨B, 0, none⟩), .pointer (some ⟨B + 1, 0, none⟩), .pointer (some ⟨p, 0, none⟩), .pointer (some ⟨za, 0, none⟩), .pointer (some ⟨zb, 0, none⟩), t7, t8, t9, t10, t11, t12, t13, t14, t15, t16, .pointer (some ⟨zb, 4, none⟩), .int .i64 y.seq, .pointer (some ⟨p, 0, none⟩), t20, t21, t22, t23, t24, t25, t26, t27, t28, t29, t30, t31, t32, t33, t34, t35, t36], defers := [] } W := by
    intro W st
    refine wpAnyH_ready (rs := [3]) (by rw [hops.out]; kernel_rfl) (by simp) ?_
    refine AllReadyH.cons (o := ?_) ?_ (fun K hK => ?_) ?_
    rotate_left 1
    · rw [hops.out]; unfold ops6; simp only [List.getElem?_toArray, List.getElem?_cons_succ, List.getElem?_cons_zero]; rfl
    · rw [if_pos (by rfl)]
      go_simp
      refine (below_any p a len cap 2 _ st.cur (by omega) (by omega)).mono ?_
      rintro e w2 ⟨q, rfl, _, _, hc, hg⟩
      refine hK.out _ _ trivial (fun _ => ?_)
      exact h11 w2 q (st.grown hc hg)
    exact AllReadyH.nil
  have h00 : ∀ W, TwoSt w W p B za zb a len cap va vb x y → wpAnyH Try.prog .any ops Q (fun _ => True) 5 #[true, false, true, false, false, false, false] { tmps := #[t0, t1, .pointer (some ⟨B, 0, none⟩), .pointer (some ⟨B + 1, 0, none⟩), .pointer (some ⟨p, 0, none⟩), .pointer (some ⟨za, 0, none⟩), .pointer (some ⟨zb, 0, none⟩), t7, t8, t9, t10, t11, t12, t13, t14, t15, t16, .pointer (some ⟨zb, 4, none⟩), t18, .pointer (some ⟨p, 0, none⟩), t20, t21, t22, t23, t24, t25, t26, t27, t28, t29, t30, t31, t32, t33, t34, t35, t36], defers := [] } W := by
    intro W st
    refine wpAnyH_ready (rs := [1, 3]) (by rw [hops.out]; kernel_rfl) (by simp) ?_
    refine AllReadyH.cons (o := ?_) ?_ (fun K hK => ?_) ?_
    rotate_left 1
    · rw [hops.out]; unfold ops6; simp only [List.getElem?_toArray, List.getElem?_cons_succ, List.getElem?_cons_zero]; rfl
    · rw [if_pos (by rfl)]
      have c5 := cells_at st.boxb 4
      simp only [recC] at c5
      have c6 : W.cell? ⟨zb, 4, none⟩ = some (.int .i64 y.seq) := c5
      clear c5
      go_simp
      refine hK.out _ _ trivial (fun _ => ?_)
      exact h10 W st
    refine AllReadyH.cons (o := ?_) ?_ (fun K hK => ?_) ?_
    rotate_left 1
    · rw [hops.out]; unfold ops6; simp only [List.getElem?_toArray, List.getElem?_cons_succ, List.getElem?_cons_zero]; rfl
    · rw [if_pos (by rfl)]
      go_simp
      refine (below_any p a len cap 2 _ st.cur (by omega) (by omega)).mono ?_
      rintro e w2 ⟨q, rfl, _, _, hc, hg⟩
      refine hK.out _ _ trivial (fun _ => ?_)
      exact h01 w2 q (st.grown hc hg)
    exact AllReadyH.nil
  show wpAnyH Try.prog .any ops Q (fun _ => True) 7 #[false, false, false, false, false, false, false] _ W0
  refine take_do 0 (oi := ?_) (v := ?_) ?_ (by rw [hops.out]; kernel_rfl) ?_ ?_ ?_ trivial ?_
  rotate_left 2
  · rw [hops.out]; unfold ops6; simp only [List.getElem?_toArray, List.getElem?_cons_succ, List.getElem?_cons_zero]; rfl
  · rw [hops.out]; kernel_rfl
  · intro W _; go_simp <;> with_reducible rfl
  · exact fun c _ w h => hpan c _ _ w h
  try simp only [Act.put, List.setIfInBounds_toArray, List.set_cons_zero, List.set_cons_succ]
  refine take_do 2 (oi := ?_) (v := ?_) ?_ (by rw [hops.out]; kernel_rfl) ?_ ?_ ?_ trivial ?_
  rotate_left 2
  · rw [hops.out]; unfold ops6; simp only [List.getElem?_toArray, List.getElem?_cons_succ, List.getElem?_cons_zero]; rfl
  · rw [hops.out]; kernel_rfl
  · intro W _; go_simp <;> with_reducible rfl
  · exact fun c _ w h => hpan c _ _ w h
  try simp only [Act.put, List.setIfInBounds_toArray, List.set_cons_zero, List.set_cons_succ]
  exact h00 W0 st0
end Go.Proofs.Ytohjphhocdgpgaa
