/-
  spec.l04Copy, impl.ownRecord: a record with a row of its own.
-/
import Derived.Test.YtnfockhbcneegaaRowsL
import Derived.Laws.AppendOwnNone
namespace Go.Proofs.Ytnfockhbcneegaa
open Go.RowKit

set_option linter.unusedSimpArgs false

theorem nrE_one5 (a : Nr) : ∀ u ∈ nrE a, u.oneCell' = true := by
  intro u hu
  simp [nrE] at hu
  rcases hu with rfl | rfl <;> rfl

/-- 'append(out, xs...)' of a row of structs, both the caller's own -/
theorem append_row5 {α : Type} {enc : α → List Value} {sz bytes : Nat} (hlen : ∀ l : List α, (flat enc l).length = l.length * sz) (hpos : 0 < sz) (hone : ∀ a, ∀ u ∈ enc a, u.oneCell' = true) (hbb : bytes ≤ 100) {P : Program} (w : World) {ops : Array Oper} {rest : List Oper} {o : Oper} {a : Act} {Q : Exit → Act → World → Prop} (hgd : o.guard = none) (s x : Operand) (t : TypeId)
    (ho : o.op = .call { callee := .builtin .append, args := #[s, x], argTypes := #[t, t] }) (base : Nat) (e : TypeId) (ht : P.underlying t = some (.slice e)) (zv : Value) (hzv : zv.cells.size = sz)
    (hinfo : (P.info? e).map (fun i => (i.zero, i.size, i.bytes)) = some (some zv, sz, bytes))
    (v : Value) (l : List α) (hs : a.eval s = v) (hown : w.ownsRow base e sz v l.length (flat enc l))
    (base2 : Nat) (v2 : Value) (l2 : List α) (hx : a.eval x = v2) (hown2 : w.ownsRow base2 e sz v2 l2.length (flat enc l2))
    (hl : l.length + l2.length ≤ 1000000000) (hbase : base ≤ w.heap.size)
    (h : ∀ v' w', w'.ownsRow base e sz v' (l ++ l2).length (flat enc (l ++ l2)) → w.grownBy w' v.ownBlock → wpList P ops Q rest (a.put o.dst v') w') : wpList P ops Q (o :: rest) a w := by
  obtain ⟨i0, hi, hz0, hz1, hz2⟩ := info_parts hinfo
  rcases hown2.2 with ⟨e1, e2⟩ | ⟨g, cap, cur, e1, _⟩
  · have e3 : l2 = [] := List.eq_nil_of_length_eq_zero e2
    subst e3
    refine wpList_append_own_none hgd s x t ho base e i0 sz ht hi v l.length (flat enc l) hs hown (hx.trans e1) ?_
    exact h v w (by simpa using hown) (grown_refl w _)
  · refine wpList_append_own w hgd s x t ho base e i0 zv sz bytes ht hi hz0 hz1 hz2 hzv hpos v l.length (flat enc l) hs hown ⟨g, 0, none⟩ l2.length cap (flat enc l2) (hx.trans e1) (hlen l2) (hown2.cells (by rw [e1]; rfl)) ?_ (by unfold maxLen; omega) ?_ hbase ?_
    · intro u hu
      simp only [flat, List.mem_flatMap] at hu
      obtain ⟨b, _, hb⟩ := hu
      exact hone b u hb
    · have : (l.length + l2.length) * bytes ≤ 1000000000 * 100 := Nat.mul_le_mul hl hbb
      omega
    · intro v' w' h1 h2 _
      have e1 : flat enc l ++ flat enc l2 = flat enc (l ++ l2) := by rw [flat_append]
      rw [e1] at h1
      exact h v' w' (by simpa using h1) h2

abbrev putR5 (W : World) (g : Nat) (x : RecD) (v : Value) : World := (((((((W.setCell ⟨g, 0, none⟩ (.int .i64 x.area)).setCell ⟨g, 1, none⟩ (.int .i64 x.kind)).setCell ⟨g, 2, none⟩ (.int .i64 x.owner)).setCell ⟨g, 3, none⟩ (.int .i64 x.key)).setCell ⟨g, 4, none⟩ (.int .i64 x.seq)).setCell ⟨g, 5, none⟩ v).setCell ⟨g, 6, none⟩ (.int .i64 x.cost)).setCell ⟨g, 7, none⟩ (.bool x.far)

set_option maxHeartbeats 1000000 in
theorem fin85 {W : World} {B0 : Nat} {c0 c1 c2 c3 c4 c5 c6 c7 : Value} (x : RecD) (v : Value) (hr : W.heap[B0]? = some (.cells #[c0, c1, c2, c3, c4, c5, c6, c7] 50)) :
    (putR5 W B0 x v).heap[B0]? = some (.cells (recC x v) 50) := by
  have k1 := heap_setCell_same _ _ 0 _ _ (.int .i64 x.area) hr
  have k2 := heap_setCell_same _ _ 1 _ _ (.int .i64 x.kind) k1
  have k3 := heap_setCell_same _ _ 2 _ _ (.int .i64 x.owner) k2
  have k4 := heap_setCell_same _ _ 3 _ _ (.int .i64 x.key) k3
  have k5 := heap_setCell_same _ _ 4 _ _ (.int .i64 x.seq) k4
  have k6 := heap_setCell_same _ _ 5 _ _ v k5
  have k7 := heap_setCell_same _ _ 6 _ _ (.int .i64 x.cost) k6
  have k8 := heap_setCell_same _ _ 7 _ _ (.bool x.far) k7
  simp only [List.setIfInBounds_toArray, List.set_cons_zero, List.set_cons_succ] at k8
  unfold putR5 recC
  exact k8

theorem grown85 (W : World) (g : Nat) (x : RecD) (v : Value) : W.grownBy (putR5 W g x v) (some g) :=
  grown_trans (grown_trans (grown_trans (grown_trans (grown_trans (grown_trans (grown_trans (grown_set W g _ _) (grown_set _ g _ _)) (grown_set _ g _ _)) (grown_set _ g _ _)) (grown_set _ g _ _)) (grown_set _ g _ _)) (grown_set _ g _ _)) (grown_set _ g _ _)

theorem nr_flat5 (l : List Nr) : (flat nrE l).length = l.length * 2 := flat_len nrE_len l

theorem own_lit05 (W : World) (g base : Nat) (hg : g = W.heap.size) (hb : base ≤ W.heap.size) : (W.alloc (.cells #[] 75)).ownsRow base 75 2 (.slice (some ⟨g, 0, none⟩) 0 0) 0 (flat nrE []) := by
  subst hg
  exact World.ownsRow_lit W #[] 0 hb (by unfold maxLen; omega) (by simp)

set_option maxRecDepth 100000 in
set_option maxHeartbeats 1000000 in
theorem copy5_any (x : RecD) (v : Value) (base : Nat) (w : World) (ho : w.ownsRow base 75 2 v x.near.length (flat nrE x.near)) (hn : x.near.length ≤ 1048576) :
    Calls Try.prog 26 #[.agg (recC x v)] w fun e w' => ∃ v', e = .returned (.agg (recC x v')) ∧ w'.ownsRow w.heap.size 75 2 v' x.near.length (flat nrE x.near) ∧ Below w.heap.size w w' := by
  obtain ⟨va, vc, rfl⟩ := owns_lenS ho
  have OW := hide ho
  clear ho
  go_enter Try.func26, Try.ntmps26
  unfold recC
  go_wp2_with (first
    | (at_builtin; refine append_row5 nr_flat5 (by omega) nrE_one5 (by omega) _ rfl _ _ 48 rfl (w.heap.size + 2) 75 Try.underlying48 (nrV nr0) rfl Try.infoNr _ [] rfl ?own0 base _ x.near rfl (((OW.out.alloc _).alloc _).alloc _) (by simp; omega) (by simp) ?_))
  case own0 =>
    exact own_lit05 _ _ _ (by simp) (by simp)
  intro v' w4 hown' hgrow
  obtain ⟨na, nc, rfl⟩ := owns_lenS hown'
  simp only [Value.ownBlock] at hgrow
  have hb4 : Below w.heap.size w w4 := ((((Below.refl w.heap.size w).alloc (by simp) _).alloc (by simp) _).alloc (by simp; omega) _).grown hgrow (by simp; omega) (fun k hk => by simp at hk; omega)
  have q0 : w4.heap[w.heap.size]? = some (.cells #[.int .i64 x.area, .int .i64 x.kind, .int .i64 x.owner, .int .i64 x.key, .int .i64 x.seq, .slice va x.near.length vc, .int .i64 x.cost, .bool x.far] 50) := by
    rw [hgrow.block w.heap.size (by simp; omega) (by simp; omega), Below.heap_alloc _ _ _ (by simp; omega), Below.heap_alloc _ _ _ (by simp), heap_alloc_new]
  have q1 : w4.heap[w.heap.size + 1]? = some (.cells #[.int .i64 0, .int .i64 0, .int .i64 0, .int .i64 0, .int .i64 0, .slice none 0 0, .int .i64 0, .bool false] 50) := by
    rw [hgrow.block (w.heap.size + 1) (by simp) (by simp), Below.heap_alloc _ _ _ (by simp)]
    have e := heap_alloc_new (w.alloc (.cells #[.int .i64 x.area, .int .i64 x.kind, .int .i64 x.owner, .int .i64 x.key, .int .i64 x.seq, .slice va x.near.length vc, .int .i64 x.cost, .bool x.far] 50)) (.cells #[.int .i64 0, .int .i64 0, .int .i64 0, .int .i64 0, .int .i64 0, .slice none 0 0, .int .i64 0, .bool false] 50)
    rw [show (w.alloc (.cells #[.int .i64 x.area, .int .i64 x.kind, .int .i64 x.owner, .int .i64 x.key, .int .i64 x.seq, .slice va x.near.length vc, .int .i64 x.cost, .bool x.far] 50)).heap.size = w.heap.size + 1 by simp] at e
    exact e
  have r5 := cells_at q0 5
  have f0 := frozen_at q0
  simp at r5
  have q2 := heap_setCell_same w4 w.heap.size 5 _ _ (.slice na x.near.length nc) q0
  simp only [List.setIfInBounds_toArray, List.set_cons_zero, List.set_cons_succ] at q2
  have q3 : (w4.setCell ⟨w.heap.size, 5, none⟩ (.slice na x.near.length nc)).heap[w.heap.size + 1]? = some (.cells #[.int .i64 0, .int .i64 0, .int .i64 0, .int .i64 0, .int .i64 0, .slice none 0 0, .int .i64 0, .bool false] 50) := by
    rw [heap_setCell_other w4 ⟨w.heap.size, 5, none⟩ _ _ (by show w.heap.size + 1 ≠ w.heap.size; omega)]; exact q1
  have y0 := cells_at q2 0
  have y1 := cells_at q2 1
  have y2 := cells_at q2 2
  have y3 := cells_at q2 3
  have y4 := cells_at q2 4
  have y5 := cells_at q2 5
  have y6 := cells_at q2 6
  have y7 := cells_at q2 7
  simp at y0 y1 y2 y3 y4 y5 y6 y7
  have u0 := cells_at q3 0
  have u1 := cells_at q3 1
  have u2 := cells_at q3 2
  have u3 := cells_at q3 3
  have u4 := cells_at q3 4
  have u5 := cells_at q3 5
  have u6 := cells_at q3 6
  have u7 := cells_at q3 7
  simp at u0 u1 u2 u3 u4 u5 u6 u7
  have fu := frozen_at q3
  have F := fin85 x (.slice na x.near.length nc) q3
  have hown2 := owns_set (j := 5) (u := .slice na x.near.length nc) hown' (show w.heap.size < w.heap.size + 2 by omega)
  have G8 := grown85 (w4.setCell ⟨w.heap.size, 5, none⟩ (.slice na x.near.length nc)) (w.heap.size + 1) x (.slice na x.near.length nc)
  have hown3 := owns_baseS (b0 := w.heap.size) (hown2.kept G8 (by
    cases hv : (Value.slice na x.near.length nc).ownBlock with
    | none => exact .inl rfl
    | some g => exact .inr (fun e => by have := (hown2.lt g hv).1; simp at e; omega))) (by omega)
  have hb5 : Below w.heap.size w (putR5 (w4.setCell ⟨w.heap.size, 5, none⟩ (.slice na x.near.length nc)) (w.heap.size + 1) x (.slice na x.near.length nc)) := (hb4.setCell (p := ⟨w.heap.size, 5, none⟩) (Nat.le_refl _) _).grown G8 (by have := lt_of_heap q3; omega) (fun k hk => by simp at hk; omega)
  have FF := hide F
  have H3 := hide hown3
  have H5 := hide hb5
  clear F hown3 hb5 hown2 G8 hb4 hown' hgrow q0 q1 q2 q3 OW
  go_wp2_with fail
  (try simp only [Exit.inBlock, Exit.then])
  refine bodyPost_ret (results_cell_row rfl _ _ (w.heap.size + 1) 50 (recC _ _) (0, 0) _ rfl FF.out Try.underlying50 rfl (by kernel_rfl)) rfl ?_
  exact ⟨_, rfl, H3.out, H5.out⟩

set_option maxRecDepth 100000 in
set_option maxHeartbeats 1000000 in
theorem ownRec_any (x : RecD) (v : Value) (base : Nat) (w : World) (ho : w.ownsRow base 75 2 v x.near.length (flat nrE x.near)) (hn : x.near.length ≤ 1048576) :
    Calls Try.prog 45 #[.agg (recC x v)] w fun e w' => ∃ v', e = .returned (.agg (recC x v')) ∧ w'.ownsRow w.heap.size 75 2 v' x.near.length (flat nrE x.near) ∧ Below w.heap.size w w' := by
  obtain ⟨va, vc, rfl⟩ := owns_lenS ho
  have OW := hide ho
  clear ho
  go_enter Try.func45, Try.ntmps45
  unfold recC
  go_wp2_with (first
    | (at_builtin; refine append_row5 nr_flat5 (by omega) nrE_one5 (by omega) _ rfl _ _ 48 rfl (w.heap.size + 2) 75 Try.underlying48 (nrV nr0) rfl Try.infoNr _ [] rfl ?own0 base _ x.near rfl ((OW.out.alloc _).alloc _) (by simp; omega) (by simp) ?_))
  case own0 => exact World.ownsRow_nil _ _ _ _
  intro v' w4 hown' hgrow
  obtain ⟨na, nc, rfl⟩ := owns_lenS hown'
  simp only [Value.ownBlock] at hgrow
  have hb4 : Below w.heap.size w w4 := (((Below.refl w.heap.size w).alloc (by simp) _).alloc (by simp) _).grown hgrow (by simp; omega) (fun k hk => by simp at hk)
  have q0 : w4.heap[w.heap.size]? = some (.cells #[.int .i64 x.area, .int .i64 x.kind, .int .i64 x.owner, .int .i64 x.key, .int .i64 x.seq, .slice va x.near.length vc, .int .i64 x.cost, .bool x.far] 50) := by
    rw [hgrow.block w.heap.size (by simp; omega) (by simp), Below.heap_alloc _ _ _ (by simp), heap_alloc_new]
  have q1 : w4.heap[w.heap.size + 1]? = some (.cells #[.int .i64 0, .int .i64 0, .int .i64 0, .int .i64 0, .int .i64 0, .slice none 0 0, .int .i64 0, .bool false] 50) := by
    rw [hgrow.block (w.heap.size + 1) (by simp) (by simp)]
    have e := heap_alloc_new (w.alloc (.cells #[.int .i64 x.area, .int .i64 x.kind, .int .i64 x.owner, .int .i64 x.key, .int .i64 x.seq, .slice va x.near.length vc, .int .i64 x.cost, .bool x.far] 50)) (.cells #[.int .i64 0, .int .i64 0, .int .i64 0, .int .i64 0, .int .i64 0, .slice none 0 0, .int .i64 0, .bool false] 50)
    rw [show (w.alloc (.cells #[.int .i64 x.area, .int .i64 x.kind, .int .i64 x.owner, .int .i64 x.key, .int .i64 x.seq, .slice va x.near.length vc, .int .i64 x.cost, .bool x.far] 50)).heap.size = w.heap.size + 1 by simp] at e
    exact e
  have r5 := cells_at q0 5
  have f0 := frozen_at q0
  simp at r5
  have q2 := heap_setCell_same w4 w.heap.size 5 _ _ (.slice na x.near.length nc) q0
  simp only [List.setIfInBounds_toArray, List.set_cons_zero, List.set_cons_succ] at q2
  have q3 : (w4.setCell ⟨w.heap.size, 5, none⟩ (.slice na x.near.length nc)).heap[w.heap.size + 1]? = some (.cells #[.int .i64 0, .int .i64 0, .int .i64 0, .int .i64 0, .int .i64 0, .slice none 0 0, .int .i64 0, .bool false] 50) := by
    rw [heap_setCell_other w4 ⟨w.heap.size, 5, none⟩ _ _ (by show w.heap.size + 1 ≠ w.heap.size; omega)]; exact q1
  have y0 := cells_at q2 0
  have y1 := cells_at q2 1
  have y2 := cells_at q2 2
  have y3 := cells_at q2 3
  have y4 := cells_at q2 4
  have y5 := cells_at q2 5
  have y6 := cells_at q2 6
  have y7 := cells_at q2 7
  simp at y0 y1 y2 y3 y4 y5 y6 y7
  have u0 := cells_at q3 0
  have u1 := cells_at q3 1
  have u2 := cells_at q3 2
  have u3 := cells_at q3 3
  have u4 := cells_at q3 4
  have u5 := cells_at q3 5
  have u6 := cells_at q3 6
  have u7 := cells_at q3 7
  simp at u0 u1 u2 u3 u4 u5 u6 u7
  have fu := frozen_at q3
  have F := fin85 x (.slice na x.near.length nc) q3
  have hown2 := owns_set (j := 5) (u := .slice na x.near.length nc) hown' (show w.heap.size < w.heap.size + 2 by omega)
  have G8 := grown85 (w4.setCell ⟨w.heap.size, 5, none⟩ (.slice na x.near.length nc)) (w.heap.size + 1) x (.slice na x.near.length nc)
  have hown3 := owns_baseS (b0 := w.heap.size) (hown2.kept G8 (by
    cases hv : (Value.slice na x.near.length nc).ownBlock with
    | none => exact .inl rfl
    | some g => exact .inr (fun e => by have := (hown2.lt g hv).1; simp at e; omega))) (by omega)
  have hb5 : Below w.heap.size w (putR5 (w4.setCell ⟨w.heap.size, 5, none⟩ (.slice na x.near.length nc)) (w.heap.size + 1) x (.slice na x.near.length nc)) := (hb4.setCell (p := ⟨w.heap.size, 5, none⟩) (Nat.le_refl _) _).grown G8 (by have := lt_of_heap q3; omega) (fun k hk => by simp at hk; omega)
  have FF := hide F
  have H3 := hide hown3
  have H5 := hide hb5
  clear F hown3 hb5 hown2 G8 hb4 hown' hgrow q0 q1 q2 q3 OW
  go_wp2_with fail
  (try simp only [Exit.inBlock, Exit.then])
  refine bodyPost_ret (results_cell_row rfl _ _ (w.heap.size + 1) 50 (recC _ _) (0, 0) _ rfl FF.out Try.underlying50 rfl (by kernel_rfl)) rfl ?_
  exact ⟨_, rfl, H3.out, H5.out⟩
end Go.Proofs.Ytnfockhbcneegaa
