/-
  impl.onward: its contract.
-/
import Derived.Test.YtidoieolejkflaaGreatPk14
namespace Go.Proofs.YtidoieolejkflaaGreat
open Go.RowKit

set_option linter.unusedSimpArgs false

theorem World.size_alloc_drew (w : World) (o : Obj) : (w.drew.alloc o).heap.size = w.heap.size + 1 := by
  have : (w.drew.alloc o).heap.size = w.drew.heap.size + 1 := by simp
  exact this

def onwD (x : WayD) (to c : Int) : WayD := if x.hops = [] then ⟨to, x.cost + c, [to]⟩ else ⟨to, x.cost + c, x.hops⟩

set_option maxRecDepth 100000 in
set_option maxHeartbeats 4000000 in
theorem onward_any (x : WayD) (vx : Value) (bx : Nat) (to c : Int) (w : World) (hx : w.ownsRow bx 3 1 vx x.hops.length (flat intE x.hops)) (hlx : x.hops.length ≤ 1048576) (h0 : 0 ≤ x.cost + c) (h1 : x.cost + c ≤ 1000000) :
    Calls Tryz.prog 133 #[.agg (wayC x vx), .int .i64 to, .int .i64 c] w fun e w' => ∃ u, e = .returned (.agg (wayC (onwD x to c) u)) ∧ w'.ownsRow w.heap.size 3 1 u (onwD x to c).hops.length (flat intE (onwD x to c).hops) ∧ Below w.heap.size w w' := by
  obtain ⟨D, hD⟩ : ∃ D, D = onwD x to c := ⟨_, rfl⟩
  rw [← hD]
  unfold onwD at hD
  have HD := hide hD
  clear hD
  obtain ⟨p1, q1, rfl⟩ := owns_lenS hx
  have HOH := hide (fun W (hb : Below w.heap.size w W) => ownHops_any x.hops (.slice p1 x.hops.length q1) bx W (owns_below hx hb (Nat.le_refl _)) hlx)
  clear hx
  have hwc : IntKind.i64.wrap (x.cost + c) = x.cost + c := wrap_fit _ (by omega) (by omega)
  have m0 : ((w.alloc (.cells #[.int .i64 x.to, .int .i64 x.cost, .slice p1 x.hops.length q1] 46)).alloc (.cells #[.int .i64 0, .int .i64 0, .slice none 0 0] 46)).heap[w.heap.size]? = some (.cells #[.int .i64 x.to, .int .i64 x.cost, .slice p1 x.hops.length q1] 46) := by
    rw [Below.heap_alloc _ _ _ (by simp), heap_alloc_new]
  have m1 : ((w.alloc (.cells #[.int .i64 x.to, .int .i64 x.cost, .slice p1 x.hops.length q1] 46)).alloc (.cells #[.int .i64 0, .int .i64 0, .slice none 0 0] 46)).heap[w.heap.size + 1]? = some (.cells #[.int .i64 0, .int .i64 0, .slice none 0 0] 46) := by
    have e := heap_alloc_new (w.alloc (.cells #[.int .i64 x.to, .int .i64 x.cost, .slice p1 x.hops.length q1] 46)) (.cells #[.int .i64 0, .int .i64 0, .slice none 0 0] 46)
    rw [show (w.alloc (.cells #[.int .i64 x.to, .int .i64 x.cost, .slice p1 x.hops.length q1] 46)).heap.size = w.heap.size + 1 by simp] at e
    exact e
  have BQ : Below w.heap.size w ((w.alloc (.cells #[.int .i64 x.to, .int .i64 x.cost, .slice p1 x.hops.length q1] 46)).alloc (.cells #[.int .i64 0, .int .i64 0, .slice none 0 0] 46)) := ((Below.refl w.heap.size w).alloc (by simp) _).alloc (by simp) _
  obtain ⟨w1, hw1⟩ : ∃ W, W = ((w.alloc (.cells #[.int .i64 x.to, .int .i64 x.cost, .slice p1 x.hops.length q1] 46)).alloc (.cells #[.int .i64 0, .int .i64 0, .slice none 0 0] 46)) := ⟨_, rfl⟩
  rw [← hw1] at m0 m1 BQ
  have s1 := cells_at m0 1
  have s2 := cells_at m0 2
  simp at s1 s2
  unfold wayC
  go_enter Tryz.func133, Tryz.ntmps133
  go_wp2
  rw [← hw1]
  clear hw1
  refine wp_region_noPanic ?_
  have hS0 : w1.drew.cell? ⟨w.heap.size, 1, none⟩ = some (.int .i64 x.cost) ∧ w1.drew.cell? ⟨w.heap.size, 2, none⟩ = some (.slice p1 x.hops.length q1) := ⟨s1, s2⟩
  refine wp_region_start (S := fun W => W.cell? ⟨w.heap.size, 1, none⟩ = some (.int .i64 x.cost) ∧ W.cell? ⟨w.heap.size, 2, none⟩ = some (.slice p1 x.hops.length q1)) (by kernel_rfl) 11 rfl hS0 ?_
  intro ops hops _
  show wpAnyH Tryz.prog .any ops _ _ 11 #[false, false, false, false, false, false, false, false, false, false, false] _ w1.drew
  refine take_do 0 (oi := ?_) (v := ?_) ?_ (by rw [hops.out]; kernel_rfl) ?_ ?_ ?_ (by assumption) ?_
  rotate_left 2
  · rw [hops.out]; simp only [List.getElem?_toArray, List.getElem?_cons_succ, List.getElem?_cons_zero]; rfl
  · rw [hops.out]; kernel_rfl
  · intro W hW; obtain ⟨k1, k2⟩ := hW; go_simp <;> with_reducible rfl
  · exact fun _ _ _ h => h
  try simp only [Act.put, List.setIfInBounds_toArray, List.set_cons_zero, List.set_cons_succ]
  refine take_do 1 (oi := ?_) (v := ?_) ?_ (by rw [hops.out]; kernel_rfl) ?_ ?_ ?_ (by assumption) ?_
  rotate_left 2
  · rw [hops.out]; simp only [List.getElem?_toArray, List.getElem?_cons_succ, List.getElem?_cons_zero]; rfl
  · rw [hops.out]; kernel_rfl
  · intro W hW; obtain ⟨k1, k2⟩ := hW; go_simp <;> with_reducible rfl
  · exact fun _ _ _ h => h
  try simp only [Act.put, List.setIfInBounds_toArray, List.set_cons_zero, List.set_cons_succ]
  refine take_do 2 (oi := ?_) (v := ?_) ?_ (by rw [hops.out]; kernel_rfl) ?_ ?_ ?_ (by assumption) ?_
  rotate_left 2
  · rw [hops.out]; simp only [List.getElem?_toArray, List.getElem?_cons_succ, List.getElem?_cons_zero]; rfl
  · rw [hops.out]; kernel_rfl
  · intro W hW; obtain ⟨k1, k2⟩ := hW; go_simp <;> with_reducible rfl
  · exact fun _ _ _ h => h
  try simp only [Act.put, List.setIfInBounds_toArray, List.set_cons_zero, List.set_cons_succ]
  refine take_do 3 (oi := ?_) (v := ?_) ?_ (by rw [hops.out]; kernel_rfl) ?_ ?_ ?_ (by assumption) ?_
  rotate_left 2
  · rw [hops.out]; simp only [List.getElem?_toArray, List.getElem?_cons_succ, List.getElem?_cons_zero]; rfl
  · rw [hops.out]; kernel_rfl
  · intro W hW; obtain ⟨k1, k2⟩ := hW; go_simp <;> with_reducible rfl
  · exact fun _ _ _ h => h
  try simp only [Act.put, List.setIfInBounds_toArray, List.set_cons_zero, List.set_cons_succ]
  refine take_do 4 (oi := ?_) (v := ?_) ?_ (by rw [hops.out]; kernel_rfl) ?_ ?_ ?_ (by assumption) ?_
  rotate_left 2
  · rw [hops.out]; simp only [List.getElem?_toArray, List.getElem?_cons_succ, List.getElem?_cons_zero]; rfl
  · rw [hops.out]; kernel_rfl
  · intro W hW; obtain ⟨k1, k2⟩ := hW; go_simp <;> with_reducible rfl
  · exact fun _ _ _ h => h
  try simp only [Act.put, List.setIfInBounds_toArray, List.set_cons_zero, List.set_cons_succ]
  refine take_do 5 (oi := ?_) (v := ?_) ?_ (by rw [hops.out]; kernel_rfl) ?_ ?_ ?_ (by assumption) ?_
  rotate_left 2
  · rw [hops.out]; simp only [List.getElem?_toArray, List.getElem?_cons_succ, List.getElem?_cons_zero]; rfl
  · rw [hops.out]; kernel_rfl
  · intro W hW; obtain ⟨k1, k2⟩ := hW; go_simp <;> with_reducible rfl
  · exact fun _ _ _ h => h
  try simp only [Act.put, List.setIfInBounds_toArray, List.set_cons_zero, List.set_cons_succ]
  refine take_do 6 (oi := ?_) (v := ?_) ?_ (by rw [hops.out]; kernel_rfl) ?_ ?_ ?_ (by assumption) ?_
  rotate_left 2
  · rw [hops.out]; simp only [List.getElem?_toArray, List.getElem?_cons_succ, List.getElem?_cons_zero]; rfl
  · rw [hops.out]; kernel_rfl
  · intro W hW; obtain ⟨k1, k2⟩ := hW; go_simp <;> with_reducible rfl
  · exact fun _ _ _ h => h
  try simp only [Act.put, List.setIfInBounds_toArray, List.set_cons_zero, List.set_cons_succ]
  refine wpAnyH_ready (rs := [7, 9]) (by rw [hops.out]; kernel_rfl) (by simp) ?_
  refine AllReadyH.cons (o := ?_) ?_ (fun K hK => ?_) ?_
  rotate_left 1
  · rw [hops.out]; simp only [List.getElem?_toArray, List.getElem?_cons_succ, List.getElem?_cons_zero]; rfl
  · rw [if_pos (by rfl)]
    go_simp
    refine (HOH.out _ (drewT BQ)).mono ?_
    rintro e w4 ⟨u, rfl, hn2, b2⟩
    obtain ⟨na, nc, rfl⟩ := owns_lenS hn2
    have hK2 : w4.cell? ⟨w.heap.size, 1, none⟩ = some (.int .i64 x.cost) ∧ w4.cell? ⟨w.heap.size, 2, none⟩ = some (.slice p1 x.hops.length q1) := ⟨by rw [b2.cell (by exact lt_of_heap m0)]; exact s1, by rw [b2.cell (by exact lt_of_heap m0)]; exact s2⟩
    refine hK.out _ _ hK2 (fun _ => ?_)
    clear hK K
    try simp only [Act.put, List.setIfInBounds_toArray, List.set_cons_zero, List.set_cons_succ]
    refine take_do 8 (oi := ?_) (v := ?_) ?_ (by rw [hops.out]; kernel_rfl) ?_ ?_ ?_ (by assumption) ?_
    rotate_left 2
    · rw [hops.out]; simp only [List.getElem?_toArray, List.getElem?_cons_succ, List.getElem?_cons_zero]; rfl
    · rw [hops.out]; kernel_rfl
    · intro W hW; obtain ⟨k1, k2⟩ := hW; go_simp <;> with_reducible rfl
    · exact fun _ _ _ h => h
    try simp only [Act.put, List.setIfInBounds_toArray, List.set_cons_zero, List.set_cons_succ]
    refine take_call 9 (oi := ?_) ?_ (by rw [hops.out]; kernel_rfl) ?_ ?_
    rotate_left 1
    · rw [hops.out]; simp only [List.getElem?_toArray, List.getElem?_cons_succ, List.getElem?_cons_zero]; rfl
    · rw [hops.out]; kernel_rfl
    intro K hK
    go_simp
    have hK3 : (w4.alloc (.cells #[.int .i64 0, .int .i64 0, .slice none 0 0] 46)).cell? ⟨w.heap.size, 1, none⟩ = some (.int .i64 x.cost) ∧ (w4.alloc (.cells #[.int .i64 0, .int .i64 0, .slice none 0 0] 46)).cell? ⟨w.heap.size, 2, none⟩ = some (.slice p1 x.hops.length q1) := ⟨by rw [World.cell?_of_block (w := w4) (Below.heap_alloc _ _ _ (by have h1 := lt_of_heap m0; have h2 := b2.size; have h3 : w1.heap.size ≤ w4.heap.size := h2; exact Nat.lt_of_lt_of_le h1 h3))]; exact hK2.1, by rw [World.cell?_of_block (w := w4) (Below.heap_alloc _ _ _ (by have h1 := lt_of_heap m0; have h2 := b2.size; have h3 : w1.heap.size ≤ w4.heap.size := h2; exact Nat.lt_of_lt_of_le h1 h3))]; exact hK2.2⟩
    refine hK.out _ _ hK3 (fun _ => ?_)
    clear hK K
    try simp only [Act.put, List.setIfInBounds_toArray, List.set_cons_zero, List.set_cons_succ]
    have h41 : w1.heap.size ≤ w4.heap.size := b2.size
    have l1 := lt_of_heap m1
    have z0 := (Below.heap_alloc w4 (.cells #[.int .i64 0, .int .i64 0, .slice none 0 0] 46) _ (by omega)).trans ((b2.block _ (lt_of_heap m0)).trans m0)
    have z1 := (Below.heap_alloc w4 (.cells #[.int .i64 0, .int .i64 0, .slice none 0 0] 46) _ (by omega)).trans ((b2.block _ (lt_of_heap m1)).trans m1)
    have zn := heap_alloc_new w4 (.cells #[.int .i64 0, .int .i64 0, .slice none 0 0] 46)
    have ho := owns_baseS (b0 := w.heap.size + 2) (hn2.alloc (.cells #[.int .i64 0, .int .i64 0, .slice none 0 0] 46)) (by show w.heap.size + 2 ≤ w1.heap.size; omega)
    have hB : Below w.heap.size w (w4.alloc (.cells #[.int .i64 0, .int .i64 0, .slice none 0 0] 46)) := ((drewT BQ).trans (b2.mono BQ.size)).alloc (by omega) _
    have hnb : w.heap.size + 1 < w4.heap.size := by omega
    have hvn : ∀ g, (Value.slice na x.hops.length nc).ownBlock = some g → g ≠ w4.heap.size := fun g hv => by have := (hn2.lt g hv).2; omega
    clear hn2 b2 hK2
    generalize (w4.alloc (.cells #[.int .i64 0, .int .i64 0, .slice none 0 0] 46)) = W5 at *
    have u0 := cells_at zn 0
    have u1 := cells_at zn 1
    have u2 := cells_at zn 2
    simp at u0 u1 u2
    have fu := frozen_at zn
    have FN := finW3 (⟨to, x.cost + c, x.hops⟩ : WayD) (.slice na x.hops.length nc) zn
    have G8 := grownW3 W5 w4.heap.size (⟨to, x.cost + c, x.hops⟩ : WayD) (.slice na x.hops.length nc)
    have ZZ0 := (G8.block _ (lt_of_heap z0) (by simp; omega)).trans z0
    have ZZ1 := (G8.block _ (lt_of_heap z1) (by simp; omega)).trans z1
    have OO := ho.kept G8 (by
      cases hv : (Value.slice na x.hops.length nc).ownBlock with
      | none => exact .inl rfl
      | some g => exact .inr (fun e => hvn g hv (by simpa using e)))
    have BB := hB.grown G8 hB.size (fun k hk => by simp at hk; omega)
    have hS6 : (putW3 W5 w4.heap.size (⟨to, x.cost + c, x.hops⟩ : WayD) (.slice na x.hops.length nc)).cell? ⟨w.heap.size, 1, none⟩ = some (.int .i64 x.cost) ∧ (putW3 W5 w4.heap.size (⟨to, x.cost + c, x.hops⟩ : WayD) (.slice na x.hops.length nc)).cell? ⟨w.heap.size, 2, none⟩ = some (.slice p1 x.hops.length q1) := ⟨by have e := cells_at ZZ0 1; simpa using e, by have e := cells_at ZZ0 2; simpa using e⟩
    obtain ⟨W6, hW6⟩ : ∃ W, W = ((W5.setCell ⟨w4.heap.size, 0, none⟩ (.int .i64 to)).setCell ⟨w4.heap.size, 1, none⟩ (.int .i64 (x.cost + c))).setCell ⟨w4.heap.size, 2, none⟩ (.slice na x.hops.length nc) := ⟨_, rfl⟩
    have e6 : W6 = putW3 W5 w4.heap.size (⟨to, x.cost + c, x.hops⟩ : WayD) (.slice na x.hops.length nc) := hW6
    rw [← e6] at FN ZZ0 ZZ1 OO BB hS6
    have HW6 := hide hW6
    clear e6 hW6
    have hnbB := hnb
    have HFN := hide FN
    have HZ0 := hide ZZ0
    have HZ1 := hide ZZ1
    have HOO := hide OO
    have HBB := hide BB
    clear FN G8 ZZ0 ZZ1 OO BB zn z0 z1 ho hB hvn
    refine take_call 10 (oi := ?_) ?_ (by rw [hops.out]; kernel_rfl) ?_ ?_
    rotate_left 1
    · rw [hops.out]; simp only [List.getElem?_toArray, List.getElem?_cons_succ, List.getElem?_cons_zero]; rfl
    · rw [hops.out]; kernel_rfl
    intro K hK
    go_simp
    rw [← HW6.out]
    refine hK.out _ _ hS6 (fun _ => ?_)
    clear hK K
    try simp only [Act.put, List.setIfInBounds_toArray, List.set_cons_zero, List.set_cons_succ]
    refine wpAnyH_done (by rw [hops.out]; kernel_rfl) ?_ _
    clear hops ops u0 u1 u2 fu
    refine NoPanic.normal ?_
    clear HW6
    obtain ⟨NB, hNB⟩ : ∃ k, k = w4.heap.size := ⟨_, rfl⟩
    rw [← hNB] at HFN hnbB ⊢
    clear hNB
    clear m0 m1 s1 s2 hS0 BQ
    have s2 := hS6.2
    have f0 := cells_at HFN.out 0
    have f1 := cells_at HFN.out 1
    have f2 := cells_at HFN.out 2
    simp [wayC] at f0 f1 f2
    have ff := frozen_at HFN.out
    have v0 := cells_at HZ1.out 0
    have v1 := cells_at HZ1.out 1
    have v2 := cells_at HZ1.out 2
    simp at v0 v1 v2
    have fv := frozen_at HZ1.out
    have lnB := lt_of_heap HFN.out
    by_cases hx0 : x.hops = []
    · have hDe : D = ⟨to, x.cost + c, [to]⟩ := by rw [HD.out, if_pos hx0]
      subst hDe
      have hl0 : x.hops.length = 0 := by rw [hx0]; rfl
      have hlb : ((x.hops.length : Int) == 0) = true := by rw [hl0]; rfl
      have ez : (W6.setCell ⟨NB, 2, none⟩ (.slice (some ⟨W6.heap.size, 0, none⟩) 1 1)).heap.size = W6.heap.size := by simp
      have QA : (W6.setCell ⟨NB, 2, none⟩ (.slice (some ⟨W6.heap.size, 0, none⟩) 1 1)).heap[w.heap.size + 1]? = some (.cells #[.int .i64 0, .int .i64 0, .slice none 0 0] 46) := by
        rw [heap_setCell_other W6 ⟨NB, 2, none⟩ _ _ (by show w.heap.size + 1 ≠ NB; omega)]
        exact HZ1.out
      have F1 := finW3 ⟨to, x.cost + c, [to]⟩ (.slice (some ⟨W6.heap.size, 0, none⟩) 1 1) QA
      have G9 := grownW3 (W6.setCell ⟨NB, 2, none⟩ (.slice (some ⟨W6.heap.size, 0, none⟩) 1 1)) (w.heap.size + 1) ⟨to, x.cost + c, [to]⟩ (.slice (some ⟨W6.heap.size, 0, none⟩) 1 1)
      have B8 := (HBB.out.setCell (p := ⟨NB, 2, none⟩) (by show w.heap.size ≤ NB; omega) (.slice (some ⟨W6.heap.size, 0, none⟩) 1 1)).grown G9 (by rw [ez]; omega) (fun k hk => by simp at hk; omega)
      have ez2 : (putW3 (W6.setCell ⟨NB, 2, none⟩ (.slice (some ⟨W6.heap.size, 0, none⟩) 1 1)) (w.heap.size + 1) ⟨to, x.cost + c, [to]⟩ (.slice (some ⟨W6.heap.size, 0, none⟩) 1 1)).heap.size = W6.heap.size := by simp [putW3]
      have FF := hide ((Below.heap_alloc (putW3 (W6.setCell ⟨NB, 2, none⟩ (.slice (some ⟨W6.heap.size, 0, none⟩) 1 1)) (w.heap.size + 1) ⟨to, x.cost + c, [to]⟩ (.slice (some ⟨W6.heap.size, 0, none⟩) 1 1)) (.cells #[.int .i64 to] 3) (w.heap.size + 1) (by rw [ez2]; omega)).trans F1)
      have RW : ((putW3 (W6.setCell ⟨NB, 2, none⟩ (.slice (some ⟨W6.heap.size, 0, none⟩) 1 1)) (w.heap.size + 1) ⟨to, x.cost + c, [to]⟩ (.slice (some ⟨W6.heap.size, 0, none⟩) 1 1)).alloc (.cells #[.int .i64 to] 3)).ownsRow w.heap.size 3 1 (.slice (some ⟨(putW3 (W6.setCell ⟨NB, 2, none⟩ (.slice (some ⟨W6.heap.size, 0, none⟩) 1 1)) (w.heap.size + 1) ⟨to, x.cost + c, [to]⟩ (.slice (some ⟨W6.heap.size, 0, none⟩) 1 1)).heap.size, 0, none⟩) 1 1) [to].length (flat intE [to]) := World.ownsRow_lit _ #[.int .i64 to] 1 (by rw [ez2]; omega) (by unfold maxLen; omega) (by simp)
      rw [ez2] at RW
      have O9 := hide RW
      have B9 := hide (B8.alloc (by rw [ez2]; omega) (.cells #[.int .i64 to] 3))
      have HFIN := hide (fun W (hW : W = (putW3 (W6.setCell ⟨NB, 2, none⟩ (.slice (some ⟨W6.heap.size, 0, none⟩) 1 1)) (w.heap.size + 1) ⟨to, x.cost + c, [to]⟩ (.slice (some ⟨W6.heap.size, 0, none⟩) 1 1)).alloc (.cells #[.int .i64 to] 3)) => show W.heap[w.heap.size + 1]? = some (.cells (wayC ⟨to, x.cost + c, [to]⟩ (.slice (some ⟨W6.heap.size, 0, none⟩) 1 1)) 46) ∧ W.ownsRow w.heap.size 3 1 (.slice (some ⟨W6.heap.size, 0, none⟩) 1 1) [to].length (flat intE [to]) ∧ Below w.heap.size w W by subst hW; exact ⟨FF.out, O9.out, B9.out⟩)
      have QB := (Below.heap_alloc (W6.setCell ⟨NB, 2, none⟩ (.slice (some ⟨W6.heap.size, 0, none⟩) 1 1)) (.cells #[.int .i64 to] 3) (w.heap.size + 1) (by rw [ez]; omega)).trans QA
      have fb0 := frozen_at QB 0
      have fb1 := frozen_at QB 1
      have fb2 := frozen_at QB 2
      have l6 : w.heap.size + 1 < W6.heap.size := by omega
      clear G9 RW QA QB F1 B8 ez ez2 FF O9 B9 hl0 hx0 HZ0 HZ1 HFN HOO HBB hS6 HOH HD
      go_wp2_with fail
      (try simp only [Exit.inBlock, Exit.then])
      obtain ⟨W7, hW7⟩ : ∃ W, W = (putW3 (W6.setCell ⟨NB, 2, none⟩ (.slice (some ⟨W6.heap.size, 0, none⟩) 1 1)) (w.heap.size + 1) ⟨to, x.cost + c, [to]⟩ (.slice (some ⟨W6.heap.size, 0, none⟩) 1 1)).alloc (.cells #[.int .i64 to] 3) := ⟨_, rfl⟩
      have R7 := HFIN.out W7 hW7
      rw [← hW7]
      refine bodyPost_ret (results_cell_row rfl _ _ (w.heap.size + 1) 46 (wayC ⟨to, x.cost + c, [to]⟩ (.slice (some ⟨W6.heap.size, 0, none⟩) 1 1)) (0, 0) _ rfl R7.1 Tryz.underlying46 rfl (by kernel_rfl)) rfl ?_
      exact ⟨_, rfl, R7.2.1, R7.2.2⟩
    · have hDe : D = ⟨to, x.cost + c, x.hops⟩ := by rw [HD.out, if_neg hx0]
      subst hDe
      have hl0 : x.hops.length ≠ 0 := fun e => hx0 (List.eq_nil_of_length_eq_zero e)
      have hlb : ((x.hops.length : Int) == 0) = false := by
        have h1 : ¬ (x.hops.length : Int) = 0 := by omega
        simpa using h1
      have FF := hide (finW3 ⟨to, x.cost + c, x.hops⟩ (.slice na x.hops.length nc) HZ1.out)
      have G9 := grownW3 W6 (w.heap.size + 1) ⟨to, x.cost + c, x.hops⟩ (.slice na x.hops.length nc)
      have O9 := hide (owns_baseS (b0 := w.heap.size) (HOO.out.kept G9 (by
        cases hv : (Value.slice na x.hops.length nc).ownBlock with
        | none => exact .inl rfl
        | some g => exact .inr (fun e => by have := (HOO.out.lt g hv).1; simp at e; omega))) (by omega))
      have B9 := hide (HBB.out.grown G9 HBB.out.size (fun k hk => by simp at hk; omega))
      have hl1 : ¬ (x.hops.length : Int) = 0 := by omega
      clear G9 hl0 hx0 HZ0 HZ1 HFN HOO HBB hS6 HOH HD
      go_wp2_with fail
      (try simp only [Exit.inBlock, Exit.then])
      refine bodyPost_ret (results_cell_row rfl _ _ (w.heap.size + 1) 46 (wayC ⟨to, x.cost + c, x.hops⟩ (.slice na x.hops.length nc)) (0, 0) _ rfl FF.out Tryz.underlying46 rfl (by kernel_rfl)) rfl ?_
      exact ⟨_, rfl, O9.out, B9.out⟩
  refine AllReadyH.cons (o := ?_) ?_ (fun K hK => ?_) ?_
  rotate_left 1
  · rw [hops.out]; simp only [List.getElem?_toArray, List.getElem?_cons_succ, List.getElem?_cons_zero]; rfl
  · rw [if_pos (by rfl)]
    go_simp
    have hK2 : (w1.drew.alloc (.cells #[.int .i64 0, .int .i64 0, .slice none 0 0] 46)).cell? ⟨w.heap.size, 1, none⟩ = some (.int .i64 x.cost) ∧ (w1.drew.alloc (.cells #[.int .i64 0, .int .i64 0, .slice none 0 0] 46)).cell? ⟨w.heap.size, 2, none⟩ = some (.slice p1 x.hops.length q1) := ⟨by rw [World.cell?_of_block (w := w1.drew) (Below.heap_alloc _ _ _ (by exact lt_of_heap m0))]; exact s1, by rw [World.cell?_of_block (w := w1.drew) (Below.heap_alloc _ _ _ (by exact lt_of_heap m0))]; exact s2⟩
    refine hK.out _ _ hK2 (fun _ => ?_)
    clear hK K
    try simp only [Act.put, List.setIfInBounds_toArray, List.set_cons_zero, List.set_cons_succ]
    refine take_call 7 (oi := ?_) ?_ (by rw [hops.out]; kernel_rfl) ?_ ?_
    rotate_left 1
    · rw [hops.out]; simp only [List.getElem?_toArray, List.getElem?_cons_succ, List.getElem?_cons_zero]; rfl
    · rw [hops.out]; kernel_rfl
    intro K hK
    go_simp
    refine (HOH.out (w1.drew.alloc (.cells #[.int .i64 0, .int .i64 0, .slice none 0 0] 46)) ((drewT BQ).alloc (by exact BQ.size) _)).mono ?_
    rintro e w4 ⟨u, rfl, hn2, b2⟩
    obtain ⟨na, nc, rfl⟩ := owns_lenS hn2
    have l0 : w.heap.size < (w1.drew.alloc (.cells #[.int .i64 0, .int .i64 0, .slice none 0 0] 46)).heap.size := by
      have h1 := lt_of_heap m0
      have h2 : (w1.drew.alloc (.cells #[.int .i64 0, .int .i64 0, .slice none 0 0] 46)).heap.size = w1.heap.size + 1 := by
        rw [World.size_alloc_drew]
      omega
    have hK3 : w4.cell? ⟨w.heap.size, 1, none⟩ = some (.int .i64 x.cost) ∧ w4.cell? ⟨w.heap.size, 2, none⟩ = some (.slice p1 x.hops.length q1) := ⟨by rw [b2.cell l0]; exact hK2.1, by rw [b2.cell l0]; exact hK2.2⟩
    refine hK.out _ _ hK3 (fun _ => ?_)
    clear hK K
    try simp only [Act.put, List.setIfInBounds_toArray, List.set_cons_zero, List.set_cons_succ]
    refine take_do 8 (oi := ?_) (v := ?_) ?_ (by rw [hops.out]; kernel_rfl) ?_ ?_ ?_ (by assumption) ?_
    rotate_left 2
    · rw [hops.out]; simp only [List.getElem?_toArray, List.getElem?_cons_succ, List.getElem?_cons_zero]; rfl
    · rw [hops.out]; kernel_rfl
    · intro W hW; obtain ⟨k1, k2⟩ := hW; go_simp <;> with_reducible rfl
    · exact fun _ _ _ h => h
    try simp only [Act.put, List.setIfInBounds_toArray, List.set_cons_zero, List.set_cons_succ]
    have hsA : (w1.drew.alloc (.cells #[.int .i64 0, .int .i64 0, .slice none 0 0] 46)).heap.size = w1.heap.size + 1 := World.size_alloc_drew w1 _
    have l1 := lt_of_heap m1
    have z0 := (b2.block _ l0).trans ((Below.heap_alloc w1.drew (.cells #[.int .i64 0, .int .i64 0, .slice none 0 0] 46) _ (by exact lt_of_heap m0)).trans m0)
    have z1 := (b2.block _ (by omega)).trans ((Below.heap_alloc w1.drew (.cells #[.int .i64 0, .int .i64 0, .slice none 0 0] 46) _ (by exact lt_of_heap m1)).trans m1)
    have zn := (b2.block _ (by rw [hsA]; exact Nat.lt_succ_self w1.heap.size)).trans (heap_alloc_new w1.drew (.cells #[.int .i64 0, .int .i64 0, .slice none 0 0] 46))
    have ho := owns_baseS (b0 := w.heap.size + 2) hn2 (by omega)
    have hB : Below w.heap.size w w4 := ((drewT BQ).alloc (by exact BQ.size) _).trans (b2.mono (by omega))
    have hnb : w.heap.size + 1 < w1.heap.size := l1
    have hvn : ∀ g, (Value.slice na x.hops.length nc).ownBlock = some g → g ≠ w1.heap.size := fun g hv => by have := (hn2.lt g hv).1; omega
    have zn : w4.heap[w1.heap.size]? = some (.cells #[.int .i64 0, .int .i64 0, .slice none 0 0] 46) := zn
    clear hn2 b2 hK2 hK3
    have u0 := cells_at zn 0
    have u1 := cells_at zn 1
    have u2 := cells_at zn 2
    simp at u0 u1 u2
    have fu := frozen_at zn
    have FN := finW3 (⟨to, x.cost + c, x.hops⟩ : WayD) (.slice na x.hops.length nc) zn
    have G8 := grownW3 w4 w1.heap.size (⟨to, x.cost + c, x.hops⟩ : WayD) (.slice na x.hops.length nc)
    have ZZ0 := (G8.block _ (lt_of_heap z0) (by simp; omega)).trans z0
    have ZZ1 := (G8.block _ (lt_of_heap z1) (by simp; omega)).trans z1
    have OO := ho.kept G8 (by
      cases hv : (Value.slice na x.hops.length nc).ownBlock with
      | none => exact .inl rfl
      | some g => exact .inr (fun e => hvn g hv (by simpa using e)))
    have BB := hB.grown G8 hB.size (fun k hk => by simp at hk; omega)
    have hS6 : (putW3 w4 w1.heap.size (⟨to, x.cost + c, x.hops⟩ : WayD) (.slice na x.hops.length nc)).cell? ⟨w.heap.size, 1, none⟩ = some (.int .i64 x.cost) ∧ (putW3 w4 w1.heap.size (⟨to, x.cost + c, x.hops⟩ : WayD) (.slice na x.hops.length nc)).cell? ⟨w.heap.size, 2, none⟩ = some (.slice p1 x.hops.length q1) := ⟨by have e := cells_at ZZ0 1; simpa using e, by have e := cells_at ZZ0 2; simpa using e⟩
    obtain ⟨W6, hW6⟩ : ∃ W, W = ((w4.setCell ⟨w1.heap.size, 0, none⟩ (.int .i64 to)).setCell ⟨w1.heap.size, 1, none⟩ (.int .i64 (x.cost + c))).setCell ⟨w1.heap.size, 2, none⟩ (.slice na x.hops.length nc) := ⟨_, rfl⟩
    have e6 : W6 = putW3 w4 w1.heap.size (⟨to, x.cost + c, x.hops⟩ : WayD) (.slice na x.hops.length nc) := hW6
    rw [← e6] at FN ZZ0 ZZ1 OO BB hS6
    have HW6 := hide hW6
    clear e6 hW6
    have hnbB := hnb
    have HFN := hide FN
    have HZ0 := hide ZZ0
    have HZ1 := hide ZZ1
    have HOO := hide OO
    have HBB := hide BB
    clear FN G8 ZZ0 ZZ1 OO BB zn z0 z1 ho hB hvn
    refine take_call 10 (oi := ?_) ?_ (by rw [hops.out]; kernel_rfl) ?_ ?_
    rotate_left 1
    · rw [hops.out]; simp only [List.getElem?_toArray, List.getElem?_cons_succ, List.getElem?_cons_zero]; rfl
    · rw [hops.out]; kernel_rfl
    intro K hK
    go_simp
    rw [← HW6.out]
    refine hK.out _ _ hS6 (fun _ => ?_)
    clear hK K
    try simp only [Act.put, List.setIfInBounds_toArray, List.set_cons_zero, List.set_cons_succ]
    refine wpAnyH_done (by rw [hops.out]; kernel_rfl) ?_ _
    clear hops ops u0 u1 u2 fu
    refine NoPanic.normal ?_
    clear HW6
    obtain ⟨NB, hNB⟩ : ∃ k, k = w1.heap.size := ⟨_, rfl⟩
    rw [← hNB] at HFN hnbB ⊢
    clear hNB
    clear m0 m1 s1 s2 hS0 BQ
    have s2 := hS6.2
    have f0 := cells_at HFN.out 0
    have f1 := cells_at HFN.out 1
    have f2 := cells_at HFN.out 2
    simp [wayC] at f0 f1 f2
    have ff := frozen_at HFN.out
    have v0 := cells_at HZ1.out 0
    have v1 := cells_at HZ1.out 1
    have v2 := cells_at HZ1.out 2
    simp at v0 v1 v2
    have fv := frozen_at HZ1.out
    have lnB := lt_of_heap HFN.out
    by_cases hx0 : x.hops = []
    · have hDe : D = ⟨to, x.cost + c, [to]⟩ := by rw [HD.out, if_pos hx0]
      subst hDe
      have hl0 : x.hops.length = 0 := by rw [hx0]; rfl
      have hlb : ((x.hops.length : Int) == 0) = true := by rw [hl0]; rfl
      have ez : (W6.setCell ⟨NB, 2, none⟩ (.slice (some ⟨W6.heap.size, 0, none⟩) 1 1)).heap.size = W6.heap.size := by simp
      have QA : (W6.setCell ⟨NB, 2, none⟩ (.slice (some ⟨W6.heap.size, 0, none⟩) 1 1)).heap[w.heap.size + 1]? = some (.cells #[.int .i64 0, .int .i64 0, .slice none 0 0] 46) := by
        rw [heap_setCell_other W6 ⟨NB, 2, none⟩ _ _ (by show w.heap.size + 1 ≠ NB; omega)]
        exact HZ1.out
      have F1 := finW3 ⟨to, x.cost + c, [to]⟩ (.slice (some ⟨W6.heap.size, 0, none⟩) 1 1) QA
      have G9 := grownW3 (W6.setCell ⟨NB, 2, none⟩ (.slice (some ⟨W6.heap.size, 0, none⟩) 1 1)) (w.heap.size + 1) ⟨to, x.cost + c, [to]⟩ (.slice (some ⟨W6.heap.size, 0, none⟩) 1 1)
      have B8 := (HBB.out.setCell (p := ⟨NB, 2, none⟩) (by show w.heap.size ≤ NB; omega) (.slice (some ⟨W6.heap.size, 0, none⟩) 1 1)).grown G9 (by rw [ez]; omega) (fun k hk => by simp at hk; omega)
      have ez2 : (putW3 (W6.setCell ⟨NB, 2, none⟩ (.slice (some ⟨W6.heap.size, 0, none⟩) 1 1)) (w.heap.size + 1) ⟨to, x.cost + c, [to]⟩ (.slice (some ⟨W6.heap.size, 0, none⟩) 1 1)).heap.size = W6.heap.size := by simp [putW3]
      have FF := hide ((Below.heap_alloc (putW3 (W6.setCell ⟨NB, 2, none⟩ (.slice (some ⟨W6.heap.size, 0, none⟩) 1 1)) (w.heap.size + 1) ⟨to, x.cost + c, [to]⟩ (.slice (some ⟨W6.heap.size, 0, none⟩) 1 1)) (.cells #[.int .i64 to] 3) (w.heap.size + 1) (by rw [ez2]; omega)).trans F1)
      have RW : ((putW3 (W6.setCell ⟨NB, 2, none⟩ (.slice (some ⟨W6.heap.size, 0, none⟩) 1 1)) (w.heap.size + 1) ⟨to, x.cost + c, [to]⟩ (.slice (some ⟨W6.heap.size, 0, none⟩) 1 1)).alloc (.cells #[.int .i64 to] 3)).ownsRow w.heap.size 3 1 (.slice (some ⟨(putW3 (W6.setCell ⟨NB, 2, none⟩ (.slice (some ⟨W6.heap.size, 0, none⟩) 1 1)) (w.heap.size + 1) ⟨to, x.cost + c, [to]⟩ (.slice (some ⟨W6.heap.size, 0, none⟩) 1 1)).heap.size, 0, none⟩) 1 1) [to].length (flat intE [to]) := World.ownsRow_lit _ #[.int .i64 to] 1 (by rw [ez2]; omega) (by unfold maxLen; omega) (by simp)
      rw [ez2] at RW
      have O9 := hide RW
      have B9 := hide (B8.alloc (by rw [ez2]; omega) (.cells #[.int .i64 to] 3))
      have HFIN := hide (fun W (hW : W = (putW3 (W6.setCell ⟨NB, 2, none⟩ (.slice (some ⟨W6.heap.size, 0, none⟩) 1 1)) (w.heap.size + 1) ⟨to, x.cost + c, [to]⟩ (.slice (some ⟨W6.heap.size, 0, none⟩) 1 1)).alloc (.cells #[.int .i64 to] 3)) => show W.heap[w.heap.size + 1]? = some (.cells (wayC ⟨to, x.cost + c, [to]⟩ (.slice (some ⟨W6.heap.size, 0, none⟩) 1 1)) 46) ∧ W.ownsRow w.heap.size 3 1 (.slice (some ⟨W6.heap.size, 0, none⟩) 1 1) [to].length (flat intE [to]) ∧ Below w.heap.size w W by subst hW; exact ⟨FF.out, O9.out, B9.out⟩)
      have QB := (Below.heap_alloc (W6.setCell ⟨NB, 2, none⟩ (.slice (some ⟨W6.heap.size, 0, none⟩) 1 1)) (.cells #[.int .i64 to] 3) (w.heap.size + 1) (by rw [ez]; omega)).trans QA
      have fb0 := frozen_at QB 0
      have fb1 := frozen_at QB 1
      have fb2 := frozen_at QB 2
      have l6 : w.heap.size + 1 < W6.heap.size := by omega
      clear G9 RW QA QB F1 B8 ez ez2 FF O9 B9 hl0 hx0 HZ0 HZ1 HFN HOO HBB hS6 HOH HD
      go_wp2_with fail
      (try simp only [Exit.inBlock, Exit.then])
      obtain ⟨W7, hW7⟩ : ∃ W, W = (putW3 (W6.setCell ⟨NB, 2, none⟩ (.slice (some ⟨W6.heap.size, 0, none⟩) 1 1)) (w.heap.size + 1) ⟨to, x.cost + c, [to]⟩ (.slice (some ⟨W6.heap.size, 0, none⟩) 1 1)).alloc (.cells #[.int .i64 to] 3) := ⟨_, rfl⟩
      have R7 := HFIN.out W7 hW7
      rw [← hW7]
      refine bodyPost_ret (results_cell_row rfl _ _ (w.heap.size + 1) 46 (wayC ⟨to, x.cost + c, [to]⟩ (.slice (some ⟨W6.heap.size, 0, none⟩) 1 1)) (0, 0) _ rfl R7.1 Tryz.underlying46 rfl (by kernel_rfl)) rfl ?_
      exact ⟨_, rfl, R7.2.1, R7.2.2⟩
    · have hDe : D = ⟨to, x.cost + c, x.hops⟩ := by rw [HD.out, if_neg hx0]
      subst hDe
      have hl0 : x.hops.length ≠ 0 := fun e => hx0 (List.eq_nil_of_length_eq_zero e)
      have hlb : ((x.hops.length : Int) == 0) = false := by
        have h1 : ¬ (x.hops.length : Int) = 0 := by omega
        simpa using h1
      have FF := hide (finW3 ⟨to, x.cost + c, x.hops⟩ (.slice na x.hops.length nc) HZ1.out)
      have G9 := grownW3 W6 (w.heap.size + 1) ⟨to, x.cost + c, x.hops⟩ (.slice na x.hops.length nc)
      have O9 := hide (owns_baseS (b0 := w.heap.size) (HOO.out.kept G9 (by
        cases hv : (Value.slice na x.hops.length nc).ownBlock with
        | none => exact .inl rfl
        | some g => exact .inr (fun e => by have := (HOO.out.lt g hv).1; simp at e; omega))) (by omega))
      have B9 := hide (HBB.out.grown G9 HBB.out.size (fun k hk => by simp at hk; omega))
      have hl1 : ¬ (x.hops.length : Int) = 0 := by omega
      clear G9 hl0 hx0 HZ0 HZ1 HFN HOO HBB hS6 HOH HD
      go_wp2_with fail
      (try simp only [Exit.inBlock, Exit.then])
      refine bodyPost_ret (results_cell_row rfl _ _ (w.heap.size + 1) 46 (wayC ⟨to, x.cost + c, x.hops⟩ (.slice na x.hops.length nc)) (0, 0) _ rfl FF.out Tryz.underlying46 rfl (by kernel_rfl)) rfl ?_
      exact ⟨_, rfl, O9.out, B9.out⟩
  exact AllReadyH.nil
end Go.Proofs.YtidoieolejkflaaGreat
