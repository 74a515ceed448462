/-
  The law FnBack answers true at every argument, and each argument reads afterwards as it read before; no condition. (Here: from the walk to the given statement.)
  spec.DrawTogether: two ways are drawn.
  The law FnBack, walked.
-/
import Derived.Test.YtdaigojpeofmpaaGreatQb26
import Derived.Test.YtdaigojpeofmpaaGreatQb19
import Derived.Test.YtdaigojpeofmpaaGreatQb21
import Derived.Test.YtdaigojpeofmpaaGreatQb22
import Derived.Test.YtdaigojpeofmpaaGreatQb9
import Derived.Test.YtdaigojpeofmpaaGreatQb10
import Derived.ProofKit
import Derived.OpenShut
import Derived.ShutString
import Derived.ChangeOld
namespace Go.Proofs.YtdaigojpeofmpaaGreat
open Go.RowKit

set_option linter.unusedSimpArgs false

theorem results_ways {P : Program} {fn : Func} {p q : Tmp} {ty : TypeId} (h : fn.results = #[.cell p ty, .cell q ty]) (tmps : Array Value) (w : World) (g g' : Nat) (t t' : TypeId) (cs cs' : Array Value) (fr fr' : Nat × Nat) (d : TypeDesc)
    (hp : tmps.getD p undef = .pointer (some ⟨g, 0, none⟩)) (hg : w.heap[g]? = some (.cells cs t fr)) (hq : tmps.getD q undef = .pointer (some ⟨g', 0, none⟩)) (hg' : w.heap[g']? = some (.cells cs' t' fr'))
    (hu : P.underlying ty = some d) (hd : (match d with | .struct _ | .array _ _ => true | _ => false) = true) (hi : (P.info? ty).map (·.size) = some cs.size) (hi' : (P.info? ty).map (·.size) = some cs'.size) :
    (results fn tmps).run P w = .ok (.tuple #[.agg cs, .agg cs']) w := by
  have hp' : tmps[p]?.getD undef = .pointer (some ⟨g, 0, none⟩) := by simpa using hp
  have hq' : tmps[q]?.getD undef = .pointer (some ⟨g', 0, none⟩) := by simpa using hq
  simp [results, h, hp', hq', asAddr, run_loadVar_row w g t ty cs fr d hg hu hd hi, run_loadVar_row w g' t' ty cs' fr' d hg' hu hd hi']

theorem ways_out (w W : World) (x y : WayD) (u v : Value) {b1 b2 n m : Nat} {xs ys : List Value} (hB : Below w.heap.size w W)
    (q0 : W.heap[w.heap.size]? = some (.cells #[.int .i64 0, .int .i64 0, .slice none 0 0] 73)) (q1 : W.heap[w.heap.size + 1]? = some (.cells #[.int .i64 0, .int .i64 0, .slice none 0 0] 73))
    (ox : W.ownsRow b1 3 1 u n xs) (oy : W.ownsRow b2 3 1 v m ys) (h1 : w.heap.size + 1 < b1) (h2 : w.heap.size + 1 < b2) :
    let W' := ((((((W.setCell ⟨w.heap.size, 0, none⟩ (.int .i64 x.to)).setCell ⟨w.heap.size, 1, none⟩ (.int .i64 x.cost)).setCell ⟨w.heap.size, 2, none⟩ u).setCell ⟨w.heap.size + 1, 0, none⟩ (.int .i64 y.to)).setCell ⟨w.heap.size + 1, 1, none⟩ (.int .i64 y.cost)).setCell ⟨w.heap.size + 1, 2, none⟩ v).drew
    W'.heap[w.heap.size]? = some (.cells (wayC x u) 73) ∧ W'.heap[w.heap.size + 1]? = some (.cells (wayC y v) 73) ∧ W'.ownsRow w.heap.size 3 1 u n xs ∧ W'.ownsRow w.heap.size 3 1 v m ys ∧ Below w.heap.size w W' := by
  intro W'
  have e1 := heap_setCell_same _ _ 0 _ _ (.int .i64 x.to) q0
  have e2 := heap_setCell_same _ _ 1 _ _ (.int .i64 x.cost) e1
  have e3 := heap_setCell_same _ _ 2 _ _ u e2
  have g1 : W.grownBy (((W.setCell ⟨w.heap.size, 0, none⟩ (.int .i64 x.to)).setCell ⟨w.heap.size, 1, none⟩ (.int .i64 x.cost)).setCell ⟨w.heap.size, 2, none⟩ u) (some w.heap.size) := grown_trans (grown_trans (grown_set W w.heap.size _ _) (grown_set _ w.heap.size _ _)) (grown_set _ w.heap.size _ _)
  obtain ⟨V, hV⟩ : ∃ V, V = (((W.setCell ⟨w.heap.size, 0, none⟩ (.int .i64 x.to)).setCell ⟨w.heap.size, 1, none⟩ (.int .i64 x.cost)).setCell ⟨w.heap.size, 2, none⟩ u) := ⟨_, rfl⟩
  have hW' : W' = (((V.setCell ⟨w.heap.size + 1, 0, none⟩ (.int .i64 y.to)).setCell ⟨w.heap.size + 1, 1, none⟩ (.int .i64 y.cost)).setCell ⟨w.heap.size + 1, 2, none⟩ v).drew := by rw [hV]
  rw [← hV] at e3 g1
  have p1 := (g1.block _ (lt_of_heap q1) (by simp)).trans q1
  have f1 := heap_setCell_same _ _ 0 _ _ (.int .i64 y.to) p1
  have f2 := heap_setCell_same _ _ 1 _ _ (.int .i64 y.cost) f1
  have f3 := heap_setCell_same _ _ 2 _ _ v f2
  have g2 : V.grownBy (((V.setCell ⟨w.heap.size + 1, 0, none⟩ (.int .i64 y.to)).setCell ⟨w.heap.size + 1, 1, none⟩ (.int .i64 y.cost)).setCell ⟨w.heap.size + 1, 2, none⟩ v) (some (w.heap.size + 1)) := grown_trans (grown_trans (grown_set V _ _ _) (grown_set _ _ _ _)) (grown_set _ _ _ _)
  have e4 := (g2.block _ (lt_of_heap e3) (by simp)).trans e3
  have l1 := ox.lt
  have l2 := oy.lt
  have x1 := owns_keepB (W' := V) ox (fun k hk => g1.block k (l1 k hk).2 (fun e => by have := (l1 k hk).1; simp at e; omega))
  have x2 := owns_keepB (W' := V) oy (fun k hk => g1.block k (l2 k hk).2 (fun e => by have := (l2 k hk).1; simp at e; omega))
  have m1 := x1.lt
  have m2 := x2.lt
  have y1 := owns_keepB (W' := W') x1 (fun k hk => by rw [hW']; exact g2.block k (m1 k hk).2 (fun e => by have := (m1 k hk).1; simp at e; omega))
  have y2 := owns_keepB (W' := W') x2 (fun k hk => by rw [hW']; exact g2.block k (m2 k hk).2 (fun e => by have := (m2 k hk).1; simp at e; omega))
  have hb1 := hB.grown g1 hB.size (fun k hk => by simp at hk; omega)
  have hb2 := hb1.grown g2 hb1.size (fun k hk => by simp at hk; omega)
  refine ⟨by rw [hW']; exact e4, by rw [hW']; exact f3, owns_baseS y1 (by omega), owns_baseS y2 (by omega), ?_⟩
  rw [hW']
  exact ⟨hb2.os, hb2.tape, hb2.output, hb2.size, hb2.block⟩

set_option maxRecDepth 100000 in
set_option maxHeartbeats 4000000 in
theorem drawTog_any (a : Option Addr) (len cap : Nat) (w : World) (hc : Code w a len w.heap.size) :
    Calls Tryz.prog 46 #[.slice a len cap] w fun e w' => ∃ x y u v, e = .returned (.tuple #[.agg (wayC x u), .agg (wayC y v)]) ∧ x.hops.length ≤ 1000 ∧ y.hops.length ≤ 1000 ∧ w'.ownsRow w.heap.size 3 1 u x.hops.length (flat intE x.hops) ∧ w'.ownsRow w.heap.size 3 1 v y.hops.length (flat intE y.hops) ∧ Below w.heap.size w w' := by
  have BA : Below w.heap.size w ((w.alloc (.cells #[.int .i64 0, .int .i64 0, .slice none 0 0] 73)).alloc (.cells #[.int .i64 0, .int .i64 0, .slice none 0 0] 73)) := below_two _ _
  have p0 : ((w.alloc (.cells #[.int .i64 0, .int .i64 0, .slice none 0 0] 73)).alloc (.cells #[.int .i64 0, .int .i64 0, .slice none 0 0] 73)).heap[w.heap.size]? = some (.cells #[.int .i64 0, .int .i64 0, .slice none 0 0] 73) := by rw [Below.heap_alloc _ _ _ (by simp), heap_alloc_new]
  have p1 : ((w.alloc (.cells #[.int .i64 0, .int .i64 0, .slice none 0 0] 73)).alloc (.cells #[.int .i64 0, .int .i64 0, .slice none 0 0] 73)).heap[w.heap.size + 1]? = some (.cells #[.int .i64 0, .int .i64 0, .slice none 0 0] 73) := by
    have h := heap_alloc_new (w.alloc (.cells #[.int .i64 0, .int .i64 0, .slice none 0 0] 73)) (.cells #[.int .i64 0, .int .i64 0, .slice none 0 0] 73)
    simpa using h
  have HN := hide (new_any a len cap _ (code_later hc BA))
  have P0 := hide p0
  have P1 := hide p1
  clear hc p0 p1
  go_enter Tryz.func46, Tryz.ntmps46
  go_wp2_with fail
  obtain ⟨w0, hw0⟩ : ∃ W, W = (w.alloc (.cells #[.int .i64 0, .int .i64 0, .slice none 0 0] 73)).alloc (.cells #[.int .i64 0, .int .i64 0, .slice none 0 0] 73) := ⟨_, rfl⟩
  rw [← hw0] at BA P0 P1 HN ⊢
  clear hw0
  refine HN.out.mono ?_
  rintro e w1 ⟨rfl, c1, b1⟩
  obtain ⟨p, hp⟩ : ∃ p, p = w0.heap.size := ⟨_, rfl⟩
  rw [← hp] at c1 ⊢
  have hl1 := lt_of_heap P1.out
  have hpw : w.heap.size + 1 < p := by omega
  have hb1s : w0.heap.size ≤ w1.heap.size := b1.size
  have hp1 : p < w1.heap.size := by obtain ⟨i, h, _, hq⟩ := c1.1; exact lt_of_heap hq
  have q0 := (b1.block _ (by omega)).trans P0.out
  have q1 := (b1.block _ (by omega)).trans P1.out
  have B1 : Below w.heap.size w w1 := BA.trans (b1.mono BA.size)
  have HW1 := hide (sway_any p a len cap w1 c1 hp1)
  have HP := hide hp
  have Q0 := hide q0
  have Q1 := hide q1
  clear c1 b1 q0 q1 P0 P1 HN BA hp
  go_wp2_with fail
  refine HW1.out.mono ?_
  rintro e w2 ⟨x, u, rfl, hxl, ox, c2, g2⟩
  obtain ⟨ua, uc, rfl⟩ := owns_lenS ox
  have hs2 := g2.size
  have q0 := (g2.block _ (by omega) (by simp; omega)).trans Q0.out
  have q1 := (g2.block _ (by omega) (by simp; omega)).trans Q1.out
  have B2 : Below w.heap.size w w2 := B1.grown g2 (by omega) (fun k hk => by simp at hk; omega)
  have hzA := heap_alloc_new w2 (.cells #[.int .i64 x.to, .int .i64 x.cost, .slice ua x.hops.length uc] 73)
  have BA2 : Below w2.heap.size w2 (w2.alloc (.cells #[.int .i64 x.to, .int .i64 x.cost, .slice ua x.hops.length uc] 73)) := (Below.refl _ _).alloc (Nat.le_refl _) _
  have c3 := cur_alloc c2 (.cells #[.int .i64 x.to, .int .i64 x.cost, .slice ua x.hops.length uc] 73)
  have HW2 := hide (sway_any p a len cap _ c3 (by simp; omega))
  have OX := hide (ox.alloc (.cells #[.int .i64 x.to, .int .i64 x.cost, .slice ua x.hops.length uc] 73))
  have HZA := hide hzA
  have Q0' := hide ((BA2.block _ (by omega)).trans q0)
  have Q1' := hide ((BA2.block _ (by omega)).trans q1)
  have B3 : Below w.heap.size w (w2.alloc (.cells #[.int .i64 x.to, .int .i64 x.cost, .slice ua x.hops.length uc] 73)) := B2.trans (BA2.mono (by omega))
  have hs3 : w2.heap.size < (w2.alloc (.cells #[.int .i64 x.to, .int .i64 x.cost, .slice ua x.hops.length uc] 73)).heap.size := by simp
  clear ox c2 c3 q0 q1 hzA HW1 Q0 Q1 BA2
  unfold wayC at *
  go_wp2_with fail
  obtain ⟨w3, hw3⟩ : ∃ W, W = w2.alloc (.cells #[.int .i64 x.to, .int .i64 x.cost, .slice ua x.hops.length uc] 73) := ⟨_, rfl⟩
  rw [← hw3] at HW2 OX HZA Q0' Q1' B3 hs3 ⊢
  clear hw3
  obtain ⟨zA, hzz⟩ : ∃ z, z = w2.heap.size := ⟨_, rfl⟩
  rw [← hzz] at HZA hs3 ⊢
  have hzA1 : w2.heap.size ≤ zA := by omega
  have HZZ := hide hzz
  clear hzz
  refine HW2.out.mono ?_
  rintro e w4 ⟨y, v, rfl, hyl, oy, c4, g4⟩
  obtain ⟨va, vc, rfl⟩ := owns_lenS oy
  have hs4 := g4.size
  have q0 := (g4.block _ (by omega) (by simp; omega)).trans Q0'.out
  have q1 := (g4.block _ (by omega) (by simp; omega)).trans Q1'.out
  have zA4 := (g4.block zA hs3 (by simp; omega)).trans HZA.out
  have ox4 := owns_keepB (W' := w4) OX.out (fun k hk => g4.block k (OX.out.lt k hk).2 (fun e => by have := (OX.out.lt k hk).1; simp at e; omega))
  have B4 : Below w.heap.size w w4 := B3.grown g4 (by omega) (fun k hk => by simp at hk; omega)
  have hyz := fun k hk => (oy.lt k hk).2
  have hxz := fun k hk => (OX.out.lt k hk).2
  have BAy : Below w4.heap.size w4 (w4.alloc (.cells #[.int .i64 y.to, .int .i64 y.cost, .slice va y.hops.length vc] 73)) := (Below.refl _ _).alloc (Nat.le_refl _) _
  have m0 := cells_at ((BAy.block zA (by omega)).trans zA4) 0
  simp at m0
  have BAx : Below w4.heap.size w4 (w4.alloc (.cells #[.int .i64 x.to, .int .i64 y.cost, .slice va y.hops.length vc] 73)) := (Below.refl _ _).alloc (Nat.le_refl _) _
  have hzB := heap_alloc_new w4 (.cells #[.int .i64 x.to, .int .i64 y.cost, .slice va y.hops.length vc] 73)
  have c5 := cur_alloc c4 (.cells #[.int .i64 x.to, .int .i64 y.cost, .slice va y.hops.length vc] 73)
  have HO := hide (once_any p a len cap 10 _ c5 (by omega) (by omega))
  have O5x := hide (ox4.alloc (.cells #[.int .i64 x.to, .int .i64 y.cost, .slice va y.hops.length vc] 73))
  have O5y := hide (oy.alloc (.cells #[.int .i64 x.to, .int .i64 y.cost, .slice va y.hops.length vc] 73))
  have Q05 := hide ((BAx.block _ (by omega)).trans q0)
  have Q15 := hide ((BAx.block _ (by omega)).trans q1)
  have ZA5 := hide ((BAx.block _ (by omega)).trans zA4)
  have ZB5 := hide hzB
  have B5 : Below w.heap.size w (w4.alloc (.cells #[.int .i64 x.to, .int .i64 y.cost, .slice va y.hops.length vc] 73)) := B4.trans (BAx.mono (by omega))
  have hs5 : w4.heap.size < (w4.alloc (.cells #[.int .i64 x.to, .int .i64 y.cost, .slice va y.hops.length vc] 73)).heap.size := by simp
  clear BAy BAx hzB c4 c5 ox4 oy q0 q1 zA4 HW2 OX HZA Q0' Q1' HZZ g2 g4
  go_wp2_with fail
  obtain ⟨w5, hw5⟩ : ∃ W, W = w4.alloc (.cells #[.int .i64 x.to, .int .i64 y.cost, .slice va y.hops.length vc] 73) := ⟨_, rfl⟩
  rw [← hw5] at HO O5x O5y Q05 Q15 ZA5 ZB5 B5 hs5 ⊢
  clear hw5 m0
  obtain ⟨zB, hzz⟩ : ∃ z, z = w4.heap.size := ⟨_, rfl⟩
  rw [← hzz] at ZB5 hs5 ⊢
  have hzB1 : w4.heap.size ≤ zB := by omega
  have hzB2 : zB ≤ w4.heap.size := by omega
  clear hzz
  refine HO.out.mono ?_
  rintro e w6 ⟨b, rfl, c6, g6⟩
  have hs6 := g6.size
  have q0 := (g6.block _ (by omega) (by simp; omega)).trans Q05.out
  have q1 := (g6.block _ (by omega) (by simp; omega)).trans Q15.out
  have za := (g6.block zA (by omega) (by simp; omega)).trans ZA5.out
  have zb := (g6.block zB (by omega) (by simp; omega)).trans ZB5.out
  have ox := owns_keepB (W' := w6) O5x.out (fun k hk => g6.block k (O5x.out.lt k hk).2 (fun e => by have := (O5x.out.lt k hk).1; simp at e; omega))
  have oy := owns_keepB (W' := w6) O5y.out (fun k hk => g6.block k (O5y.out.lt k hk).2 (fun e => by have := (O5y.out.lt k hk).1; simp at e; omega))
  have B6 : Below w.heap.size w w6 := B5.grown g6 (by omega) (fun k hk => by simp at hk; omega)
  clear HO O5x O5y Q05 Q15 ZA5 ZB5
  have hzAB : zA < zB := by omega
  have hwA : w.heap.size + 1 < zA := by omega
  have hB6 : zB < w6.heap.size := by omega
  have hxb := ox.lt
  have hyb := oy.lt
  cases b
  · have m0 := cells_at za 0
    have m1 := cells_at za 1
    have m2 := cells_at za 2
    have n0 := cells_at zb 0
    have n1 := cells_at zb 1
    have n2 := cells_at zb 2
    have r0 := cells_at q0 0
    have r1 := cells_at q0 1
    have r2 := cells_at q0 2
    have s0 := cells_at q1 0
    have s1 := cells_at q1 1
    have s2 := cells_at q1 2
    simp at m0 m1 m2 n0 n1 n2 r0 r1 r2 s0 s1 s2
    have fr := frozen_at q0
    have fs := frozen_at q1
    have Q0 := hide q0
    have Q1 := hide q1
    have OX := hide ox
    have OY := hide oy
    clear q0 q1 za zb ox oy c6 g6
    go_wp2
    go_region
    have F := ways_out w w6 x ⟨x.to, y.cost, y.hops⟩ (.slice ua x.hops.length uc) (.slice va y.hops.length vc) B6 Q0.out Q1.out OX.out OY.out (by omega) (by omega)
    go_wp2
    (try simp only [Exit.inBlock, Exit.then])
    refine bodyPost_ret (results_ways rfl _ _ w.heap.size (w.heap.size + 1) 73 73 (wayC _ _) (wayC _ _) (0, 0) (0, 0) _ rfl F.1 rfl F.2.1 Tryz.underlying73 rfl (by kernel_rfl) (by kernel_rfl)) rfl ?_
    exact ⟨_, _, _, _, rfl, by omega, by simp; omega, F.2.2.1, F.2.2.2.1, F.2.2.2.2⟩
  · go_wp2
    refine wp_region_noPanic ?_
    refine wp_region_start (S := fun _ => True) (by kernel_rfl) 9 rfl trivial (fun ops hops _ => ?_)
    refine take_do 0 (oi := ?_) (v := ?_) ?_ (by rw [hops.out]; kernel_rfl) ?_ ?_ ?_ trivial ?_
    rotate_left 2
    · rw [hops.out]; simp only [List.getElem?_toArray, List.getElem?_cons_succ, List.getElem?_cons_zero]; rfl
    · rw [hops.out]; kernel_rfl
    · intro W hW; (try dsimp only at hW); go_simp <;> with_reducible rfl
    · exact fun _ _ _ h => h
    try simp only [Act.put, List.setIfInBounds_toArray, List.set_cons_zero, List.set_cons_succ]
    refine take_do 2 (oi := ?_) (v := ?_) ?_ (by rw [hops.out]; kernel_rfl) ?_ ?_ ?_ trivial ?_
    rotate_left 2
    · rw [hops.out]; simp only [List.getElem?_toArray, List.getElem?_cons_succ, List.getElem?_cons_zero]; rfl
    · rw [hops.out]; kernel_rfl
    · intro W hW; (try dsimp only at hW); go_simp <;> with_reducible rfl
    · exact fun _ _ _ h => h
    try simp only [Act.put, List.setIfInBounds_toArray, List.set_cons_zero, List.set_cons_succ]
    refine dt_dag p zB w3.heap.size a len cap x.to y.cost y.hops va vc w6.drew _ ops hops (by simp; omega) (by simp; omega) (by omega) (by exact c6) (by omega) (by simp; omega) zb (owns_keepB oy (fun _ _ => rfl)) (fun e => by have := hyb _ e; omega) (fun e => by have := hyz _ e; omega) ?_
    intro W7 w8 g3 g1 z va' vc' h67 c7 h78 o8 b8
    clear hops ops
    have hs7 := h67.size
    have hs8 := h78.size
    simp at hs7
    have h89 := grown_set w8 zB 2 (.slice va' (y.hops.length + 1) vc')
    have hs9 := h89.size
    have q0 := (((h89.block w.heap.size (by omega) (by simp; omega)).trans (h78.block _ (by omega) (fun e => by have := hyb _ e.symm; omega))).trans (h67.block _ (by simp; omega) (by simp; omega))).trans q0
    have q1 := (((h89.block (w.heap.size + 1) (by omega) (by simp; omega)).trans (h78.block _ (by omega) (fun e => by have := hyb _ e.symm; omega))).trans (h67.block _ (by simp; omega) (by simp; omega))).trans q1
    have za := (((h89.block zA (by omega) (by simp; omega)).trans (h78.block _ (by omega) (fun e => by have := hyb _ e.symm; omega))).trans (h67.block _ (by simp; omega) (by simp; omega))).trans za
    have zb := heap_setCell_same _ _ 2 _ _ (.slice va' (y.hops.length + 1) vc') b8
    have ox := owns_keepB (W' := w8.setCell ⟨zB, 2, none⟩ (.slice va' (y.hops.length + 1) vc')) ox (fun k hk => ((h89.block k (by have := hxb k hk; omega) (by have := hxz k hk; simp; omega)).trans (h78.block _ (by have := hxb k hk; omega) (fun e => by have := hyb _ e.symm; have := hxz k hk; omega))).trans (h67.block _ (by have := hxb k hk; simp; omega) (by have := hxb k hk; simp; omega)))
    have oy := o8.kept h89 (.inr (fun e => by
      rcases o8.2 with ⟨h, _⟩ | ⟨g, cap, cur, hv, _, hh, _⟩
      · rw [h] at e; simp [Value.ownBlock] at e
      · rw [hv] at e
        simp [Value.ownBlock] at e
        subst e
        rw [b8] at hh
        simp at hh))
    have B7 : Below w.heap.size w W7 := (show Below w.heap.size w w6.drew from ⟨B6.os, B6.tape, B6.output, B6.size, B6.block⟩).grown h67 (by simp; omega) (fun k hk => by simp at hk; omega)
    have B8 := B7.grown h78 B7.size (fun k hk => by have := hyb _ hk; omega)
    have B9 := B8.grown h89 B8.size (fun k hk => by simp at hk; omega)
    obtain ⟨w9, hw9⟩ : ∃ V, V = w8.setCell ⟨zB, 2, none⟩ (.slice va' (y.hops.length + 1) vc') := ⟨_, rfl⟩
    rw [← hw9] at q0 q1 za zb ox oy B9 ⊢
    clear hw9 h67 h78 h89 c7 o8 b8
    have m0 := cells_at za 0
    have m1 := cells_at za 1
    have m2 := cells_at za 2
    have n0 := cells_at zb 0
    have n1 := cells_at zb 1
    have n2 := cells_at zb 2
    have r0 := cells_at q0 0
    have r1 := cells_at q0 1
    have r2 := cells_at q0 2
    have s0 := cells_at q1 0
    have s1 := cells_at q1 1
    have s2 := cells_at q1 2
    simp at m0 m1 m2 n0 n1 n2 r0 r1 r2 s0 s1 s2
    have fr := frozen_at q0
    have fs := frozen_at q1
    have Q0 := hide q0
    have Q1 := hide q1
    have OX := hide ox
    have OY := hide oy
    clear q0 q1 za zb ox oy c6
    go_wp2
    go_region
    have F := ways_out w w9 x ⟨x.to, y.cost, y.hops ++ [z]⟩ (.slice ua x.hops.length uc) (.slice va' (y.hops.length + 1) vc') B9 Q0.out Q1.out OX.out OY.out (by omega) (by omega)
    go_wp2
    (try simp only [Exit.inBlock, Exit.then])
    refine bodyPost_ret (results_ways rfl _ _ w.heap.size (w.heap.size + 1) 73 73 (wayC _ _) (wayC _ _) (0, 0) (0, 0) _ rfl F.1 rfl F.2.1 Tryz.underlying73 rfl (by kernel_rfl) (by kernel_rfl)) rfl ?_
    exact ⟨_, _, _, _, rfl, by omega, by simp; omega, F.2.2.1, by simpa using F.2.2.2.1, F.2.2.2.2⟩
end Go.Proofs.YtdaigojpeofmpaaGreat
namespace Go.Proofs.YtdaigojpeofmpaaGreat
open Go.RowKit

set_option linter.unusedSimpArgs false

theorem netOkI_thB {x : NetD} (h : netOkI x = true) : ∀ t ∈ x.ts, 1 ≤ t.o ∧ t.o ≤ x.n := by
  simp only [netOkI, Bool.and_eq_true] at h
  intro t ht
  have := okT_of h.2 t ht
  simp only [thOkB, inB, Bool.and_eq_true, decide_eq_true_eq] at this
  omega

set_option maxRecDepth 100000 in
set_option maxHeartbeats 8000000 in
theorem fnBack_walk (a : Option Addr) (len cap : Nat) (w : World) (hw : len ≤ 1048576 → Code w a len w.heap.size) :
    Calls Tryz.prog 8 #[.slice a len cap] w fun e w' => e = .returned (.bool true) ∧ Below w.heap.size w w' := by
  have HW := hide hw
  clear hw
  by_cases hlen : len ≤ 1048576
  case neg =>
    have HBIG := hide (big_any a len cap)
    rw [decide_eq_true (show (1048576 : Int) < (len : Int) by omega)] at HBIG
    go_enter Tryz.func8, Tryz.ntmps8
    go_wp2_with fail
    refine (HBIG.out _).mono ?_
    rintro e w1 ⟨rfl, rfl⟩
    go_wp2
    go_ret
    exact ⟨rfl, Below.refl _ _⟩
  have HBIG := hide (big_any a len cap)
  rw [decide_eq_false (show ¬ (1048576 : Int) < (len : Int) by omega)] at HBIG
  have HCODE := hide (HW.out hlen)
  clear HW
  go_enter Tryz.func8, Tryz.ntmps8
  go_wp2_with fail
  refine (HBIG.out _).mono ?_
  rintro e w1 ⟨rfl, rfl⟩
  go_wp2_with fail
  refine (drawRB_any a len cap _ HCODE.out).mono ?_
  rintro e w1 ⟨x, v, y, z, ys, zs, rfl, hok, hnet, hbl, b1⟩
  obtain ⟨hy, hz, hyl, hzl⟩ := hbl.out
  have hth := netOkI_thB hok
  have hn6 := netOkI_n hok
  have hl12 := netOkI_l hok
  obtain ⟨n, ls, ts⟩ := x
  obtain ⟨v1, v2, rfl, h1, h2⟩ := hnet
  simp only [] at hth hn6 hl12 h1 h2 hyl hzl
  obtain ⟨N, rfl⟩ : ∃ N : Nat, n = (N : Int) := ⟨n.toNat, by omega⟩
  have BA : Below w1.heap.size w1 (w1.alloc (.cells #[.int .i64 (N : Int), v1, v2] 27)) := (Below.refl _ _).alloc (Nat.le_refl _) _
  have HST := hide (ideal_store (bs := ys) (zs := zs) hok)
  have HID := hide (sideal_any v1 v2 y z N ls ts ys zs (w1.alloc (.cells #[.int .i64 (N : Int), v1, v2] 27)) hok (by omega) (by omega) hl12.1 hl12.2 hth (RowAt.then h1 BA) (RowAt.then h2 BA) (RowAt.then hy BA) (RowAt.then hz BA) hyl (by omega))
  obtain ⟨a1, c1, rfl⟩ := h1.shape
  obtain ⟨a2, c2, rfl⟩ := h2.shape
  obtain ⟨a3, c3, rfl⟩ := hy.shape
  obtain ⟨a4, c4, rfl⟩ := hz.shape
  have hx1 : (w1.alloc (.cells #[.int .i64 (N : Int), .slice a1 ls.length c1, .slice a2 ts.length c2] 27)).heap[w1.heap.size]? = some (.cells #[.int .i64 (N : Int), .slice a1 ls.length c1, .slice a2 ts.length c2] 27) := heap_alloc_new w1 _
  have HX1 := hide hx1
  have HB1 := hide (b1.trans (BA.mono b1.size))
  have hN1 : 1 ≤ N := by omega
  have hN6 : N ≤ 6 := by omega
  clear hx1 hok h1 h2 hy hz hyl hzl hth hl12 hbl b1 BA HBIG hn6
  go_wp2_with fail
  refine HID.out.mono ?_
  rintro e w3 ⟨o, qs, rfl, hqs, htq, ho, b3⟩
  obtain ⟨oa, oc, rfl⟩ := owns_lenS ho.row
  have hx3 := (b3.block _ (lt_of_heap HX1.out)).trans HX1.out
  have B3 : Below w.heap.size w w3 := HB1.out.trans (b3.mono HB1.out.size)
  obtain ⟨xs, hxs⟩ : ∃ xs, xs = fsts qs := ⟨_, rfl⟩
  have hst : storeB xs = true := by rw [hxs, hqs]; exact HST.out
  have hsym := ideal_sym hst (by rw [hxs, hqs]; exact told_ideal ls ts ys zs N) 0
  have HWI := hide (fun (ar sr : Int) W (hb : Below w3.heap.size w3 W) => iwaysIn_any (.slice oa qs.length oc) qs w3.heap.size ar sr W (ho.in.below hb (Nat.le_refl _)) hb.size (by omega))
  rw [← hxs] at HWI
  have HS := hide hst
  have HSYM := hide hsym
  have HX3 := hide hx3
  have HB3 := hide B3
  clear hqs htq ho b3 hst hx3 B3 HST HID HX1 HB1 hxs hsym
  go_wp2
  go_loopw [8] (fun i wr => ∃ v : Nat, 1 ≤ v ∧ v ≤ N + 1 ∧ i = .int .i64 (v : Int) ∧ Below w3.heap.size w3 wr) (fun i _ => 8 - (intOf i).toNat)
  case atStart => exact ⟨1, by omega, by omega, rfl, Below.refl _ _⟩
  case round =>
    rename World => wb
    obtain ⟨v, hv1, hv2, rfl, bb⟩ := hrel
    have hxb := (bb.block _ (lt_of_heap HX3.out)).trans HX3.out
    have e0 := cells_at hxb 0
    simp at e0
    clear hxb
    by_cases hlv : v ≤ N
    · have hlv' : (v : Int) ≤ (N : Int) := by omega
      go_wp2_with fail
      refine (HWI.out 0 (v : Int) _ bb).mono ?_
      rintro e w4 ⟨u4, ws, rfl, hws, hwo, b4⟩
      obtain ⟨ua, uc, rfl⟩ := owns_lenS hwo.row
      have bb4 : Below w3.heap.size w3 w4 := bb.trans (b4.mono bb.size)
      have hwt : totW ws ≤ 42 := ways_tot hws.eq
      have hwl := totW_len ws
      have HWY := hide hws
      have HWO := hide hwo
      clear hws hwo b4 e0
      go_wp2
      go_loopw [10] (fun i wr => ∃ j : Nat, j ≤ ws.length ∧ i = .int .i64 (j : Int) ∧ Below w4.heap.size w4 wr) (fun i _ => 50 - (intOf i).toNat)
      case atStart => exact ⟨0, by omega, rfl, Below.refl _ _⟩
      case round =>
        rename World => wq
        obtain ⟨j, hj, rfl, bc⟩ := hrel
        have bc3 : Below w3.heap.size w3 wq := bb4.trans (bc.mono bb4.size)
        have hszc := bc.size
        by_cases hlj : j < ws.length
        · obtain ⟨p, hp⟩ : ∃ p, ws[j]? = some p := ⟨ws[j], List.getElem?_eq_getElem hlj⟩
          obtain ⟨g, off, cap', hve, hgb, c0, c1, c2, hpn⟩ := HWO.out.at.cells j p hp
          cases hve
          have hpm : p.1 ∈ fstsW ws := List.mem_map_of_mem (List.mem_of_getElem? hp)
          obtain ⟨hzz, t, ht1, ht6, hto⟩ := ways_zero HWY.out hpm
          rw [hto] at c0
          rw [← bc.cell (p := ⟨g, off + j * 3, none⟩) (by show g < w4.heap.size; omega)] at c0
          rw [← bc.cell (p := ⟨g, off + j * 3 + 1, none⟩) (by show g < w4.heap.size; omega)] at c1
          have hgc : g < wq.heap.size := by omega
          have hlj' : (j : Int) < (ws.length : Int) := by omega
          have hj00 : (0 : Int) ≤ (j : Int) := by omega
          have HPM := hide hpm
          have HTO := hide hto
          have C1 := hide c1
          clear hpm hto hzz hpn hp c1 c2
          go_wp2_with fail
          refine (HWI.out 0 (t : Int) _ bc3).mono ?_
          rintro e w5 ⟨u5, es, rfl, hes, heo, b5⟩
          obtain ⟨ia, ic, rfl⟩ := owns_lenS heo.row
          have het : totW es ≤ 42 := ways_tot hes.eq
          obtain ⟨i1, i2⟩ := ways_back HS.out HSYM.out HWY.out HPM.out HTO.out hes
          have HWT := hide (iwayTo_any (.slice ia es.length ic) es _ _ (v : Int) w5 heo (Nat.le_refl _) (by omega))
          rw [i1] at HWT
          obtain ⟨D, hD⟩ : ∃ D, D = wayToD (fstsW es) (v : Int) := ⟨_, rfl⟩
          rw [← hD] at HWT i2
          clear hes heo i1 hD c0
          go_wp2_with fail
          refine HWT.out.mono ?_
          rintro e w6 ⟨u6, rfl, o6, b6⟩
          obtain ⟨ea, ec, rfl⟩ := owns_lenS o6
          have b56 : Below wq.heap.size wq w6 := b5.trans (b6.mono b5.size)
          have hs6 := b56.size
          have BX := (Below.refl w6.heap.size w6).alloc (Nat.le_refl _) (.cells #[.int .i64 D.to, .int .i64 p.1.cost, .slice ea D.hops.length ec] 73)
          have HH := hide (heap_alloc_new w6 (.cells #[.int .i64 D.to, .int .i64 p.1.cost, .slice ea D.hops.length ec] 73))
          have B7 : Below wq.heap.size wq (w6.alloc (.cells #[.int .i64 D.to, .int .i64 p.1.cost, .slice ea D.hops.length ec] 73)) := b56.trans (BX.mono b56.size)
          have k1 := (B7.cell (p := ⟨g, off + j * 3 + 1, none⟩) hgc).trans C1.out
          unfold wayC
          rw [i2]
          clear o6 b6 b5 BX HWT i2 b56
          go_wp2
          obtain ⟨w7, hw7⟩ : ∃ V, V = w6.alloc (.cells #[.int .i64 D.to, .int .i64 p.1.cost, .slice ea D.hops.length ec] 73) := ⟨_, rfl⟩
          rw [← hw7] at HH B7 k1 ⊢
          clear hw7
          have hbx := cells_at HH.out 1
          simp at hbx
          go_quiet (fail)
          go_wp2
          go_roundw
          case rel => exact ⟨j + 1, by omega, by go_num, bc.trans ((below_drewN B7 _).mono bc.size)⟩
          case measure => simp [intOf]; omega
        · have hlj' : ¬ (j : Int) < (ws.length : Int) := by omega
          go_wp2
          go_roundw
          case rel => exact ⟨v + 1, by omega, by omega, by go_num, bc3⟩
          case measure => simp [intOf]; omega
    · have hlv' : ¬ (v : Int) ≤ (N : Int) := by omega
      have BW : Below w.heap.size w wb := HB3.out.trans (bb.mono HB3.out.size)
      have HDT := hide (drawTog_any a len cap wb (code_later HCODE.out BW))
      clear HCODE HWI HS HSYM HX3
      go_wp2_with fail
      refine HDT.out.mono ?_
      rintro e w4 ⟨x, y, u, v', rfl, hxl, hyl, ox, oy, b4⟩
      obtain ⟨xa, xc, rfl⟩ := owns_lenS ox
      obtain ⟨ya, yc, rfl⟩ := owns_lenS oy
      have BXY : Below w4.heap.size w4 ((w4.alloc (.cells #[.int .i64 x.to, .int .i64 x.cost, .slice xa x.hops.length xc] 73)).alloc (.cells #[.int .i64 y.to, .int .i64 y.cost, .slice ya y.hops.length yc] 73)) := below_two _ _
      have hx5 : ((w4.alloc (.cells #[.int .i64 x.to, .int .i64 x.cost, .slice xa x.hops.length xc] 73)).alloc (.cells #[.int .i64 y.to, .int .i64 y.cost, .slice ya y.hops.length yc] 73)).heap[w4.heap.size]? = some (.cells #[.int .i64 x.to, .int .i64 x.cost, .slice xa x.hops.length xc] 73) := by rw [Below.heap_alloc _ _ _ (by simp), heap_alloc_new]
      have hy5 : ((w4.alloc (.cells #[.int .i64 x.to, .int .i64 x.cost, .slice xa x.hops.length xc] 73)).alloc (.cells #[.int .i64 y.to, .int .i64 y.cost, .slice ya y.hops.length yc] 73)).heap[w4.heap.size + 1]? = some (.cells #[.int .i64 y.to, .int .i64 y.cost, .slice ya y.hops.length yc] 73) := by
        have h := heap_alloc_new (w4.alloc (.cells #[.int .i64 x.to, .int .i64 x.cost, .slice xa x.hops.length xc] 73)) (.cells #[.int .i64 y.to, .int .i64 y.cost, .slice ya y.hops.length yc] 73)
        simpa using h
      have ox5 := (ox.alloc (.cells #[.int .i64 x.to, .int .i64 x.cost, .slice xa x.hops.length xc] 73)).alloc (.cells #[.int .i64 y.to, .int .i64 y.cost, .slice ya y.hops.length yc] 73)
      have oy5 := (oy.alloc (.cells #[.int .i64 x.to, .int .i64 x.cost, .slice xa x.hops.length xc] 73)).alloc (.cells #[.int .i64 y.to, .int .i64 y.cost, .slice ya y.hops.length yc] 73)
      have hsz : w4.heap.size + 1 < ((w4.alloc (.cells #[.int .i64 x.to, .int .i64 x.cost, .slice xa x.hops.length xc] 73)).alloc (.cells #[.int .i64 y.to, .int .i64 y.cost, .slice ya y.hops.length yc] 73)).heap.size := by simp
      have B4 : Below w.heap.size w w4 := BW.trans (b4.mono BW.size)
      have B5 : Below w.heap.size w ((w4.alloc (.cells #[.int .i64 x.to, .int .i64 x.cost, .slice xa x.hops.length xc] 73)).alloc (.cells #[.int .i64 y.to, .int .i64 y.cost, .slice ya y.hops.length yc] 73)) := B4.trans (BXY.mono B4.size)
      have HX5 := hide hx5
      have HY5 := hide hy5
      have OX5 := hide ox5
      have OY5 := hide oy5
      have HSZ := hide hsz
      clear ox oy hx5 hy5 ox5 oy5 BXY b4 HDT hsz
      unfold wayC
      go_wp2_with fail
      obtain ⟨w5, hw5⟩ : ∃ V, V = (w4.alloc (.cells #[.int .i64 x.to, .int .i64 x.cost, .slice xa x.hops.length xc] 73)).alloc (.cells #[.int .i64 y.to, .int .i64 y.cost, .slice ya y.hops.length yc] 73) := ⟨_, rfl⟩
      rw [← hw5] at HX5 HY5 OX5 OY5 HSZ B5 ⊢
      clear hw5
      obtain ⟨zx, hzx⟩ : ∃ z, z = w4.heap.size := ⟨_, rfl⟩
      obtain ⟨zy, hzy⟩ : ∃ z, z = w4.heap.size + 1 := ⟨_, rfl⟩
      rw [← hzy] at HY5 ⊢
      rw [← hzx] at HX5 ⊢
      have HZX := hide hzx
      have HZY := hide hzy
      clear hzx hzy
      refine (itog_any x y _ _ _ _ w5 OX5.out OY5.out (by omega) (by omega)).mono ?_
      rintro e w6 ⟨u6, rfl, o6, b6⟩
      obtain ⟨T, hT⟩ : ∃ T, T = togI x y := ⟨_, rfl⟩
      rw [← hT] at o6 ⊢
      have hTl : T.hops.length ≤ 2000 := by
        rw [hT]
        unfold togI
        split
        · omega
        · split
          · omega
          · have := hopsI_len x.hops y.hops
            simp only []
            omega
      obtain ⟨ta, tc, rfl⟩ := owns_lenS o6
      have BT := (Below.refl w6.heap.size w6).alloc (Nat.le_refl _) (.cells #[.int .i64 T.to, .int .i64 T.cost, .slice ta T.hops.length tc] 73)
      have B67 : Below w5.heap.size w5 (w6.alloc (.cells #[.int .i64 T.to, .int .i64 T.cost, .slice ta T.hops.length tc] 73)) := b6.trans (BT.mono b6.size)
      have B7 : Below w.heap.size w (w6.alloc (.cells #[.int .i64 T.to, .int .i64 T.cost, .slice ta T.hops.length tc] 73)) := B5.trans (B67.mono B5.size)
      have HT7 := hide (heap_alloc_new w6 (.cells #[.int .i64 T.to, .int .i64 T.cost, .slice ta T.hops.length tc] 73))
      have HX7 := hide ((B67.block _ (lt_of_heap HX5.out)).trans HX5.out)
      have HY7 := hide ((B67.block _ (lt_of_heap HY5.out)).trans HY5.out)
      have OT7 := hide (o6.alloc (.cells #[.int .i64 T.to, .int .i64 T.cost, .slice ta T.hops.length tc] 73))
      have OX7 := hide (owns_keepB (W' := w6.alloc (.cells #[.int .i64 T.to, .int .i64 T.cost, .slice ta T.hops.length tc] 73)) OX5.out (fun k hk => B67.block k (OX5.out.lt k hk).2))
      have OY7 := hide (owns_keepB (W' := w6.alloc (.cells #[.int .i64 T.to, .int .i64 T.cost, .slice ta T.hops.length tc] 73)) OY5.out (fun k hk => B67.block k (OY5.out.lt k hk).2))
      have m0 := cells_at HX7.out 0
      have m1 := cells_at HX7.out 1
      have m2 := cells_at HX7.out 2
      simp at m0 m1 m2
      have n0 := cells_at HY7.out 0
      have n1 := cells_at HY7.out 1
      have n2 := cells_at HY7.out 2
      simp at n0 n1 n2
      have HBE := hide (ibetter_any (.slice xa x.hops.length xc) (.slice ya y.hops.length yc) x y)
      have HBF := hide (ibetter_any (.slice ya y.hops.length yc) (.slice xa x.hops.length xc) y x)
      have HTT := hide hT
      clear o6 b6 BT B67 HX5 HY5 OX5 OY5 hT B5
      unfold wayC at *
      go_wp2_with fail
      obtain ⟨w7, hw7⟩ : ∃ V, V = w6.alloc (.cells #[.int .i64 T.to, .int .i64 T.cost, .slice ta T.hops.length tc] 73) := ⟨_, rfl⟩
      rw [← hw7] at HT7 HX7 HY7 OT7 OX7 OY7 B7 ⊢
      clear hw7 m0 m1 m2 n0 n1 n2
      obtain ⟨zt, hzt⟩ : ∃ z, z = w6.heap.size := ⟨_, rfl⟩
      rw [← hzt] at HT7 ⊢
      clear hzt
      refine (HBE.out w7).mono ?_
      rintro e w8 ⟨rfl, b8⟩
      have HT8 := hide ((b8.block _ (lt_of_heap HT7.out)).trans HT7.out)
      have HX8 := hide ((b8.block _ (lt_of_heap HX7.out)).trans HX7.out)
      have HY8 := hide ((b8.block _ (lt_of_heap HY7.out)).trans HY7.out)
      have OT8 := hide (owns_keepB (W' := w8) OT7.out (fun k hk => b8.block k (OT7.out.lt k hk).2))
      have OX8 := hide (owns_keepB (W' := w8) OX7.out (fun k hk => b8.block k (OX7.out.lt k hk).2))
      have OY8 := hide (owns_keepB (W' := w8) OY7.out (fun k hk => b8.block k (OY7.out.lt k hk).2))
      have B8 : Below w.heap.size w w8 := B7.trans (b8.mono B7.size)
      clear HBE HT7 HX7 HY7 OT7 OX7 OY7 B7 b8
      have m0 := cells_at HX8.out 0
      have m1 := cells_at HX8.out 1
      have m2 := cells_at HX8.out 2
      simp at m0 m1 m2
      have n0 := cells_at HY8.out 0
      have n1 := cells_at HY8.out 1
      have n2 := cells_at HY8.out 2
      simp at n0 n1 n2
      by_cases hb : x.cost < y.cost
      · have hTx : T = x := by rw [HTT.out]; unfold togI betterB; rw [if_pos (by simpa using hb)]
        have hb1 : betterB x y = true := decide_eq_true hb
        have hb2 : betterB y x = false := decide_eq_false (by omega)
        rw [hTx] at HT8 OT8 ⊢
        rw [hb1]
        clear HTT hTl
        go_wp2_with fail
        refine (HBF.out w8).mono ?_
        rintro e w9 ⟨rfl, b9⟩
        rw [hb2]
        have HT9 := hide ((b9.block _ (lt_of_heap HT8.out)).trans HT8.out)
        have HX9 := hide ((b9.block _ (lt_of_heap HX8.out)).trans HX8.out)
        have OT9 := hide (owns_keepB (W' := w9) OT8.out (fun k hk => b9.block k (OT8.out.lt k hk).2))
        have OX9 := hide (owns_keepB (W' := w9) OX8.out (fun k hk => b9.block k (OX8.out.lt k hk).2))
        have B9 : Below w.heap.size w w9 := B8.trans (b9.mono B8.size)
        have HSI := hide (sameI_any _ _ x.hops x.hops w9 (HopsAt.ints (hops_of OT9.out)) (HopsAt.ints (hops_of OX9.out)) (by omega))
        rw [decide_eq_true (rfl : x.hops = x.hops)] at HSI
        clear m0 m1 m2 n0 n1 n2 HT8 HX8 HY8 OT8 OX8 OY8 B8 b9 HBF
        have m0 := cells_at HT9.out 0
        have m1 := cells_at HT9.out 1
        have m2 := cells_at HT9.out 2
        simp at m0 m1 m2
        have n0 := cells_at HX9.out 0
        have n1 := cells_at HX9.out 1
        have n2 := cells_at HX9.out 2
        simp at n0 n1 n2
        go_wp2_with fail
        refine HSI.out.mono ?_
        rintro e w10 ⟨rfl, b10⟩
        have B10 : Below w.heap.size w w10 := B9.trans (b10.mono B9.size)
        clear m0 m1 m2 n0 n1 n2
        go_wp2
        go_ret
        exact ⟨rfl, B10⟩
      · have hb1 : betterB x y = false := decide_eq_false hb
        rw [hb1]
        go_wp2_with fail
        refine (itog_any y x _ _ _ _ w8 OY8.out OX8.out (by omega) (by omega)).mono ?_
        rintro e w9 ⟨u9', rfl, o9, b9⟩
        obtain ⟨U, hU⟩ : ∃ U, U = togI y x := ⟨_, rfl⟩
        rw [← hU] at o9 ⊢
        obtain ⟨va, vc, rfl⟩ := owns_lenS o9
        have BU := (Below.refl w9.heap.size w9).alloc (Nat.le_refl _) (.cells #[.int .i64 U.to, .int .i64 U.cost, .slice va U.hops.length vc] 73)
        have B89 : Below w8.heap.size w8 (w9.alloc (.cells #[.int .i64 U.to, .int .i64 U.cost, .slice va U.hops.length vc] 73)) := b9.trans (BU.mono b9.size)
        have B9 : Below w.heap.size w (w9.alloc (.cells #[.int .i64 U.to, .int .i64 U.cost, .slice va U.hops.length vc] 73)) := B8.trans (B89.mono B8.size)
        have HU9 := hide (heap_alloc_new w9 (.cells #[.int .i64 U.to, .int .i64 U.cost, .slice va U.hops.length vc] 73))
        have OU9 := hide (o9.alloc (.cells #[.int .i64 U.to, .int .i64 U.cost, .slice va U.hops.length vc] 73))
        have HT9 := hide ((B89.block _ (lt_of_heap HT8.out)).trans HT8.out)
        have HX9 := hide ((B89.block _ (lt_of_heap HX8.out)).trans HX8.out)
        have HY9 := hide ((B89.block _ (lt_of_heap HY8.out)).trans HY8.out)
        have OT9 := hide (owns_keepB (W' := w9.alloc (.cells #[.int .i64 U.to, .int .i64 U.cost, .slice va U.hops.length vc] 73)) OT8.out (fun k hk => B89.block k (OT8.out.lt k hk).2))
        have HUU := hide hU
        clear o9 b9 BU B89 HT8 HX8 HY8 OT8 OX8 OY8 hU B8 m0 m1 m2 n0 n1 n2 HBF
        unfold wayC at *
        by_cases hc : y.cost < x.cost
        · have hTy : T = y := by rw [HTT.out]; unfold togI betterB; rw [if_neg (by simpa using hb), if_pos (by simpa using hc)]
          rw [hTy] at HT9 ⊢
          have he : (y.cost != x.cost) = true := by simp; omega
          clear OT9 OU9 HTT HUU hb hc hTl
          have m1 := cells_at HT9.out 1
          simp at m1
          have n1 := cells_at HX9.out 1
          simp at n1
          have k1 := cells_at HY9.out 1
          simp at k1
          go_wp2
          go_ret
          exact ⟨rfl, B9⟩
        · have hyx : y.cost = x.cost := by omega
          have hTc : T.cost = x.cost := by rw [HTT.out]; unfold togI betterB; rw [if_neg (by simpa using hb), if_neg (by simpa using hc)]
          have hTh : T.hops = hopsI x.hops y.hops := by rw [HTT.out]; unfold togI betterB; rw [if_neg (by simpa using hb), if_neg (by simpa using hc)]
          have hUh : U.hops = hopsI y.hops x.hops := by rw [HUU.out]; unfold togI betterB; rw [if_neg (by simpa using hc), if_neg (by simpa using hb)]
          have hTU : T.hops = U.hops := by rw [hTh, hUh, hopsI_sym]
          have HSI := hide (sameI_any _ _ T.hops U.hops _ (HopsAt.ints (hops_of OT9.out)) (HopsAt.ints (hops_of OU9.out)) (by omega))
          rw [decide_eq_true hTU] at HSI
          clear OT9 OU9 HTT HUU hTh hUh hTU
          have m1 := cells_at HT9.out 1
          have m2 := cells_at HT9.out 2
          simp at m1 m2
          have n1 := cells_at HX9.out 1
          simp at n1
          have k1 := cells_at HY9.out 1
          simp at k1
          rw [hTc] at m1
          rw [hyx] at k1
          go_wp2_with fail
          refine HSI.out.mono ?_
          rintro e w10 ⟨rfl, b10⟩
          have B10 : Below w.heap.size w w10 := B9.trans (b10.mono B9.size)
          clear m1 m2 n1 k1 HT9 HX9 HY9
          go_wp2
          go_ret
          exact ⟨rfl, B10⟩
end Go.Proofs.YtdaigojpeofmpaaGreat
namespace Go.Proofs.YtdaigojpeofmpaaGreat
namespace fnBack
open Go.ChangeShapes Go.WideShapes Go.ChangeAt Go.RowKit
open Go.ChangeMaps (open_string shut_string)
set_option linter.unusedVariables false

theorem own : ownKnob Tryz.prog.godebug = none := by kernel_rfl
theorem laidOut : laidOutB Tryz.prog = true := by kernel_rfl

set_option maxRecDepth 100000 in
theorem lifted (os : Os) (started : os.Started) (H : Type) (enc : TypeId × Value → H) :
    ReturnsInHanded {} Tryz.checked os 8 .any (Rows.fnBackSpec.pre6 enc Tryz.prog Tryz.f8 Rows.fnBackRow.domain false) (Rows.fnBackSpec.post enc Tryz.prog Tryz.f8 false true false false) := by
  refine returnsInHanded_of_change (C := Tryz.checked) own started (by kernel_rfl) Tryz.func8
    (ChangeSpec.witness6 (enc := enc) (C := Tryz.checked) false ⟨#[], #[.slice none 0 0], []⟩ 8 (by kernel_rfl) (by kernel_rfl) (by kernel_rfl) (by kernel_rfl)) ?_
  intro W base args ds gs before hval0 hW hcnd _
  have hval : ∀ (j : Nat) t v, Tryz.f8.params[j]? = some t → args[j]? = some v → Value.okWide Tryz.prog W .any base t v := hval0
  have hW' := hW
  obtain ⟨p, q, hA0, hV, rfl, hfz, hnd⟩ := hW
  have hA : DataW.TrodAll enc Tryz.prog W 0 (fun _ => true) true Tryz.f8.params.toList args.toList ds p := hA0
  rw [Tryz.params8] at hA hval
  obtain ⟨v0, vs0, d0, ds0, p0, q0, hargs, rfl, rfl, h0, r0⟩ := trodAll_cons hA
  obtain ⟨rfl, rfl, rfl⟩ := trodAll_nil r0
  obtain rfl : args = #[v0] := by cases args; simp_all
  obtain ⟨rfl, rfl⟩ := trodVars_none hV
  obtain ⟨a0, len0, cap0, rfl⟩ := okWide_slice Tryz.underlying22 (hval 0 22 v0 rfl rfl)
  have k0 := h0
  have lt0 : ∀ x ∈ p0, x.block < W.heap.size := by obtain ⟨m, hm⟩ := k0; exact DataW.trod_lt m _ _ _ hm
  have w0 : len0 ≤ 1048576 → Code W a0 len0 W.heap.size := fun hl20 => by
    obtain ⟨fuel, hf⟩ := h0
    refine ⟨hl20, ?_⟩
    rcases open_ints Tryz.underlying22 Tryz.underlying5 (by kernel_rfl) hf with ⟨hcs, _⟩ | ⟨x, l, c, zs, hcs, _, hl, hm, hz, _, hcell, hwz⟩
    · simp [Value.cells] at hcs
      exact .inl hcs.2.1
    · simp [Value.cells] at hcs
      obtain ⟨rfl, rfl, rfl⟩ := hcs
      by_cases hl0 : len0 = 0
      · exact .inl hl0
      · obtain ⟨b, off, spot⟩ := x
        have hzl : zs.length = cap0 := by simpa using hz
        have hc0 := hcell 0 (by omega)
        have hspot : spot = none := by simpa [Addr.add] using World.cell?_spot hc0
        subst hspot
        have hb : b < W.heap.size := by
          have := World.block_lt_of_cell? W _ hc0
          simpa [Addr.add] using this
        refine .inr ⟨b, off, rfl, hb, fun j hj => ?_⟩
        have hjz : j < zs.length := by omega
        have hcj := hcell j hjz
        have e1 : (⟨b, off, none⟩ : Addr).add j = ⟨b, off + j, none⟩ := by
          simp only [Addr.add]
          split <;> simp_all
        have hgd : zs.getD j 0 = zs[j] := by simp [List.getElem?_eq_getElem hjz]
        have hwj := bounds_u8 (hwz (zs.getD j 0) (by rw [hgd]; exact List.getElem_mem hjz))
        rw [e1] at hcj
        exact ⟨(zs.getD j 0).toNat, by omega, by rw [hcj]; congr 2; omega⟩
  clear hA0 hval0
  refine (fnBack_walk a0 len0 cap0 W w0).mono fun e W' ⟨he, bel⟩ => ?_
  subst he
  exact ⟨_, rfl, _, _, _, [], _, [], hW', trodAll_mk1 (shut_bool Tryz.underlying4 _), (trodAll_cons_mk (Below.trod laidOut (by kernel_rfl) (of_decide_eq_true (by kernel_rfl)) k0 bel lt0) trodAll_mk0), rfl, bel.frame _, fun h => by cases h⟩

theorem over : Rows.fnBackRow.holds Tryz.pinned (OpenSpec.ofChange Rows.fnBackSpec) :=
  OpenClaim.holds_of_wide 8 Tryz.f8 rfl rfl rfl rfl rfl rfl rfl ⟨rfl, rfl, rfl, rfl, rfl⟩ rfl rfl rfl rfl rfl (by kernel_rfl) Tryz.func8 (by kernel_rfl)
    (of_decide_eq_true (by kernel_rfl)) (by unfold Func.isWrapper; first | (rw [if_pos (by decide +kernel)]; kernel_rfl) | (rw [if_neg (by decide +kernel)]; exact ⟨rfl, rfl⟩))
    (fun os started H enc _ => lifted os started H enc)
end fnBack

theorem fnBack_proved : Rows.FnBackSaid := fnBack.over
#print axioms fnBack_proved
end Go.Proofs.YtdaigojpeofmpaaGreat
