/-
  impl.ownHops, ownWay, WayTo: their contracts.
  impl.hopsOfBoth, Together: their contracts.
-/
import Derived.Test.YtidoieolejkflaaGreatPk13
import Derived.Test.YtidoieolejkflaaGreatPk5
namespace Go.Proofs.YtidoieolejkflaaGreat
open Go.RowKit

set_option linter.unusedSimpArgs false

set_option maxRecDepth 100000 in
set_option maxHeartbeats 1000000 in
theorem ownHops_any (l : List Int) (v : Value) (base : Nat) (w : World) (ho : w.ownsRow base 3 1 v l.length (flat intE l)) (hn : l.length ≤ 1048576) :
    Calls Tryz.prog 68 #[v] w fun e w' => ∃ v', e = .returned v' ∧ w'.ownsRow w.heap.size 3 1 v' l.length (flat intE l) ∧ Below w.heap.size w w' := by
  obtain ⟨va, vc, rfl⟩ := owns_lenS ho
  have OW := hide ho
  clear ho
  go_enter Tryz.func68, Tryz.ntmps68
  go_wp2_with (first
    | (at_builtin; refine append_row5 int_flat1 (by omega) intE_one (by omega) _ rfl _ _ 34 rfl w.heap.size 3 Tryz.underlying34 (.int .i64 0) rfl Tryz.info3 _ [] rfl (World.ownsRow_nil _ _ _ _) base _ l rfl OW.out (by simp; omega) (by simp) ?_))
  intro v' w4 hown' hgrow
  obtain ⟨na, nc, rfl⟩ := owns_lenS hown'
  simp only [Value.ownBlock] at hgrow
  have hb4 := hide (show Below w.heap.size w w4 from (Below.refl w.heap.size w).grown hgrow (Nat.le_refl _) (fun k hk => by simp at hk))
  have H1 := hide hown'
  clear hown' hgrow
  go_wp2
  go_ret
  exact ⟨_, rfl, by simpa using H1.out, hb4.out⟩

set_option maxRecDepth 100000 in
set_option maxHeartbeats 1000000 in
theorem ownWay_any (x : WayD) (v : Value) (base : Nat) (w : World) (ho : w.ownsRow base 3 1 v x.hops.length (flat intE x.hops)) (hn : x.hops.length ≤ 1048576) :
    Calls Tryz.prog 93 #[.agg (wayC x v)] w fun e w' => ∃ v', e = .returned (.agg (wayC x v')) ∧ w'.ownsRow w.heap.size 3 1 v' x.hops.length (flat intE x.hops) ∧ Below w.heap.size w w' := by
  obtain ⟨va, vc, rfl⟩ := owns_lenS ho
  have HC := hide (fun W (hb : Below w.heap.size w W) => ownHops_any x.hops (.slice va x.hops.length vc) base W (owns_below ho hb (Nat.le_refl _)) hn)
  clear ho
  go_enter Tryz.func93, Tryz.ntmps93
  unfold wayC
  go_wp2_with fail
  have hb0 : Below w.heap.size w ((w.alloc (.cells #[.int .i64 x.to, .int .i64 x.cost, .slice va x.hops.length vc] 46)).alloc (.cells #[.int .i64 0, .int .i64 0, .slice none 0 0] 46)) := ((Below.refl w.heap.size w).alloc (by simp) _).alloc (by simp) _
  have q0 : ((w.alloc (.cells #[.int .i64 x.to, .int .i64 x.cost, .slice va x.hops.length vc] 46)).alloc (.cells #[.int .i64 0, .int .i64 0, .slice none 0 0] 46)).heap[w.heap.size]? = some (.cells #[.int .i64 x.to, .int .i64 x.cost, .slice va x.hops.length vc] 46) := by
    rw [Below.heap_alloc _ _ _ (by simp), heap_alloc_new]
  have q1 : ((w.alloc (.cells #[.int .i64 x.to, .int .i64 x.cost, .slice va x.hops.length vc] 46)).alloc (.cells #[.int .i64 0, .int .i64 0, .slice none 0 0] 46)).heap[w.heap.size + 1]? = some (.cells #[.int .i64 0, .int .i64 0, .slice none 0 0] 46) := by
    have e := heap_alloc_new (w.alloc (.cells #[.int .i64 x.to, .int .i64 x.cost, .slice va x.hops.length vc] 46)) (.cells #[.int .i64 0, .int .i64 0, .slice none 0 0] 46)
    rw [show (w.alloc (.cells #[.int .i64 x.to, .int .i64 x.cost, .slice va x.hops.length vc] 46)).heap.size = w.heap.size + 1 by simp] at e
    exact e
  generalize ((w.alloc (.cells #[.int .i64 x.to, .int .i64 x.cost, .slice va x.hops.length vc] 46)).alloc (.cells #[.int .i64 0, .int .i64 0, .slice none 0 0] 46)) = w3 at *
  refine (HC.out _ hb0).mono ?_
  rintro e w4 ⟨v', rfl, hown', hb4'⟩
  obtain ⟨na, nc, rfl⟩ := owns_lenS hown'
  have hs1 := lt_of_heap q1
  have hb4 : Below w.heap.size w w4 := hb0.trans (hb4'.mono (by omega))
  have q0 := (hb4'.block _ (by omega)).trans q0
  have q1 := (hb4'.block _ hs1).trans q1
  have r2 := cells_at q0 2
  have f0 := frozen_at q0
  simp at r2
  have q2 := heap_setCell_same w4 w.heap.size 2 _ _ (.slice na x.hops.length nc) q0
  simp only [List.setIfInBounds_toArray, List.set_cons_zero, List.set_cons_succ] at q2
  have q3 : (w4.setCell ⟨w.heap.size, 2, none⟩ (.slice na x.hops.length nc)).heap[w.heap.size + 1]? = some (.cells #[.int .i64 0, .int .i64 0, .slice none 0 0] 46) := by
    rw [heap_setCell_other w4 ⟨w.heap.size, 2, none⟩ _ _ (by show w.heap.size + 1 ≠ w.heap.size; omega)]; exact q1
  have y0 := cells_at q2 0
  have y1 := cells_at q2 1
  have y2 := cells_at q2 2
  simp at y0 y1 y2
  have u0 := cells_at q3 0
  have u1 := cells_at q3 1
  have u2 := cells_at q3 2
  simp at u0 u1 u2
  have fu := frozen_at q3
  have F := finW3 x (.slice na x.hops.length nc) q3
  have hown2 := owns_set (j := 2) (u := .slice na x.hops.length nc) hown' (show w.heap.size < w3.heap.size by omega)
  have G8 := grownW3 (w4.setCell ⟨w.heap.size, 2, none⟩ (.slice na x.hops.length nc)) (w.heap.size + 1) x (.slice na x.hops.length nc)
  have hown3 := owns_baseS (b0 := w.heap.size) (hown2.kept G8 (by
    cases hv : (Value.slice na x.hops.length nc).ownBlock with
    | none => exact .inl rfl
    | some g => exact .inr (fun e => by have := (hown2.lt g hv).1; simp at e; omega))) (by omega)
  have hb5 : Below w.heap.size w (putW3 (w4.setCell ⟨w.heap.size, 2, none⟩ (.slice na x.hops.length nc)) (w.heap.size + 1) x (.slice na x.hops.length nc)) := (hb4.setCell (p := ⟨w.heap.size, 2, none⟩) (Nat.le_refl _) _).grown G8 (by have := lt_of_heap q3; omega) (fun k hk => by simp at hk; omega)
  have FF := hide F
  have H3 := hide hown3
  have H5 := hide hb5
  clear F hown3 hb5 hown2 G8 hb4 hown' hb4' q0 q1 q2 q3 hb0 HC
  go_wp2_with fail
  (try simp only [Exit.inBlock, Exit.then])
  refine bodyPost_ret (results_cell_row rfl _ _ (w.heap.size + 1) 46 (wayC _ _) (0, 0) _ rfl FF.out Tryz.underlying46 rfl (by kernel_rfl)) rfl ?_
  exact ⟨_, rfl, H3.out, H5.out⟩

theorem below_al {B : Nat} {w W : World} (h : Below B w W) (hB : B ≤ w.heap.size) (o : Obj) : Below B w (W.alloc o) := h.alloc (Nat.le_trans hB h.size) o

set_option maxRecDepth 100000 in
set_option maxHeartbeats 2000000 in
theorem iwayTo_any (v : Value) (ps : List WP) (lo hi : Nat) (z : Int) (w : World) (hv : WaysOwn w lo hi v ps) (hhi : hi ≤ w.heap.size) (hn : totW ps ≤ 1048576) :
    Calls Tryz.prog 42 #[v, .int .i64 z] w fun e w' => ∃ u, e = .returned (.tuple #[.agg (wayC (wayToD (fstsW ps) z) u), .bool (wayToB (fstsW ps) z)]) ∧ w'.ownsRow w.heap.size 3 1 u (wayToD (fstsW ps) z).hops.length (flat intE (wayToD (fstsW ps) z).hops) ∧ Below w.heap.size w w' := by
  have hnl := totW_len ps
  obtain ⟨D, hD⟩ : ∃ D, D = wayToD (fstsW ps) z := ⟨_, rfl⟩
  obtain ⟨F, hF⟩ : ∃ F, F = wayToB (fstsW ps) z := ⟨_, rfl⟩
  rw [← hD, ← hF]
  have HD := hide hD
  have HF := hide hF
  clear hD hF
  obtain ⟨a1, c1, rfl⟩ := owns_lenS hv.row
  have HV := hide hv
  clear hv
  have BX : Below w.heap.size w (w.alloc (.cells #[.int .i64 0, .int .i64 0, .slice none 0 0] 46)) := (Below.refl _ _).alloc (Nat.le_refl _) _
  have hq := heap_alloc_new w (.cells #[.int .i64 0, .int .i64 0, .slice none 0 0] 46)
  obtain ⟨w0, hw0⟩ : ∃ W, W = w.alloc (.cells #[.int .i64 0, .int .i64 0, .slice none 0 0] 46) := ⟨_, rfl⟩
  rw [← hw0] at BX hq
  have hs0 := lt_of_heap hq
  have HQ := hide hq
  clear hq
  unfold wayC
  go_enter Tryz.func42, Tryz.ntmps42
  go_wp2
  rw [← hw0]
  clear hw0
  go_loopw [10] (fun i wr => ∃ k : Nat, k ≤ ps.length ∧ i = .int .i64 k ∧ Hid (∀ q ∈ ps.take k, q.1.to ≠ z) ∧ Below w0.heap.size w0 wr) (fun i _ => ps.length - (intOf i).toNat)
  case atStart => exact ⟨0, by omega, rfl, hide (by simp), Below.refl _ _⟩
  case round =>
    obtain ⟨k, hk, rfl, HNO, hnx⟩ := hrel
    have hsz := hnx.size
    have BWR : Below w.heap.size w wr := BX.trans (hnx.mono (by omega))
    have hz1 := (hnx.block _ hs0).trans HQ.out
    by_cases hlt : k < ps.length
    · obtain ⟨p, hp⟩ : ∃ p, ps[k]? = some p := ⟨ps[k], List.getElem?_eq_getElem hlt⟩
      obtain ⟨b, off, cp, hve, hbb, c0, c1, c2, _⟩ := HV.out.at.cells k p hp
      cases hve
      have hbw : b < w.heap.size := by omega
      have hno := HV.out.nears p (List.mem_of_getElem? hp)
      obtain ⟨pa, pc, hpn⟩ := owns_lenS hno.1
      have HCP := hide (fun W (hb : Below w.heap.size w W) => ownWay_any p.1 p.2 lo W (owns_below hno.1 hb (Nat.le_refl _)) (by have := totW_mem (List.mem_of_getElem? hp); omega))
      unfold wayC at HCP
      rw [hpn] at c2 HCP
      rw [← BWR.cell (p := ⟨b, off + k * 3, none⟩) hbw] at c0
      rw [← BWR.cell (p := ⟨b, off + k * 3 + 1, none⟩) hbw] at c1
      rw [← BWR.cell (p := ⟨b, off + k * 3 + 2, none⟩) hbw] at c2
      have hki : (0 : Int) ≤ (k : Int) := by omega
      have hkj : (k : Int) < (ps.length : Int) := by omega
      by_cases hzz : p.1.to = z
      · have hh := wayTo_hit hp HNO.out hzz
        have hDe : D = p.1 := HD.out.trans hh.1
        have hFe : F = true := HF.out.trans hh.2
        subst hDe hFe
        subst hzz
        clear hp hno hpn hh
        go_wp2_with fail
        refine (HCP.out _ (BWR.alloc (by omega) _)).mono ?_
        rintro e w2 ⟨v1, rfl, hn2', b2'⟩
        obtain ⟨na, nc, rfl⟩ := owns_lenS hn2'
        have hn2 := owns_baseS (b0 := wr.heap.size) hn2' (by simp)
        have b2 : Below wr.heap.size wr w2 := ((Below.refl _ _).alloc (Nat.le_refl _) _).trans (b2'.mono (by simp))
        clear hn2' b2'
        have b2s := b2.size
        have hz2 := (b2.block _ (lt_of_heap hz1)).trans hz1
        have u0 := cells_at hz2 0
        have u1 := cells_at hz2 1
        have u2 := cells_at hz2 2
        simp at u0 u1 u2
        have fu := frozen_at hz2
        have FF := hide (finW3 p.1 (.slice na p.1.hops.length nc) hz2)
        have G8 := grownW3 w2 w.heap.size p.1 (.slice na p.1.hops.length nc)
        have O3 := hide (owns_baseS (b0 := w.heap.size) (hn2.kept G8 (by
          cases hv : (Value.slice na p.1.hops.length nc).ownBlock with
          | none => exact .inl rfl
          | some g => exact .inr (fun e => by have := (hn2.lt g hv).1; simp at e; omega))) (by omega))
        have B2 : Below w.heap.size w w2 := BWR.trans (b2.mono (by omega))
        have BF := hide (B2.grown G8 B2.size (fun k hk => by simp at hk; omega))
        clear hz2 hn2 b2 G8 hz1
        go_wp2_with fail
        (try simp only [Exit.inBlock, Exit.then])
        refine bodyPost_ret (results_cell_row_tmpW rfl _ _ w.heap.size 46 (wayC p.1 (.slice na p.1.hops.length nc)) (0, 0) _ rfl FF.out Tryz.underlying46 rfl (by kernel_rfl)) rfl ?_
        exact ⟨_, rfl, O3.out, BF.out⟩
      · have HN := hide (take_all hp HNO.out hzz)
        have hd : (p.1.to == z) = false := by simpa using hzz
        clear hp hno hpn hz1
        go_wp2
        go_roundw
        case rel => exact ⟨k + 1, by omega, by go_num, HN, hnx.alloc (by omega) _⟩
        case measure => simp [intOf]; omega
    · have hh := wayTo_none (ps := ps) (z := z) (by have h := HNO.out; rw [List.take_of_length_le (by omega)] at h; exact h)
      have hDe : D = zeroWD := HD.out.trans hh.1
      have hFe : F = false := HF.out.trans hh.2
      subst hDe hFe
      have u0 := cells_at hz1 0
      have u1 := cells_at hz1 1
      have u2 := cells_at hz1 2
      simp at u0 u1 u2
      have fu := frozen_at hz1
      have FF := hide (finW3 zeroWD (.slice none 0 0) hz1)
      have G8 := hide (grownW3 wr w.heap.size zeroWD (.slice none 0 0))
      clear hz1 hh
      go_wp2_with fail
      (try simp only [Exit.inBlock, Exit.then])
      refine bodyPost_ret (results_cell_row_tmpW rfl _ _ w.heap.size 46 (wayC zeroWD (.slice none 0 0)) (0, 0) _ rfl FF.out Tryz.underlying46 rfl (by kernel_rfl)) rfl ?_
      exact ⟨.slice none 0 0, rfl, World.ownsRow_nil _ _ _ _, BWR.grown G8.out BWR.size (fun k hk => by simp at hk; omega)⟩
end Go.Proofs.YtidoieolejkflaaGreat
namespace Go.Proofs.YtidoieolejkflaaGreat
open Go.RowKit

set_option linter.unusedSimpArgs false

set_option maxRecDepth 100000 in
set_option maxHeartbeats 2000000 in
theorem hopsOf_any (la lb : List Int) (va vb : Value) (ba bb : Nat) (w : World) (ha : w.ownsRow ba 3 1 va la.length (flat intE la)) (hb : w.ownsRow bb 3 1 vb lb.length (flat intE lb)) (hla : la.length ≤ 1048576) (hlb : lb.length ≤ 1048576) :
    Calls Tryz.prog 97 #[va, vb] w fun e w' => ∃ x, e = .returned x ∧ w'.ownsRow w.heap.size 3 1 x (hopsI la lb).length (flat intE (hopsI la lb)) ∧ Below w.heap.size w w' := by
  have H1 := hide (ownHops_any la va ba w ha hla)
  have HB := hide hb
  obtain ⟨pa, qa, rfl⟩ := owns_lenS ha
  obtain ⟨pb, qb, rfl⟩ := owns_lenS hb
  clear ha hb
  go_enter Tryz.func97, Tryz.ntmps97
  go_wp2_with fail
  refine H1.out.mono ?_
  rintro e w1 ⟨v1, rfl, o1, b1⟩
  obtain ⟨p1, q1, rfl⟩ := owns_lenS o1
  have OB := hide (owns_below HB.out b1 (Nat.le_refl _))
  have O1 := hide o1
  have hs1 := b1.size
  clear o1 H1 HB
  go_wp2_with (first
    | (at_builtin; refine append_row5 int_flat1 (by omega) intE_one (by omega) _ rfl _ _ 34 rfl w.heap.size 3 Tryz.underlying34 (.int .i64 0) rfl Tryz.info3 (.slice p1 la.length q1) la rfl O1.out bb (.slice pb lb.length qb) lb rfl OB.out (by omega) hs1 ?_))
  intro v2 w2 o2 hg2
  have B2 : Below w.heap.size w w2 := b1.grown hg2 hs1 (fun k hk => (O1.out.lt k hk).1)
  have hLL : (la ++ lb).length ≤ 2097152 := by simp; omega
  have o2' : w2.ownsRow w.heap.size 3 1 v2 (la ++ lb).length (intsOf (la ++ lb)) := by rw [← flat_int]; simpa using o2
  obtain ⟨L, hL⟩ : ∃ L, L = la ++ lb := ⟨_, rfl⟩
  rw [← hL] at o2' hLL
  have HL := hide hL
  clear hL o2
  obtain ⟨p2, q2, rfl⟩ := owns_lenS o2'
  have HSO := hide (sort_own w.heap.size (.slice p2 L.length q2) L w2 o2' (by omega))
  clear o2' hg2
  go_wp2_with fail
  refine HSO.out.mono ?_
  rintro e w3 ⟨rfl, o3, k3⟩
  have B3 := k3 w.heap.size w (Nat.le_refl _) B2
  have HCO := hide (compact_own w.heap.size _ _ w3 o3 (by rw [List.length_mergeSort]; omega))
  clear o3 k3 HSO
  go_wp2_with fail
  refine HCO.out.mono ?_
  rintro e w4 ⟨x, rfl, o4, k4⟩
  have B4 := hide (k4 w.heap.size w (Nat.le_refl _) B3)
  have O4 := hide o4
  obtain ⟨p4, q4, rfl⟩ := owns_lenS o4
  clear o4 k4 HCO
  go_wp2
  go_ret
  exact ⟨_, rfl, by rw [flat_int]; unfold hopsI; rw [← HL.out]; exact O4.out, B4.out⟩

/-- what impl.Together makes of two ways -/
def togI (x y : WayD) : WayD := if betterB x y then x else if betterB y x then y else ⟨x.to, x.cost, hopsI x.hops y.hops⟩

theorem drewT {B : Nat} {w W : World} (h : Below B w W) : Below B w W.drew := h.trans ⟨rfl, rfl, rfl, Nat.le_refl _, fun _ _ => rfl⟩

set_option maxRecDepth 100000 in
set_option maxHeartbeats 4000000 in
theorem itog_any (x y : WayD) (vx vy : Value) (bx bY : Nat) (w : World) (hx : w.ownsRow bx 3 1 vx x.hops.length (flat intE x.hops)) (hy : w.ownsRow bY 3 1 vy y.hops.length (flat intE y.hops)) (hlx : x.hops.length ≤ 1048576) (hly : y.hops.length ≤ 1048576) :
    Calls Tryz.prog 46 #[.agg (wayC x vx), .agg (wayC y vy)] w fun e w' => ∃ u, e = .returned (.agg (wayC (togI x y) u)) ∧ w'.ownsRow w.heap.size 3 1 u (togI x y).hops.length (flat intE (togI x y).hops) ∧ Below w.heap.size w w' := by
  obtain ⟨D, hD⟩ : ∃ D, D = togI x y := ⟨_, rfl⟩
  rw [← hD]
  have HD := hide hD
  clear hD
  obtain ⟨p1, q1, rfl⟩ := owns_lenS hx
  obtain ⟨p2, q2, rfl⟩ := owns_lenS hy
  have HW1 := hide (fun W (hb : Below w.heap.size w W) => ownWay_any x (.slice p1 x.hops.length q1) bx W (owns_below hx hb (Nat.le_refl _)) hlx)
  have HW2 := hide (fun W (hb : Below w.heap.size w W) => ownWay_any y (.slice p2 y.hops.length q2) bY W (owns_below hy hb (Nat.le_refl _)) hly)
  have HHB := hide (fun W (hb : Below w.heap.size w W) => hopsOf_any x.hops y.hops (.slice p1 x.hops.length q1) (.slice p2 y.hops.length q2) bx bY W (owns_below hx hb (Nat.le_refl _)) (owns_below hy hb (Nat.le_refl _)) hlx hly)
  have HB1 := hide (fun W => ibetter_any (.slice p1 x.hops.length q1) (.slice p2 y.hops.length q2) x y W)
  have HB2 := hide (fun W => ibetter_any (.slice p2 y.hops.length q2) (.slice p1 x.hops.length q1) y x W)
  clear hx hy
  have m0 := heap3_0 w (.cells #[.int .i64 x.to, .int .i64 x.cost, .slice p1 x.hops.length q1] 46) (.cells #[.int .i64 y.to, .int .i64 y.cost, .slice p2 y.hops.length q2] 46) (.cells #[.int .i64 0, .int .i64 0, .slice none 0 0] 46)
  have m1 := heap3_1 w (.cells #[.int .i64 x.to, .int .i64 x.cost, .slice p1 x.hops.length q1] 46) (.cells #[.int .i64 y.to, .int .i64 y.cost, .slice p2 y.hops.length q2] 46) (.cells #[.int .i64 0, .int .i64 0, .slice none 0 0] 46)
  have m2 := heap3_2 w (.cells #[.int .i64 x.to, .int .i64 x.cost, .slice p1 x.hops.length q1] 46) (.cells #[.int .i64 y.to, .int .i64 y.cost, .slice p2 y.hops.length q2] 46) (.cells #[.int .i64 0, .int .i64 0, .slice none 0 0] 46)
  have BQ := below_three (w := w) (.cells #[.int .i64 x.to, .int .i64 x.cost, .slice p1 x.hops.length q1] 46) (.cells #[.int .i64 y.to, .int .i64 y.cost, .slice p2 y.hops.length q2] 46) (.cells #[.int .i64 0, .int .i64 0, .slice none 0 0] 46)
  obtain ⟨w1, hw1⟩ : ∃ W, W = (((w.alloc (.cells #[.int .i64 x.to, .int .i64 x.cost, .slice p1 x.hops.length q1] 46)).alloc (.cells #[.int .i64 y.to, .int .i64 y.cost, .slice p2 y.hops.length q2] 46)).alloc (.cells #[.int .i64 0, .int .i64 0, .slice none 0 0] 46)) := ⟨_, rfl⟩
  rw [← hw1] at m0 m1 m2 BQ
  have s0 := 0
  have s1 := 0
  have s2 := 0
  have t0 := 0
  have t1 := 0
  have t2 := 0
  obtain ⟨F1, hF1⟩ : ∃ b, b = betterB x y := ⟨_, rfl⟩
  obtain ⟨F2, hF2⟩ : ∃ b, b = betterB y x := ⟨_, rfl⟩
  rw [← hF1] at HB1
  rw [← hF2] at HB2
  have HF1 := hide hF1
  have HF2 := hide hF2
  clear hF1 hF2
  unfold wayC at HB1 HB2 HW1 HW2 ⊢
  go_enter Tryz.func46, Tryz.ntmps46
  go_wp2_with fail
  rw [← hw1]
  clear hw1
  refine (HB1.out _).mono ?_
  rintro e w2 ⟨rfl, b1⟩
  have m0 := (b1.block _ (lt_of_heap m0)).trans m0
  have m1 := (b1.block _ (lt_of_heap m1)).trans m1
  have m2 := (b1.block _ (lt_of_heap m2)).trans m2
  have BQ := BQ.trans (b1.mono BQ.size)
  clear s0 s1 s2 t0 t1 t2 b1
  have s0 := cells_at m0 0
  have s1 := cells_at m0 1
  have s2 := cells_at m0 2
  have t0 := cells_at m1 0
  have t1 := cells_at m1 1
  have t2 := cells_at m1 2
  simp at s0 s1 s2 t0 t1 t2
  cases F1
  · go_wp2_with fail
    refine (HB2.out _).mono ?_
    rintro e w3 ⟨rfl, b1⟩
    have m0 := (b1.block _ (lt_of_heap m0)).trans m0
    have m1 := (b1.block _ (lt_of_heap m1)).trans m1
    have m2 := (b1.block _ (lt_of_heap m2)).trans m2
    have BQ := BQ.trans (b1.mono BQ.size)
    clear s0 s1 s2 t0 t1 t2 b1
    have s0 := cells_at m0 0
    have s1 := cells_at m0 1
    have s2 := cells_at m0 2
    have t0 := cells_at m1 0
    have t1 := cells_at m1 1
    have t2 := cells_at m1 2
    simp at s0 s1 s2 t0 t1 t2
    cases F2
    · have hDe : D = ⟨x.to, x.cost, hopsI x.hops y.hops⟩ := by rw [HD.out]; unfold togI; rw [← HF1.out, ← HF2.out]; rfl
      subst hDe
      clear HW1 HW2 HB1 HB2 HD
      go_wp2
      refine wp_region_noPanic ?_
      have hS0 : w3.drew.cell? ⟨w.heap.size, 0, none⟩ = some (.int .i64 x.to) ∧ w3.drew.cell? ⟨w.heap.size, 1, none⟩ = some (.int .i64 x.cost) ∧ w3.drew.cell? ⟨w.heap.size, 2, none⟩ = some (.slice p1 x.hops.length q1) ∧ w3.drew.cell? ⟨w.heap.size + 1, 2, none⟩ = some (.slice p2 y.hops.length q2) := ⟨s0, s1, s2, t2⟩
      refine wp_region_start (S := fun W => W.cell? ⟨w.heap.size, 0, none⟩ = some (.int .i64 x.to) ∧ W.cell? ⟨w.heap.size, 1, none⟩ = some (.int .i64 x.cost) ∧ W.cell? ⟨w.heap.size, 2, none⟩ = some (.slice p1 x.hops.length q1) ∧ W.cell? ⟨w.heap.size + 1, 2, none⟩ = some (.slice p2 y.hops.length q2)) (by kernel_rfl) 11 rfl hS0 ?_
      intro ops hops _
      show wpAnyH Tryz.prog .any ops _ _ 11 #[false, false, false, false, false, false, false, false, false, false, false] _ w3.drew
      refine take_do 0 (oi := ?_) (v := ?_) ?_ (by rw [hops.out]; kernel_rfl) ?_ ?_ ?_ (by assumption) ?_
      rotate_left 2
      · rw [hops.out]; simp only [List.getElem?_toArray, List.getElem?_cons_succ, List.getElem?_cons_zero]; rfl
      · rw [hops.out]; kernel_rfl
      · intro W hW; obtain ⟨k1, k2, k3, k4⟩ := hW; go_simp <;> with_reducible rfl
      · exact fun _ _ _ h => h
      try simp only [Act.put, List.setIfInBounds_toArray, List.set_cons_zero, List.set_cons_succ]
      refine take_do 1 (oi := ?_) (v := ?_) ?_ (by rw [hops.out]; kernel_rfl) ?_ ?_ ?_ (by assumption) ?_
      rotate_left 2
      · rw [hops.out]; simp only [List.getElem?_toArray, List.getElem?_cons_succ, List.getElem?_cons_zero]; rfl
      · rw [hops.out]; kernel_rfl
      · intro W hW; obtain ⟨k1, k2, k3, k4⟩ := hW; go_simp <;> with_reducible rfl
      · exact fun _ _ _ h => h
      try simp only [Act.put, List.setIfInBounds_toArray, List.set_cons_zero, List.set_cons_succ]
      refine take_do 2 (oi := ?_) (v := ?_) ?_ (by rw [hops.out]; kernel_rfl) ?_ ?_ ?_ (by assumption) ?_
      rotate_left 2
      · rw [hops.out]; simp only [List.getElem?_toArray, List.getElem?_cons_succ, List.getElem?_cons_zero]; rfl
      · rw [hops.out]; kernel_rfl
      · intro W hW; obtain ⟨k1, k2, k3, k4⟩ := hW; go_simp <;> with_reducible rfl
      · exact fun _ _ _ h => h
      try simp only [Act.put, List.setIfInBounds_toArray, List.set_cons_zero, List.set_cons_succ]
      refine take_do 3 (oi := ?_) (v := ?_) ?_ (by rw [hops.out]; kernel_rfl) ?_ ?_ ?_ (by assumption) ?_
      rotate_left 2
      · rw [hops.out]; simp only [List.getElem?_toArray, List.getElem?_cons_succ, List.getElem?_cons_zero]; rfl
      · rw [hops.out]; kernel_rfl
      · intro W hW; obtain ⟨k1, k2, k3, k4⟩ := hW; go_simp <;> with_reducible rfl
      · exact fun _ _ _ h => h
      try simp only [Act.put, List.setIfInBounds_toArray, List.set_cons_zero, List.set_cons_succ]
      refine take_do 4 (oi := ?_) (v := ?_) ?_ (by rw [hops.out]; kernel_rfl) ?_ ?_ ?_ (by assumption) ?_
      rotate_left 2
      · rw [hops.out]; simp only [List.getElem?_toArray, List.getElem?_cons_succ, List.getElem?_cons_zero]; rfl
      · rw [hops.out]; kernel_rfl
      · intro W hW; obtain ⟨k1, k2, k3, k4⟩ := hW; go_simp <;> with_reducible rfl
      · exact fun _ _ _ h => h
      try simp only [Act.put, List.setIfInBounds_toArray, List.set_cons_zero, List.set_cons_succ]
      refine take_do 5 (oi := ?_) (v := ?_) ?_ (by rw [hops.out]; kernel_rfl) ?_ ?_ ?_ (by assumption) ?_
      rotate_left 2
      · rw [hops.out]; simp only [List.getElem?_toArray, List.getElem?_cons_succ, List.getElem?_cons_zero]; rfl
      · rw [hops.out]; kernel_rfl
      · intro W hW; obtain ⟨k1, k2, k3, k4⟩ := hW; go_simp <;> with_reducible rfl
      · exact fun _ _ _ h => h
      try simp only [Act.put, List.setIfInBounds_toArray, List.set_cons_zero, List.set_cons_succ]
      refine take_do 6 (oi := ?_) (v := ?_) ?_ (by rw [hops.out]; kernel_rfl) ?_ ?_ ?_ (by assumption) ?_
      rotate_left 2
      · rw [hops.out]; simp only [List.getElem?_toArray, List.getElem?_cons_succ, List.getElem?_cons_zero]; rfl
      · rw [hops.out]; kernel_rfl
      · intro W hW; obtain ⟨k1, k2, k3, k4⟩ := hW; go_simp <;> with_reducible rfl
      · exact fun _ _ _ h => h
      try simp only [Act.put, List.setIfInBounds_toArray, List.set_cons_zero, List.set_cons_succ]
      refine take_do 7 (oi := ?_) (v := ?_) ?_ (by rw [hops.out]; kernel_rfl) ?_ ?_ ?_ (by assumption) ?_
      rotate_left 2
      · rw [hops.out]; simp only [List.getElem?_toArray, List.getElem?_cons_succ, List.getElem?_cons_zero]; rfl
      · rw [hops.out]; kernel_rfl
      · intro W hW; obtain ⟨k1, k2, k3, k4⟩ := hW; go_simp <;> with_reducible rfl
      · exact fun _ _ _ h => h
      try simp only [Act.put, List.setIfInBounds_toArray, List.set_cons_zero, List.set_cons_succ]
      refine take_call 8 (oi := ?_) ?_ (by rw [hops.out]; kernel_rfl) ?_ ?_
      rotate_left 1
      · rw [hops.out]; simp only [List.getElem?_toArray, List.getElem?_cons_succ, List.getElem?_cons_zero]; rfl
      · rw [hops.out]; kernel_rfl
      intro K hK
      go_simp
      refine (HHB.out _ (drewT BQ)).mono ?_
      rintro e w4 ⟨u, rfl, hn2, b2⟩
      obtain ⟨na, nc, rfl⟩ := owns_lenS hn2
      have hK2 : w4.cell? ⟨w.heap.size, 0, none⟩ = some (.int .i64 x.to) ∧ w4.cell? ⟨w.heap.size, 1, none⟩ = some (.int .i64 x.cost) ∧ w4.cell? ⟨w.heap.size, 2, none⟩ = some (.slice p1 x.hops.length q1) ∧ w4.cell? ⟨w.heap.size + 1, 2, none⟩ = some (.slice p2 y.hops.length q2) := by
        refine ⟨?_, ?_, ?_, ?_⟩ <;> (rw [b2.cell (by first | exact lt_of_heap m0 | exact lt_of_heap m1)]; assumption)
      refine hK.out _ _ hK2 (fun _ => ?_)
      clear hK K
      try simp only [Act.put, List.setIfInBounds_toArray, List.set_cons_zero, List.set_cons_succ]
      refine take_do 9 (oi := ?_) (v := ?_) ?_ (by rw [hops.out]; kernel_rfl) ?_ ?_ ?_ (by assumption) ?_
      rotate_left 2
      · rw [hops.out]; simp only [List.getElem?_toArray, List.getElem?_cons_succ, List.getElem?_cons_zero]; rfl
      · rw [hops.out]; kernel_rfl
      · intro W hW; obtain ⟨k1, k2, k3, k4⟩ := hW; go_simp <;> with_reducible rfl
      · exact fun _ _ _ h => h
      try simp only [Act.put, List.setIfInBounds_toArray, List.set_cons_zero, List.set_cons_succ]
      have hz2 := (b2.block _ (lt_of_heap m2)).trans m2
      have hz0 := (b2.block _ (lt_of_heap m0)).trans m0
      have hz1 := (b2.block _ (lt_of_heap m1)).trans m1
      have u0 := cells_at hz2 0
      have u1 := cells_at hz2 1
      have u2 := cells_at hz2 2
      simp at u0 u1 u2
      have fu := frozen_at hz2
      have FF := hide (finW3 ⟨x.to, x.cost, hopsI x.hops y.hops⟩ (.slice na (hopsI x.hops y.hops).length nc) hz2)
      have G8 := grownW3 w4 (w.heap.size + 1 + 1) ⟨x.to, x.cost, hopsI x.hops y.hops⟩ (.slice na (hopsI x.hops y.hops).length nc)
      have hsz := lt_of_heap m2
      have O3 := hide (owns_baseS (b0 := w.heap.size) (hn2.kept G8 (by
        cases hv : (Value.slice na (hopsI x.hops y.hops).length nc).ownBlock with
        | none => exact .inl rfl
        | some g => exact .inr (fun e => by
            have h9 := (hn2.lt g hv).1
            have h8 : w3.heap.size ≤ g := h9
            simp at e
            omega))) (by show w.heap.size ≤ w3.heap.size; omega))
      have B2 : Below w.heap.size w w4 := (drewT BQ).trans (b2.mono BQ.size)
      have BF := hide (B2.grown G8 B2.size (fun k hk => by simp at hk; omega))
      have hS5 : ∀ W : World, W.heap[w.heap.size]? = w4.heap[w.heap.size]? → W.heap[w.heap.size + 1]? = w4.heap[w.heap.size + 1]? → W.cell? ⟨w.heap.size, 0, none⟩ = some (.int .i64 x.to) ∧ W.cell? ⟨w.heap.size, 1, none⟩ = some (.int .i64 x.cost) ∧ W.cell? ⟨w.heap.size, 2, none⟩ = some (.slice p1 x.hops.length q1) ∧ W.cell? ⟨w.heap.size + 1, 2, none⟩ = some (.slice p2 y.hops.length q2) := by
        intro W e1 e2
        refine ⟨?_, ?_, ?_, ?_⟩
        · rw [World.cell?_of_block (w := w4) e1]; exact hK2.1
        · rw [World.cell?_of_block (w := w4) e1]; exact hK2.2.1
        · rw [World.cell?_of_block (w := w4) e1]; exact hK2.2.2.1
        · rw [World.cell?_of_block (w := w4) e2]; exact hK2.2.2.2
      have hS6 := hS5 (putW3 w4 (w.heap.size + 1 + 1) ⟨x.to, x.cost, hopsI x.hops y.hops⟩ (.slice na (hopsI x.hops y.hops).length nc)) (G8.block _ (lt_of_heap hz0) (by simp; omega)) (G8.block _ (lt_of_heap hz1) (by simp))
      clear hS5 hz2 hn2 b2 G8 hz0 hz1
      refine take_call 10 (oi := ?_) ?_ (by rw [hops.out]; kernel_rfl) ?_ ?_
      rotate_left 1
      · rw [hops.out]; simp only [List.getElem?_toArray, List.getElem?_cons_succ, List.getElem?_cons_zero]; rfl
      · rw [hops.out]; kernel_rfl
      intro K hK
      go_simp
      refine hK.out _ _ hS6 (fun _ => ?_)
      clear hK K
      try simp only [Act.put, List.setIfInBounds_toArray, List.set_cons_zero, List.set_cons_succ]
      refine wpAnyH_done (by rw [hops.out]; kernel_rfl) ?_ _
      clear hops ops
      refine NoPanic.normal ?_
      go_wp2_with fail
      (try simp only [Exit.inBlock, Exit.then])
      refine bodyPost_ret (results_cell_row rfl _ _ (w.heap.size + 1 + 1) 46 (wayC ⟨x.to, x.cost, hopsI x.hops y.hops⟩ (.slice na (hopsI x.hops y.hops).length nc)) (0, 0) _ rfl FF.out Tryz.underlying46 rfl (by kernel_rfl)) rfl ?_
      exact ⟨_, rfl, O3.out, BF.out⟩
    · have hDe : D = y := by rw [HD.out]; unfold togI; rw [← HF1.out, ← HF2.out]; rfl
      subst hDe
      clear HW1 HHB HB1 HB2 HD
      go_wp2_with fail
      refine (HW2.out _ BQ).mono ?_
      rintro e w4 ⟨v1, rfl, hn2, b2⟩
      obtain ⟨na, nc, rfl⟩ := owns_lenS hn2
      have hz2 := (b2.block _ (lt_of_heap m2)).trans m2
      have u0 := cells_at hz2 0
      have u1 := cells_at hz2 1
      have u2 := cells_at hz2 2
      simp at u0 u1 u2
      have fu := frozen_at hz2
      have FF := hide (finW3 D (.slice na D.hops.length nc) hz2)
      have G8 := grownW3 w4 (w.heap.size + 1 + 1) D (.slice na D.hops.length nc)
      have hsz := lt_of_heap m2
      have O3 := hide (owns_baseS (b0 := w.heap.size) (hn2.kept G8 (by
        cases hv : (Value.slice na D.hops.length nc).ownBlock with
        | none => exact .inl rfl
        | some g => exact .inr (fun e => by have := (hn2.lt g hv).1; simp at e; omega))) (by omega))
      have B2 : Below w.heap.size w w4 := BQ.trans (b2.mono BQ.size)
      have BF := hide (B2.grown G8 B2.size (fun k hk => by simp at hk; omega))
      clear hz2 hn2 b2 G8 m2 m0 m1
      go_wp2_with fail
      (try simp only [Exit.inBlock, Exit.then])
      refine bodyPost_ret (results_cell_row rfl _ _ (w.heap.size + 1 + 1) 46 (wayC D (.slice na D.hops.length nc)) (0, 0) _ rfl FF.out Tryz.underlying46 rfl (by kernel_rfl)) rfl ?_
      exact ⟨_, rfl, O3.out, BF.out⟩
  · have hDe : D = x := by rw [HD.out]; unfold togI; rw [← HF1.out]; rfl
    subst hDe
    clear HW2 HHB HB1 HB2 HD
    go_wp2_with fail
    refine (HW1.out _ BQ).mono ?_
    rintro e w4 ⟨v1, rfl, hn2, b2⟩
    obtain ⟨na, nc, rfl⟩ := owns_lenS hn2
    have hz2 := (b2.block _ (lt_of_heap m2)).trans m2
    have u0 := cells_at hz2 0
    have u1 := cells_at hz2 1
    have u2 := cells_at hz2 2
    simp at u0 u1 u2
    have fu := frozen_at hz2
    have FF := hide (finW3 D (.slice na D.hops.length nc) hz2)
    have G8 := grownW3 w4 (w.heap.size + 1 + 1) D (.slice na D.hops.length nc)
    have hsz := lt_of_heap m2
    have O3 := hide (owns_baseS (b0 := w.heap.size) (hn2.kept G8 (by
      cases hv : (Value.slice na D.hops.length nc).ownBlock with
      | none => exact .inl rfl
      | some g => exact .inr (fun e => by have := (hn2.lt g hv).1; simp at e; omega))) (by omega))
    have B2 : Below w.heap.size w w4 := BQ.trans (b2.mono BQ.size)
    have BF := hide (B2.grown G8 B2.size (fun k hk => by simp at hk; omega))
    clear hz2 hn2 b2 G8 m2 m0 m1
    go_wp2_with fail
    (try simp only [Exit.inBlock, Exit.then])
    refine bodyPost_ret (results_cell_row rfl _ _ (w.heap.size + 1 + 1) 46 (wayC D (.slice na D.hops.length nc)) (0, 0) _ rfl FF.out Tryz.underlying46 rfl (by kernel_rfl)) rfl ?_
    exact ⟨_, rfl, O3.out, BF.out⟩
end Go.Proofs.YtidoieolejkflaaGreat
