/-
  The drawn region of impl.putWay, in every order.
  impl.putWay: a way put into a list in order.
-/
import Derived.Test.YtidoieolejkflaaGreatPk5
import Derived.Test.YtidoieolejkflaaGreatPk12
import Derived.Test.YtidoieolejkflaaGreatPk21
import Derived.Test.YtidoieolejkflaaGreatPk15
namespace Go.Proofs.YtidoieolejkflaaGreat
open Go.RowKit

set_option linter.unusedSimpArgs false

def opsPW : Array Oper := #[{ dst := some 14, op := Op.move (Operand.tmp 0), type := 39, pos := "l07_route.go:51", after := #[], guard := none }, { dst := some 15, op := Op.move (Operand.tmp 5), type := 3, pos := "l07_route.go:51", after := #[], guard := none }, { dst := some 16, op := Op.move (Operand.tmp 0), type := 39, pos := "l07_route.go:51", after := #[], guard := none }, { dst := some 17, op := Op.move (Operand.tmp 5), type := 3, pos := "l07_route.go:51", after := #[], guard := none }, { dst := some 18, op := Op.indexAddr 39 (Operand.tmp 16) (Operand.tmp 17), type := 0, pos := "l07_route.go:51", after := #[{ on := 2, ground := Ground.data }, { on := 3, ground := Ground.data }], guard := none }, { dst := some 19, op := Op.load 46 (Operand.tmp 18), type := 46, pos := "l07_route.go:51", after := #[{ on := 4, ground := Ground.data }], guard := none }, { dst := some 20, op := Op.load 46 (Operand.tmp 3), type := 46, pos := "l07_route.go:51", after := #[], guard := none }, { dst := some 21, op := Op.call { callee := Callee.value (Operand.func 46), args := #[Operand.tmp 19, Operand.tmp 20], argTypes := #[46, 46] }, type := 46, pos := "l07_route.go:51", after := #[{ on := 5, ground := Ground.data }, { on := 6, ground := Ground.data }], guard := none }, { dst := some 22, op := Op.indexAddr 39 (Operand.tmp 14) (Operand.tmp 15), type := 0, pos := "l07_route.go:51", after := #[{ on := 0, ground := Ground.data }, { on := 1, ground := Ground.data }, { on := 0, ground := Ground.phase }, { on := 1, ground := Ground.phase }, { on := 2, ground := Ground.phase }, { on := 3, ground := Ground.phase }, { on := 4, ground := Ground.phase }, { on := 5, ground := Ground.phase }, { on := 6, ground := Ground.phase }, { on := 7, ground := Ground.phase }], guard := none }, { dst := none, op := Op.store 46 (Operand.tmp 22) (Operand.tmp 21), type := 0, pos := "l07_route.go:51", after := #[{ on := 8, ground := Ground.data }, { on := 7, ground := Ground.data }, { on := 7, ground := Ground.chain }, { on := 0, ground := Ground.phase }, { on := 1, ground := Ground.phase }, { on := 2, ground := Ground.phase }, { on := 3, ground := Ground.phase }, { on := 4, ground := Ground.phase }, { on := 5, ground := Ground.phase }, { on := 6, ground := Ground.phase }, { on := 7, ground := Ground.phase }], guard := none }]

set_option maxRecDepth 100000 in
set_option maxHeartbeats 1000000 in
theorem putW_dag (t1 t2 t4 t6 t7 t8 t9 t10 t11 t12 t13 t14 t15 t16 t17 t18 t19 t20 t21 t22 t23 t24 t25 t26 t27 t28 : Value) (W0 : World) (g n cap i zb : Nat) (x y q : WayD) (xa ya : Option Addr) (xl xc yl yc : Nat) (RR : World → Value → Prop) (Q : Exit → Act → World → Prop) (ops : Array Oper) (hops : Hid (ops = opsPW)) (hpan : ∀ c a1 a2 w, Q (.panic c) a1 w → Q (.panic c) a2 w)
    (hi0 : (0 : Int) ≤ (i : Int)) (hi : (i : Int) < (n : Int))
    (c0 : W0.cell? ⟨g, i * 3, none⟩ = some (.int .i64 x.to)) (c1 : W0.cell? ⟨g, i * 3 + 1, none⟩ = some (.int .i64 x.cost)) (c2 : W0.cell? ⟨g, i * 3 + 2, none⟩ = some (.slice xa xl xc))
    (d0 : W0.cell? ⟨zb, 0, none⟩ = some (.int .i64 y.to)) (d1 : W0.cell? ⟨zb, 1, none⟩ = some (.int .i64 y.cost)) (d2 : W0.cell? ⟨zb, 2, none⟩ = some (.slice ya yl yc))
    (HT : Hid (Calls Tryz.prog 46 #[.agg #[.int .i64 x.to, .int .i64 x.cost, .slice xa xl xc], .agg #[.int .i64 y.to, .int .i64 y.cost, .slice ya yl yc]] W0 fun e w' => ∃ ua ul uc, e = .returned (.agg #[.int .i64 q.to, .int .i64 q.cost, .slice ua ul uc]) ∧ RR w' (.slice ua ul uc)))
    (hcell : ∀ W u, RR W u → ∃ y0 y1 y2, W.cell? ⟨g, i * 3, none⟩ = some y0 ∧ W.cell? ⟨g, i * 3 + 1, none⟩ = some y1 ∧ W.cell? ⟨g, i * 3 + 2, none⟩ = some y2)
    (hfz : ∀ W u, RR W u → ∀ j, W.frozen? ⟨g, j, none⟩ = false)
    (hend : ∀ (W : World) ua ul uc, RR W (.slice ua ul uc) → Q .normal { tmps := #[.slice (some ⟨g, 0, none⟩) n cap, t1, t2, .pointer (some ⟨zb, 0, none⟩), t4, .int .i64 (i : Int), t6, t7, t8, t9, t10, t11, t12, t13, .slice (some ⟨g, 0, none⟩) n cap, .int .i64 (i : Int), .slice (some ⟨g, 0, none⟩) n cap, .int .i64 (i : Int), .pointer (some ⟨g, i * 3, none⟩), .agg #[.int .i64 x.to, .int .i64 x.cost, .slice xa xl xc], .agg #[.int .i64 y.to, .int .i64 y.cost, .slice ya yl yc], .agg #[.int .i64 q.to, .int .i64 q.cost, .slice ua ul uc], .pointer (some ⟨g, i * 3, none⟩), t23, t24, t25, t26, t27, t28], defers := [] } (putW W g (i * 3) (q, .slice ua ul uc))) :
    wpAnyH Tryz.prog .any ops Q (fun _ => True) 10 (Array.replicate 10 false) { tmps := #[.slice (some ⟨g, 0, none⟩) n cap, t1, t2, .pointer (some ⟨zb, 0, none⟩), t4, .int .i64 (i : Int), t6, t7, t8, t9, t10, t11, t12, t13, t14, t15, t16, t17, t18, t19, t20, t21, t22, t23, t24, t25, t26, t27, t28], defers := [] } W0 := by
  have h7 : ∀ W ua ul uc, RR W (.slice ua ul uc) → wpAnyH Tryz.prog .any ops Q (fun _ => True) 2 #[true, true, true, true, true, true, true, true, false, false] { tmps := #[.slice (some ⟨g, 0, none⟩) n cap, t1, t2, .pointer (some ⟨zb, 0, none⟩), t4, .int .i64 (i : Int), t6, t7, t8, t9, t10, t11, t12, t13, .slice (some ⟨g, 0, none⟩) n cap, .int .i64 (i : Int), .slice (some ⟨g, 0, none⟩) n cap, .int .i64 (i : Int), .pointer (some ⟨g, i * 3, none⟩), .agg #[.int .i64 x.to, .int .i64 x.cost, .slice xa xl xc], .agg #[.int .i64 y.to, .int .i64 y.cost, .slice ya yl yc], .agg #[.int .i64 q.to, .int .i64 q.cost, .slice ua ul uc], t22, t23, t24, t25, t26, t27, t28], defers := [] } W := by
    intro W ua ul uc hr
    obtain ⟨y0, y1, y2, f0, f1, f2⟩ := hcell W _ hr
    have fz := hfz W _ hr
    refine take_do 8 (oi := ?_) (v := ?_) ?_ (by rw [hops.out]; kernel_rfl) ?_ ?_ ?_ trivial ?_
    rotate_left 2
    · rw [hops.out]; unfold opsPW; simp only [List.getElem?_toArray, List.getElem?_cons_succ, List.getElem?_cons_zero]; rfl
    · rw [hops.out]; kernel_rfl
    · intro W _; go_simp <;> with_reducible rfl
    · exact fun c _ w h => hpan c _ _ w h
    try simp only [Act.put, List.setIfInBounds_toArray, List.set_cons_zero, List.set_cons_succ]
    refine wpAnyH_ready (rs := [9]) (by rw [hops.out]; kernel_rfl) (by simp) ?_
    refine AllReadyH.cons (o := ?_) ?_ (fun K hK => ?_) ?_
    rotate_left 1
    · rw [hops.out]; unfold opsPW; simp only [List.getElem?_toArray, List.getElem?_cons_succ, List.getElem?_cons_zero]; rfl
    · rw [if_pos (by rfl)]
      go_simp
      refine hK.out _ _ trivial (fun _ => ?_)
      refine wpAnyH_done (by rw [hops.out]; kernel_rfl) ?_ _
      exact hend W ua ul uc hr
    exact AllReadyH.nil
  have h56 : wpAnyH Tryz.prog .any ops Q (fun _ => True) 3 #[true, true, true, true, true, true, true, false, false, false] { tmps := #[.slice (some ⟨g, 0, none⟩) n cap, t1, t2, .pointer (some ⟨zb, 0, none⟩), t4, .int .i64 (i : Int), t6, t7, t8, t9, t10, t11, t12, t13, .slice (some ⟨g, 0, none⟩) n cap, .int .i64 (i : Int), .slice (some ⟨g, 0, none⟩) n cap, .int .i64 (i : Int), .pointer (some ⟨g, i * 3, none⟩), .agg #[.int .i64 x.to, .int .i64 x.cost, .slice xa xl xc], .agg #[.int .i64 y.to, .int .i64 y.cost, .slice ya yl yc], t21, t22, t23, t24, t25, t26, t27, t28], defers := [] } W0 := by
    refine wpAnyH_ready (rs := [7]) (by rw [hops.out]; kernel_rfl) (by simp) ?_
    refine AllReadyH.cons (o := ?_) ?_ (fun K hK => ?_) ?_
    rotate_left 1
    · rw [hops.out]; unfold opsPW; simp only [List.getElem?_toArray, List.getElem?_cons_succ, List.getElem?_cons_zero]; rfl
    · rw [if_pos (by rfl)]
      go_simp
      refine HT.out.mono ?_
      rintro e w2 ⟨ua, ul, uc, rfl, hr⟩
      refine hK.out _ _ trivial (fun _ => ?_)
      exact h7 w2 ua ul uc hr
    exact AllReadyH.nil
  have h5 : wpAnyH Tryz.prog .any ops Q (fun _ => True) 4 #[true, true, true, true, true, true, false, false, false, false] { tmps := #[.slice (some ⟨g, 0, none⟩) n cap, t1, t2, .pointer (some ⟨zb, 0, none⟩), t4, .int .i64 (i : Int), t6, t7, t8, t9, t10, t11, t12, t13, .slice (some ⟨g, 0, none⟩) n cap, .int .i64 (i : Int), .slice (some ⟨g, 0, none⟩) n cap, .int .i64 (i : Int), .pointer (some ⟨g, i * 3, none⟩), .agg #[.int .i64 x.to, .int .i64 x.cost, .slice xa xl xc], t20, t21, t22, t23, t24, t25, t26, t27, t28], defers := [] } W0 := by
    refine wpAnyH_ready (rs := [6]) (by rw [hops.out]; kernel_rfl) (by simp) ?_
    refine AllReadyH.cons (o := ?_) ?_ (fun K hK => ?_) ?_
    rotate_left 1
    · rw [hops.out]; unfold opsPW; simp only [List.getElem?_toArray, List.getElem?_cons_succ, List.getElem?_cons_zero]; rfl
    · rw [if_pos (by rfl)]
      go_simp
      refine hK.out _ _ trivial (fun _ => ?_)
      exact h56
    exact AllReadyH.nil
  have h6 : wpAnyH Tryz.prog .any ops Q (fun _ => True) 4 #[true, true, true, true, true, false, true, false, false, false] { tmps := #[.slice (some ⟨g, 0, none⟩) n cap, t1, t2, .pointer (some ⟨zb, 0, none⟩), t4, .int .i64 (i : Int), t6, t7, t8, t9, t10, t11, t12, t13, .slice (some ⟨g, 0, none⟩) n cap, .int .i64 (i : Int), .slice (some ⟨g, 0, none⟩) n cap, .int .i64 (i : Int), .pointer (some ⟨g, i * 3, none⟩), t19, .agg #[.int .i64 y.to, .int .i64 y.cost, .slice ya yl yc], t21, t22, t23, t24, t25, t26, t27, t28], defers := [] } W0 := by
    refine wpAnyH_ready (rs := [5]) (by rw [hops.out]; kernel_rfl) (by simp) ?_
    refine AllReadyH.cons (o := ?_) ?_ (fun K hK => ?_) ?_
    rotate_left 1
    · rw [hops.out]; unfold opsPW; simp only [List.getElem?_toArray, List.getElem?_cons_succ, List.getElem?_cons_zero]; rfl
    · rw [if_pos (by rfl)]
      go_simp
      refine hK.out _ _ trivial (fun _ => ?_)
      exact h56
    exact AllReadyH.nil
  show wpAnyH Tryz.prog .any ops Q (fun _ => True) 10 #[false, false, false, false, false, false, false, false, false, false] _ W0
  refine take_do 0 (oi := ?_) (v := ?_) ?_ (by rw [hops.out]; kernel_rfl) ?_ ?_ ?_ trivial ?_
  rotate_left 2
  · rw [hops.out]; unfold opsPW; simp only [List.getElem?_toArray, List.getElem?_cons_succ, List.getElem?_cons_zero]; rfl
  · rw [hops.out]; kernel_rfl
  · intro W _; go_simp <;> with_reducible rfl
  · exact fun c _ w h => hpan c _ _ w h
  try simp only [Act.put, List.setIfInBounds_toArray, List.set_cons_zero, List.set_cons_succ]
  refine take_do 1 (oi := ?_) (v := ?_) ?_ (by rw [hops.out]; kernel_rfl) ?_ ?_ ?_ trivial ?_
  rotate_left 2
  · rw [hops.out]; unfold opsPW; simp only [List.getElem?_toArray, List.getElem?_cons_succ, List.getElem?_cons_zero]; rfl
  · rw [hops.out]; kernel_rfl
  · intro W _; go_simp <;> with_reducible rfl
  · exact fun c _ w h => hpan c _ _ w h
  try simp only [Act.put, List.setIfInBounds_toArray, List.set_cons_zero, List.set_cons_succ]
  refine take_do 2 (oi := ?_) (v := ?_) ?_ (by rw [hops.out]; kernel_rfl) ?_ ?_ ?_ trivial ?_
  rotate_left 2
  · rw [hops.out]; unfold opsPW; simp only [List.getElem?_toArray, List.getElem?_cons_succ, List.getElem?_cons_zero]; rfl
  · rw [hops.out]; kernel_rfl
  · intro W _; go_simp <;> with_reducible rfl
  · exact fun c _ w h => hpan c _ _ w h
  try simp only [Act.put, List.setIfInBounds_toArray, List.set_cons_zero, List.set_cons_succ]
  refine take_do 3 (oi := ?_) (v := ?_) ?_ (by rw [hops.out]; kernel_rfl) ?_ ?_ ?_ trivial ?_
  rotate_left 2
  · rw [hops.out]; unfold opsPW; simp only [List.getElem?_toArray, List.getElem?_cons_succ, List.getElem?_cons_zero]; rfl
  · rw [hops.out]; kernel_rfl
  · intro W _; go_simp <;> with_reducible rfl
  · exact fun c _ w h => hpan c _ _ w h
  try simp only [Act.put, List.setIfInBounds_toArray, List.set_cons_zero, List.set_cons_succ]
  refine take_do 4 (oi := ?_) (v := ?_) ?_ (by rw [hops.out]; kernel_rfl) ?_ ?_ ?_ trivial ?_
  rotate_left 2
  · rw [hops.out]; unfold opsPW; simp only [List.getElem?_toArray, List.getElem?_cons_succ, List.getElem?_cons_zero]; rfl
  · rw [hops.out]; kernel_rfl
  · intro W _; go_simp <;> with_reducible rfl
  · exact fun c _ w h => hpan c _ _ w h
  try simp only [Act.put, List.setIfInBounds_toArray, List.set_cons_zero, List.set_cons_succ]
  refine wpAnyH_ready (rs := [5, 6]) (by rw [hops.out]; kernel_rfl) (by simp) ?_
  refine AllReadyH.cons (o := ?_) ?_ (fun K hK => ?_) ?_
  rotate_left 1
  · rw [hops.out]; unfold opsPW; simp only [List.getElem?_toArray, List.getElem?_cons_succ, List.getElem?_cons_zero]; rfl
  · rw [if_pos (by rfl)]
    go_simp
    refine hK.out _ _ trivial (fun _ => ?_)
    exact h5
  refine AllReadyH.cons (o := ?_) ?_ (fun K hK => ?_) ?_
  rotate_left 1
  · rw [hops.out]; unfold opsPW; simp only [List.getElem?_toArray, List.getElem?_cons_succ, List.getElem?_cons_zero]; rfl
  · rw [if_pos (by rfl)]
    go_simp
    refine hK.out _ _ trivial (fun _ => ?_)
    exact h6
  exact AllReadyH.nil
end Go.Proofs.YtidoieolejkflaaGreat
namespace Go.Proofs.YtidoieolejkflaaGreat
open Go.RowKit

set_option linter.unusedSimpArgs false

theorem hop_one {W : World} {lo hi : Nat} {r : WP} (h : HopOwn W lo hi r) : ∀ u ∈ encW r, u.oneCell' = true := by
  obtain ⟨a, c, e⟩ := owns_lenS h.1
  obtain ⟨x, v⟩ := r
  simp only at e
  subst e
  exact encW_one x a _ c

theorem insertW_any (lo i vb : Nat) (v : Value) (ps : List WP) (r : WP) (w : World) (hv : WaysOwn w lo w.heap.size v ps) (hlo : lo ≤ w.heap.size) (hi : i ≤ ps.length) (hn : ps.length ≤ 1048576) (hvb : w.heap[vb]? = some (.cells (encW r).toArray 46 (0, 0))) (hne : some vb ≠ v.ownBlock) (hr1 : ∀ u ∈ encW r, u.oneCell' = true) :
    Calls Tryz.prog 115 #[v, .int .i64 (i : Int), .slice (some ⟨vb, 0, none⟩) 1 1] w fun e w' => ∃ v', e = .returned v' ∧ w'.ownsRow lo 46 3 v' (ps.length + 1) (flat encW (ps.take i ++ [r] ++ ps.drop i)) ∧ w.grownBy w' v.ownBlock ∧ (v'.ownBlock = v.ownBlock ∨ v'.ownBlock = some w.heap.size) := by
  by_cases he : i = ps.length
  · rw [he]
    exact insW_end lo ps.length 1 vb v ps r w rfl rfl hlo hn hv.row hvb hr1
  · have hone : ∀ p ∈ ps, ∃ a k c, p.2 = .slice a k c := fun p hp => by
      obtain ⟨a, c, e⟩ := owns_lenS (hv.nears p hp).1
      exact ⟨a, _, c, e⟩
    rcases hv.row.2 with ⟨_, h0⟩ | ⟨g, cap, cur, hve, _⟩
    · omega
    · subst hve
      have hne2 : vb ≠ g := fun e => hne (by rw [e]; rfl)
      by_cases hroom : ps.length + 1 ≤ cap
      · exact insW_shift lo g cap ps.length 1 i vb ps r w rfl rfl hv.row (by omega) hroom hvb hne2 hone hr1
      · exact insW_grow lo g cap ps.length 1 i vb ps r w rfl rfl hlo hn hv.row (by omega) (by omega) hvb hone hr1

theorem ApartW.symm {p q : WP} (h : ApartW p q) : ApartW q p := fun k hk hp => h k hp hk

theorem hops_kept {W W2 : World} {lo : Nat} {v : Value} {ps : List WP} (h : WaysOwn W lo W.heap.size v ps) (hg : W.grownBy W2 v.ownBlock) {q : WP} (hq : HopOwn W lo W.heap.size q) : HopOwn W2 lo W2.heap.size q :=
  ⟨owns_keepB hq.1 (fun j hj => hg.block j (hq.2 j hj) (hop_row_ne hq h.row j hj)), fun k hk => Nat.lt_of_lt_of_le (hq.2 k hk) hg.size⟩

theorem WaysOwn.ins {W W2 : World} {lo i : Nat} {v v' : Value} {ps : List WP} {r : WP} (h : WaysOwn W lo W.heap.size v ps) (hr : HopOwn W lo W.heap.size r) (hap : ∀ p ∈ ps, ApartW p r) (hi : i ≤ ps.length)
    (row : W2.ownsRow lo 46 3 v' (ps.length + 1) (flat encW (ps.take i ++ [r] ++ ps.drop i))) (hg : W.grownBy W2 v.ownBlock) : WaysOwn W2 lo W2.heap.size v' (ps.take i ++ [r] ++ ps.drop i) where
  row := by rw [insW_len ps r i hi]; exact row
  top := fun k hk => (row.lt k hk).2
  nears := by
    intro q hq
    refine hops_kept h hg ?_
    rcases List.mem_append.1 hq with h1 | h1
    · rcases List.mem_append.1 h1 with h2 | h2
      · exact h.nears q (List.mem_of_mem_take h2)
      · have : q = r := by simpa using h2
        subst this
        exact hr
    · exact h.nears q (List.mem_of_mem_drop h1)
  apart := by
    have hp := h.apart
    rw [← List.take_append_drop i ps, List.pairwise_append] at hp
    rw [List.append_assoc, List.pairwise_append]
    refine ⟨hp.1, ?_, ?_⟩
    · rw [List.pairwise_append]
      refine ⟨by simp, hp.2.1, ?_⟩
      intro a ha b hb
      have : a = r := by simpa using ha
      subst this
      exact (hap b (List.mem_of_mem_drop hb)).symm
    · intro a ha b hb
      rcases List.mem_append.1 hb with h1 | h1
      · have : b = r := by simpa using h1
        subst this
        exact hap a (List.mem_of_mem_take ha)
      · exact hp.2.2 a ha b h1

theorem WaysOwn.put {W : World} {lo i g cap n : Nat} {ps : List WP} {r : WP} (h : WaysOwn W lo W.heap.size (.slice (some ⟨g, 0, none⟩) n cap) ps) (hn : n = ps.length) (hr : HopOwn W lo W.heap.size r) (hap : ∀ p ∈ ps, ApartW p r) (hi : i < ps.length) : WaysOwn (putW W g (i * 3) r) lo (putW W g (i * 3) r).heap.size (.slice (some ⟨g, 0, none⟩) n cap) (ps.set i r) := by
  subst hn
  have hst := putW_owns (p := r) h.row hi
  have hg : W.grownBy (putW W g (i * 3) r) (Value.slice (some ⟨g, 0, none⟩) ps.length cap).ownBlock := putW_grown W g (i * 3) r
  refine ⟨by simpa using hst, fun k hk => (hst.lt k hk).2, ?_, ?_⟩
  · intro q hq
    refine hops_kept h hg ?_
    rcases List.mem_or_eq_of_mem_set hq with h1 | h1
    · exact h.nears q h1
    · subst h1; exact hr
  · have hp := h.apart
    rw [List.pairwise_iff_getElem] at hp ⊢
    intro a b ha hb hab
    simp only [List.length_set] at ha hb
    rw [List.getElem_set, List.getElem_set]
    by_cases e1 : i = a
    · rw [if_pos e1, if_neg (by omega)]
      exact (hap _ (List.getElem_mem hb)).symm
    · rw [if_neg e1]
      by_cases e2 : i = b
      · rw [if_pos e2]
        exact hap _ (List.getElem_mem ha)
      · rw [if_neg e2]
        exact hp a b ha hb hab

theorem fstsW_take (ps : List WP) (i : Nat) : fstsW (ps.take i) = (fstsW ps).take i := by simp [fstsW]
theorem fstsW_drop (ps : List WP) (i : Nat) : fstsW (ps.drop i) = (fstsW ps).drop i := by simp [fstsW]
theorem fstsW_ins (ps : List WP) (r : WP) (i : Nat) : fstsW (ps.take i ++ [r] ++ ps.drop i) = (fstsW ps).take i ++ [r.1] ++ (fstsW ps).drop i := by simp [fstsW]
theorem fstsW_set (ps : List WP) (r : WP) (i : Nat) : fstsW (ps.set i r) = (fstsW ps).set i r.1 := by simp [fstsW, List.map_set]


theorem ascW_mono {xs : List WayD} (h : AscW xs) (r : WayD) : ∀ s t, s ≤ t → t < xs.length → ltW xs r t → ltW xs r s := by
  intro s t hst ht hl
  obtain ⟨x, hx, hlt⟩ := hl
  by_cases e : s = t
  · subst e; exact ⟨x, hx, hlt⟩
  · obtain ⟨h1, e1⟩ := List.getElem?_eq_some_iff.1 hx
    unfold AscW at h
    rw [List.pairwise_iff_getElem] at h
    have h2 := h s t (by omega) ht (by omega)
    rw [e1] at h2
    exact ⟨xs[s], List.getElem?_eq_getElem (by omega), by omega⟩

/-- a list with a way put in at its place -/
theorem put_new {xs : List WayD} {r : WayD} {i : Nat} (h : AscW xs) (hi : i ≤ xs.length) (h1 : ∀ t, t < i → ltW xs r t) (h2 : ∀ t, i ≤ t → t < xs.length → ¬ ltW xs r t) (h3 : ¬ ∃ x, xs[i]? = some x ∧ x.to = r.to) (tog : WayD → WayD → WayD) :
    AscW (xs.take i ++ [r] ++ xs.drop i) ∧ ∀ to, findW (xs.take i ++ [r] ++ xs.drop i) to = if to = r.to then moreW tog (findW xs to) (some r) else findW xs to := by
  have hlo : ∀ x ∈ xs.take i, x.to < r.to := by
    intro x hx
    obtain ⟨j, hj, e⟩ := List.getElem_of_mem hx
    rw [List.length_take] at hj
    rw [List.getElem_take] at e
    obtain ⟨y, hy, hl⟩ := h1 j (by omega)
    rw [List.getElem?_eq_getElem (by omega)] at hy
    have hy' := Option.some.inj hy
    rw [← e, hy']; exact hl
  have hhi : ∀ x ∈ xs.drop i, r.to < x.to := by
    have hge : ∀ x ∈ xs.drop i, r.to ≤ x.to := by
      intro x hx
      obtain ⟨j, hj, e⟩ := List.getElem_of_mem hx
      rw [List.length_drop] at hj
      rw [List.getElem_drop] at e
      have := h2 (i + j) (by omega) (by omega)
      rcases Int.lt_or_le x.to r.to with hc | hc
      · exact absurd ⟨x, by rw [List.getElem?_eq_getElem (by omega), e], hc⟩ this
      · exact hc
    intro x hx
    have h4 := hge x hx
    rcases Int.lt_or_le r.to x.to with hc | hc
    · exact hc
    · exfalso
      have hlen : i < xs.length := by
        rcases Nat.lt_or_ge i xs.length with h5 | h5
        · exact h5
        · rw [List.drop_eq_nil_of_le h5] at hx; cases hx
      rw [List.drop_eq_getElem_cons hlen] at hx
      have h6 := hge xs[i] (by rw [List.drop_eq_getElem_cons hlen]; exact List.mem_cons_self)
      rcases List.mem_cons.1 hx with e | e
      · exact h3 ⟨xs[i], List.getElem?_eq_getElem hlen, by rw [← e]; omega⟩
      · have hp := h
        unfold AscW at hp
        rw [← List.take_append_drop i xs, List.pairwise_append] at hp
        have hp2 := hp.2.1
        rw [List.drop_eq_getElem_cons hlen] at hp2
        have := (List.pairwise_cons.1 hp2).1 x e
        omega
  have hp := h
  unfold AscW at hp
  rw [← List.take_append_drop i xs, List.pairwise_append] at hp
  have hasc : AscW (xs.take i ++ [r] ++ xs.drop i) := by
    unfold AscW
    rw [List.append_assoc, List.pairwise_append]
    refine ⟨hp.1, ?_, ?_⟩
    · rw [List.pairwise_append]
      refine ⟨by simp, hp.2.1, ?_⟩
      intro a ha b hb
      have : a = r := by simpa using ha
      subst this
      exact hhi b hb
    · intro a ha b hb
      rcases List.mem_append.1 hb with h5 | h5
      · have : b = r := by simpa using h5
        subst this
        exact hlo a ha
      · exact hp.2.2 a ha b h5
  have hmem : ∀ x, x ∈ xs.take i ++ [r] ++ xs.drop i ↔ x ∈ xs ∨ x = r := by
    intro x
    simp only [List.mem_append, List.mem_singleton]
    constructor
    · rintro ((h5 | h5) | h5)
      · exact .inl (List.mem_of_mem_take h5)
      · exact .inr h5
      · exact .inl (List.mem_of_mem_drop h5)
    · rintro (h5 | h5)
      · rw [← List.take_append_drop i xs] at h5
        rcases List.mem_append.1 h5 with h6 | h6
        · exact .inl (.inl h6)
        · exact .inr h6
      · exact .inl (.inr h5)
  have hno : ∀ x ∈ xs, x.to ≠ r.to := by
    intro x hx
    rw [← List.take_append_drop i xs] at hx
    rcases List.mem_append.1 hx with h6 | h6
    · have := hlo x h6; omega
    · have := hhi x h6; omega
  refine ⟨hasc, fun to => ?_⟩
  by_cases e : to = r.to
  · subst e
    rw [if_pos rfl]
    have hn : findW xs r.to = none := by
      cases e2 : findW xs r.to with
      | none => rfl
      | some y => have := findW_some e2; exact absurd this.2 (hno y this.1)
    rw [hn]
    exact findW_of hasc ((hmem r).2 (.inr rfl))
  · rw [if_neg e]
    cases e2 : findW xs to with
    | none =>
      cases e3 : findW (xs.take i ++ [r] ++ xs.drop i) to with
      | none => rfl
      | some y =>
        have h7 := findW_some e3
        rcases (hmem y).1 h7.1 with h8 | h8
        · exact absurd h7.2 (findW_none e2 y h8)
        · exact absurd (by rw [← h7.2, h8]) e
    | some y =>
      have h7 := findW_some e2
      have := findW_of hasc ((hmem y).2 (.inl h7.1))
      rw [h7.2] at this
      exact this

/-- a list with a way put Together with the one at its place -/
theorem put_old {xs : List WayD} {r x y : WayD} {i : Nat} (h : AscW xs) (hx : xs[i]? = some x) (he : x.to = r.to) (tog : WayD → WayD → WayD) (hy : y = tog x r) (hyt : y.to = x.to) :
    AscW (xs.set i y) ∧ ∀ to, findW (xs.set i y) to = if to = r.to then moreW tog (findW xs to) (some r) else findW xs to := by
  obtain ⟨hi, e1⟩ := List.getElem?_eq_some_iff.1 hx
  have hasc : AscW (xs.set i y) := by
    unfold AscW at h ⊢
    rw [List.pairwise_iff_getElem] at h ⊢
    intro a b ha hb hab
    simp only [List.length_set] at ha hb
    have hab2 := h a b ha hb hab
    rw [List.getElem_set, List.getElem_set]
    by_cases ea : i = a
    · subst ea
      rw [if_pos rfl, if_neg (by omega), hyt, ← e1]
      exact hab2
    · rw [if_neg ea]
      by_cases eb : i = b
      · subst eb
        rw [if_pos rfl, hyt, ← e1]
        exact hab2
      · rw [if_neg eb]
        exact hab2
  have hxm : x ∈ xs := List.mem_of_getElem? hx
  have hym : y ∈ xs.set i y := List.mem_iff_getElem?.2 ⟨i, List.getElem?_set_self hi⟩
  have hoth : ∀ z, z.to ≠ x.to → (z ∈ xs.set i y ↔ z ∈ xs) := by
    intro z hz
    constructor
    · intro hm
      rcases List.mem_or_eq_of_mem_set hm with h5 | h5
      · exact h5
      · subst h5; exact absurd hyt hz
    · intro hm
      obtain ⟨j, hj, e⟩ := List.getElem_of_mem hm
      have hji : j ≠ i := fun e2 => by subst e2; rw [e1] at e; exact hz (by rw [e])
      exact List.mem_iff_getElem?.2 ⟨j, by rw [List.getElem?_set_ne (Ne.symm hji), List.getElem?_eq_getElem hj, e]⟩
  refine ⟨hasc, fun to => ?_⟩
  by_cases e : to = r.to
  · rw [if_pos e]
    have hf : findW xs to = some x := by rw [e, ← he]; exact findW_of h hxm
    rw [hf]
    show _ = some (tog x r)
    rw [← hy]
    have := findW_of hasc hym
    rw [hyt, he, ← e] at this
    exact this
  · rw [if_neg e]
    have ene : to ≠ x.to := by rw [he]; exact e
    cases e2 : findW xs to with
    | none =>
      cases e3 : findW (xs.set i y) to with
      | none => rfl
      | some z =>
        have h7 := findW_some e3
        exact absurd h7.2 (findW_none e2 z ((hoth z (by rw [h7.2]; exact ene)).1 h7.1))
    | some z =>
      have h7 := findW_some e2
      have := findW_of hasc ((hoth z (by rw [h7.2]; exact ene)).2 h7.1)
      rw [h7.2] at this
      exact this

theorem togI_to (x y : WayD) (h : x.to = y.to) : (togI x y).to = x.to := by
  unfold togI
  split
  · rfl
  · split
    · exact h.symm
    · rfl

theorem togI_len (x y : WayD) : (togI x y).hops.length ≤ x.hops.length + y.hops.length := by
  unfold togI
  split
  · omega
  · split
    · omega
    · exact hopsI_len _ _


/-- what putting a way into an ascending list makes of it -/
def PutD (ds : List WayD) (r : WayD) (es : List WayD) : Prop := AscW es ∧ ∀ to, findW es to = if to = r.to then moreW togI (findW ds to) (some r) else findW ds to

/-- where the rows of the ways behind it come from -/
def FromPut (B : Nat) (ps : List WP) (r : WP) (qs : List WP) : Prop := ∀ q ∈ qs, (∃ p ∈ ps, q.2 = p.2) ∨ q.2 = r.2 ∨ ∀ k, q.2.ownBlock = some k → B ≤ k

theorem fromPut_ins (B : Nat) (ps : List WP) (r : WP) (i : Nat) : FromPut B ps r (ps.take i ++ [r] ++ ps.drop i) := by
  intro q hq
  rcases List.mem_append.1 hq with h1 | h1
  · rcases List.mem_append.1 h1 with h2 | h2
    · exact .inl ⟨q, List.mem_of_mem_take h2, rfl⟩
    · have : q = r := by simpa using h2
      subst this
      exact .inr (.inl rfl)
  · exact .inl ⟨q, List.mem_of_mem_drop h1, rfl⟩

theorem fromPut_set (B : Nat) (ps : List WP) (r q0 : WP) (i : Nat) (h : ∀ k, q0.2.ownBlock = some k → B ≤ k) : FromPut B ps r (ps.set i q0) := by
  intro q hq
  rcases List.mem_or_eq_of_mem_set hq with h1 | h1
  · exact .inl ⟨q, h1, rfl⟩
  · subst h1; exact .inr (.inr h)

theorem below_grown {B : Nat} {w W : World} (h : Below B w W) (hB : w.heap.size ≤ B) (row : Option Nat) : w.grownBy W row := ⟨h.os, h.tape, h.output, h.size, fun k hk _ => h.block k (by omega)⟩

set_option maxRecDepth 100000 in
set_option maxHeartbeats 4000000 in
theorem putWay_any (v : Value) (ps : List WP) (lo : Nat) (r : WP) (w : World) (hv : WaysOwn w lo w.heap.size v ps) (hlo : lo ≤ w.heap.size) (hn : ps.length ≤ 1000) (hsh : ∀ p ∈ ps, p.1.hops.length ≤ 1000) (hrl : r.1.hops.length ≤ 1000) (hasc : AscW (fstsW ps)) (hr : HopOwn w lo w.heap.size r) (hap : ∀ p ∈ ps, ApartW p r) :
    Calls Tryz.prog 62 #[v, .agg (wayC r.1 r.2)] w fun e w' => ∃ x qs, e = .returned x ∧ PutD (fstsW ps) r.1 (fstsW qs) ∧ WaysOwn w' lo w'.heap.size x qs ∧ FromPut w.heap.size ps r qs ∧ (∀ k, x.ownBlock = some k → v.ownBlock = some k ∨ w.heap.size ≤ k) ∧ w.grownBy w' v.ownBlock := by
  have hfl : (fstsW ps).length = ps.length := by simp [fstsW]
  obtain ⟨a1, vc, hve⟩ := owns_lenS hv.row
  obtain ⟨ra, rc, hrn⟩ := owns_lenS hr.1
  have BX : Below w.heap.size w (w.alloc (.cells #[.int .i64 r.1.to, .int .i64 r.1.cost, .slice ra r.1.hops.length rc] 46)) := (Below.refl _ _).alloc (Nat.le_refl _) _
  have hx := heap_alloc_new w (.cells #[.int .i64 r.1.to, .int .i64 r.1.cost, .slice ra r.1.hops.length rc] 46)
  obtain ⟨w0, hw0⟩ : ∃ w0, w0 = w.alloc (.cells #[.int .i64 r.1.to, .int .i64 r.1.cost, .slice ra r.1.hops.length rc] 46) := ⟨_, rfl⟩
  rw [← hw0] at BX hx
  have hs0 := lt_of_heap hx
  have hv0 := hv.below BX (Nat.le_refl _)
  have hr0 := hr.keep (W' := w0) (fun k _ _ h3 => BX.block k h3)
  have HS := searchW_any v ps w.heap.size r w0 hv0.at BX.size (by omega) ⟨ra, rc, hrn⟩ (by rw [← hfl]; exact ascW_mono hasc r.1)
  have d0 := cells_at hx 0
  have d1 := cells_at hx 1
  have d2 := cells_at hx 2
  simp at d0 d1 d2
  have HV := hide hv0
  have HR := hide hr0
  have HA := hide hasc
  have HP := hide hap
  have HFL := hide hfl
  have HRN := hide hrn
  have HSH := hide hsh
  unfold wayC at *
  rw [hrn] at HS ⊢
  subst hve
  have HSS := hide HS
  clear HS hv0 hr0 hasc hap hr hrn hv hfl hsh
  go_enter Tryz.func62, Tryz.ntmps62
  go_wp2_with fail
  rw [← hw0]
  clear hw0
  refine HSS.out.mono ?_
  rintro e w1 ⟨i, f, rfl, hil, q1, q2, q3, b1⟩
  have b1s := b1.size
  have hx1 := (b1.block _ hs0).trans hx
  have B1 : Below w.heap.size w w1 := BX.trans (b1.mono BX.size)
  have hv1 := (HV.out.below b1 (by omega)).wide (Nat.le_refl _) (show w.heap.size ≤ w1.heap.size by omega)
  have hr1 := ((HR.out).keep (W' := w1) (fun k _ _ h3 => b1.block k h3)).wide (Nat.le_refl _) (show w.heap.size ≤ w1.heap.size by omega)
  have Q1 := hide q1
  have Q2 := hide q2
  have Q3 := hide q3
  clear q1 q2 q3 d0 d1 d2 hx b1
  have d0 := cells_at hx1 0
  have d1 := cells_at hx1 1
  have d2 := cells_at hx1 2
  simp at d0 d1 d2
  have hii : (0 : Int) ≤ (i : Int) := by omega
  cases f with
  | true =>
    have hil2 : i < ps.length := by
      obtain ⟨x, hx, _⟩ := Q3.out.1 rfl
      have := (List.getElem?_eq_some_iff.1 hx).1
      rw [HFL.out] at this
      exact this
    have hij : (i : Int) < (ps.length : Int) := by omega
    obtain ⟨p, hp⟩ : ∃ p, ps[i]? = some p := ⟨ps[i], List.getElem?_eq_getElem hil2⟩
    rcases hv1.row.2 with ⟨_, h0⟩ | ⟨g, cap, cur, hve, _⟩
    · omega
    · cases hve
      have hpo := hv1.nears p (List.mem_of_getElem? hp)
      obtain ⟨pa, pc, hpn⟩ := owns_lenS hpo.1
      obtain ⟨b, off, cp, hve, hbb, c0, c1, c2, _⟩ := hv1.at.cells i p hp
      cases hve
      rw [hpn] at c2
      simp only [Nat.zero_add] at c0 c1 c2
      have hgl := hv1.row.lt g rfl
      have hgw : g < w.heap.size := HV.out.top g rfl
      have HTG := itog_any p.1 r.1 p.2 r.2 lo lo w1.drew (owns_below hpo.1 (Below.refl w1.heap.size w1).drew (Nat.le_refl _)) (owns_below hr1.1 (Below.refl w1.heap.size w1).drew (Nat.le_refl _)) (by have := HSH.out p (List.mem_of_getElem? hp); omega) (by omega)
      rw [hpn, HRN.out] at HTG
      unfold wayC at HTG
      obtain ⟨q, hq⟩ : ∃ q, q = togI p.1 r.1 := ⟨_, rfl⟩
      rw [← hq] at HTG
      have hpe : p.1.to = r.1.to := by
        obtain ⟨x, hx, h0⟩ := Q3.out.1 rfl
        rw [fstsW_at hp] at hx
        cases hx
        exact h0
      have hfin : ∀ (W : World) (u : Value), W.ownsRow w1.heap.size 3 1 u q.hops.length (flat intE q.hops) → Below w1.heap.size w1 W → ∃ qs, PutD (fstsW ps) r.1 (fstsW qs) ∧ WaysOwn (putW W g (i * 3) (q, u)) lo (putW W g (i * 3) (q, u)).heap.size (.slice (some ⟨g, 0, none⟩) ps.length vc) qs ∧ FromPut w.heap.size ps r qs ∧ w.grownBy (putW W g (i * 3) (q, u)) (some g) := by
        intro W u hu hb
        have hvW := (hv1.below hb (Nat.le_refl _)).wide (Nat.le_refl _) hb.size
        have hnew : HopOwn W lo W.heap.size (q, u) := ⟨owns_baseS hu (by omega), fun k hk => (hu.lt k hk).2⟩
        have hapn : ∀ p' ∈ ps, ApartW p' (q, u) := fun p' hp' k hk he => by
          have h1 := (hv1.nears p' hp').2 k hk
          have h2 := (hu.lt k he).1
          omega
        refine ⟨ps.set i (q, u), ?_, hvW.put rfl hnew hapn hil2, fromPut_set _ _ _ _ _ (fun k hk => by have := (hu.lt k hk).1; omega), ?_⟩
        · rw [fstsW_set]
          exact put_old HA.out (fstsW_at hp) hpe togI hq (by rw [hq]; exact togI_to _ _ hpe)
        · exact grown_trans (below_grown (B1.trans (hb.mono (by omega))) (Nat.le_refl _) _) (putW_grown W g (i * 3) (q, u))
      have HFIN := hide hfin
      have HT := hide HTG
      have HV1 := hide hv1
      have BD : Below w1.heap.size w1 w1.drew := (Below.refl _ _).drew
      rw [← BD.cell (p := ⟨g, i * 3, none⟩) (by exact hgl.2)] at c0
      rw [← BD.cell (p := ⟨g, i * 3 + 1, none⟩) (by exact hgl.2)] at c1
      rw [← BD.cell (p := ⟨g, i * 3 + 2, none⟩) (by exact hgl.2)] at c2
      rw [← BD.cell (p := ⟨w.heap.size, 0, none⟩) (by show w.heap.size < w1.heap.size; omega)] at d0
      rw [← BD.cell (p := ⟨w.heap.size, 1, none⟩) (by show w.heap.size < w1.heap.size; omega)] at d1
      rw [← BD.cell (p := ⟨w.heap.size, 2, none⟩) (by show w.heap.size < w1.heap.size; omega)] at d2
      clear hfin HTG hv1 hr1 hpo hpn hp hq hpe HA HP
      go_wp2_with fail
      refine wp_region_noPanic ?_
      refine wp_region_start (S := fun _ => True) (by kernel_rfl) 10 rfl trivial ?_
      intro ops hops _
      refine putW_dag _ _ _ _ _ _ _ _ _ _ _ _ _ _ _ _ _ _ _ _ _ _ _ _ _ _ w1.drew g ps.length vc i w.heap.size p.1 r.1 q pa ra p.1.hops.length pc r.1.hops.length rc (fun W u => ∃ l, W.ownsRow w1.heap.size 3 1 u l (flat intE q.hops) ∧ l = q.hops.length ∧ Below w1.heap.size w1 W) _ ops hops (fun _ _ _ _ h => h) hii hij c0 c1 c2 d0 d1 d2 (hide (HT.out.mono ?_)) ?_ ?_ ?_
      · rintro e w2 ⟨u, rfl, hu, hb⟩
        obtain ⟨ua, uc, rfl⟩ := owns_lenS hu
        exact ⟨ua, q.hops.length, uc, rfl, _, hu, rfl, BD.trans hb⟩
      · rintro W u ⟨l, hu, hl, hb⟩
        have hvW := HV1.out.below hb (Nat.le_refl _)
        obtain ⟨y0, f0⟩ := own_cell hvW.row (i * 3) (by omega)
        obtain ⟨y1, f1⟩ := own_cell hvW.row (i * 3 + 1) (by omega)
        obtain ⟨y2, f2⟩ := own_cell hvW.row (i * 3 + 2) (by omega)
        exact ⟨y0, y1, y2, f0, f1, f2⟩
      · rintro W u ⟨l, hu, hl, hb⟩ j
        exact (HV1.out.below hb (Nat.le_refl _)).row.frozenAt j
      · rintro W ua ul uc ⟨l, hu, hl, hb⟩
        refine NoPanic.normal ?_
        subst hl
        obtain ⟨qs, h1, h2, h3, h4⟩ := HFIN.out W _ hu hb
        have H1 := hide h1
        have H2 := hide h2
        have H3 := hide h3
        have H4 := hide h4
        clear h1 h2 h3 h4 hu hb hops ops HFIN HT HV1
        go_wp2
        go_ret
        first
          | exact ⟨_, qs, rfl, H1.out, H2.out, H3.out, fun k hk => .inl hk, H4.out⟩
          | exact ⟨_, rfl, qs, H1.out, H2.out, H3.out, fun k hk => .inl hk, H4.out⟩
  | false =>
    have hl : PutD (fstsW ps) r.1 (fstsW (ps.take i ++ [r] ++ ps.drop i)) := by
      rw [fstsW_ins]
      exact put_new HA.out (by rw [HFL.out]; exact hil) Q1.out (by rw [HFL.out]; exact Q2.out) (fun h => by have := Q3.out.2 h; cases this) togI
    have HL := hide hl
    clear hl
    have BY : Below w1.heap.size w1 (w1.alloc (.cells #[.int .i64 r.1.to, .int .i64 r.1.cost, .slice ra r.1.hops.length rc] 46)) := (Below.refl _ _).alloc (Nat.le_refl _) _
    have hy := heap_alloc_new w1 (.cells #[.int .i64 r.1.to, .int .i64 r.1.cost, .slice ra r.1.hops.length rc] 46)
    obtain ⟨w2, hw2⟩ : ∃ w2, w2 = w1.alloc (.cells #[.int .i64 r.1.to, .int .i64 r.1.cost, .slice ra r.1.hops.length rc] 46) := ⟨_, rfl⟩
    rw [← hw2] at BY hy
    have hv2 := (hv1.below BY (Nat.le_refl _)).wide (Nat.le_refl _) BY.size
    have hr2 := (hr1.keep (W' := w2) (fun k _ _ h3 => BY.block k h3)).wide (Nat.le_refl _) BY.size
    have HI := insertW_any lo i w1.heap.size _ ps r w2 hv2 (by have := BY.size; omega) hil (by omega) (by
      rw [hy]
      unfold encW
      rw [HRN.out]) (fun e => by
        have h6 := hv1.top _ e.symm
        omega) (hop_one hr2)
    have HII := hide HI
    have HV2 := hide hv2
    have HR2 := hide hr2
    have B2 : Below w.heap.size w w2 := B1.trans (BY.mono (by omega))
    have hb2 := BY.size
    clear HI hv1 hr1 hv2 hr2
    go_wp2_with fail
    rw [← hw2]
    clear hw2
    refine HII.out.mono ?_
    rintro e w3 ⟨x, rfl, hrow, hg, hblk⟩
    have hfin := HV2.out.ins HR2.out HP.out hil hrow hg
    have hB := grown_trans (below_grown B2 (Nat.le_refl _) _) hg
    have hbk : ∀ k, x.ownBlock = some k → (Value.slice a1 ps.length vc).ownBlock = some k ∨ w.heap.size ≤ k := fun k hk => by
      rcases hblk with h1 | h1
      · exact .inl (by rw [← h1]; exact hk)
      · right
        rw [h1] at hk
        cases hk
        omega
    obtain ⟨xa, xc, rfl⟩ := owns_lenS hrow
    have HF := hide hfin
    have HB := hide hB
    have HK := hide hbk
    have HFR := hide (fromPut_ins w.heap.size ps r i)
    clear hfin hB hrow hg hbk hblk
    go_wp2
    go_ret
    first
      | exact ⟨_, _, rfl, HL.out, HF.out, HFR.out, HK.out, HB.out⟩
      | exact ⟨_, rfl, _, HL.out, HF.out, HFR.out, HK.out, HB.out⟩
end Go.Proofs.YtidoieolejkflaaGreat
