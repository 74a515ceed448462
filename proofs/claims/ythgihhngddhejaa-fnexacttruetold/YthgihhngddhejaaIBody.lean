/-
  slices.Equal of nears, impl.SameBody: their contracts.
-/
import Derived.Test.YthgihhngddhejaaIKey
namespace Go.Proofs.Ythgihhngddhejaa
open Go.RowKit

set_option linter.unusedVariables false

set_option maxRecDepth 100000 in
set_option maxHeartbeats 4000000 in
theorem equalNear_any (v1 v2 : Value) (ns ms : List Nr) (w : World) (h1 : NearsAt w v1 ns w.heap.size) (h2 : NearsAt w v2 ms w.heap.size) (hl : ns.length ≤ 1048576) (hm : ms.length ≤ 9223372036854775807) :
    Calls Try.prog 24 #[v1, v2] w fun e w' => e = .returned (.bool (decide (ns = ms))) ∧ Below w.heap.size w w' := by
  obtain ⟨p1, c1, rfl⟩ := h1.shape
  obtain ⟨p2, c2, rfl⟩ := h2.shape
  have K1 := hide h1
  have K2 := hide h2
  clear h1 h2
  by_cases hln : ns.length = ms.length
  case neg =>
    have hd : ((ns.length : Int) != (ms.length : Int)) = true := by simp; omega
    have he : decide (ns = ms) = false := decide_eq_false (fun h => hln (by rw [h]))
    rw [he]
    clear he
    go_enter Try.func24, Try.ntmps24
    go_wp2
    go_ret
    exact ⟨rfl, Below.refl _ _⟩
  have HLN := hide hln
  have hln2 : ((ns.length : Int) != (ms.length : Int)) = false := by simp; omega
  clear hln hm
  go_enter Try.func24, Try.ntmps24
  go_wp2
  clear hln2
  go_loopw [13] (fun i wr => ∃ k : Nat, k ≤ ns.length ∧ i = .int .i64 k ∧ (∀ j, j < k → ns[j]? = ms[j]?) ∧ Below w.heap.size w wr) (fun i _ => ns.length - (intOf i).toNat)
  case atStart => exact ⟨0, by omega, rfl, by omega, Below.refl _ _⟩
  case round =>
    obtain ⟨k, hk, rfl, hall, hb⟩ := hrel
    have HALL := hide hall
    clear hall
    by_cases hlt : k < ns.length
    · obtain ⟨x, hx⟩ : ∃ l, ns[k]? = some l := ⟨ns[k], List.getElem?_eq_getElem hlt⟩
      obtain ⟨y, hy⟩ : ∃ l, ms[k]? = some l := ⟨ms[k]'(by have := HLN.out; omega), List.getElem?_eq_getElem _⟩
      obtain ⟨d1, o1, cp1, hv1, hd1, f0, f1⟩ := K1.out.cells k x hx
      obtain ⟨d2, o2, cp2, hv2, hd2, g0, g1⟩ := K2.out.cells k y hy
      cases hv1
      cases hv2
      rw [← hb.cell (p := ⟨d1, o1 + k * 2, none⟩) hd1] at f0
      rw [← hb.cell (p := ⟨d1, o1 + k * 2 + 1, none⟩) hd1] at f1
      rw [← hb.cell (p := ⟨d2, o2 + k * 2, none⟩) hd2] at g0
      rw [← hb.cell (p := ⟨d2, o2 + k * 2 + 1, none⟩) hd2] at g1
      have hki : (0 : Int) ≤ (k : Int) := by omega
      have hkj : (k : Int) < (ns.length : Int) := by omega
      have hkm : (k : Int) < (ms.length : Int) := by have := HLN.out; omega
      have e0 := fun W => near_neq W x.to x.c y.to y.c
      have HXX := hide hx
      have HYY := hide hy
      clear hx hy
      by_cases hxy : (⟨x.to, x.c⟩ : Nr) = ⟨y.to, y.c⟩
      · rw [decide_eq_true hxy] at e0
        have HXY := hide hxy
        clear hxy
        go_wp2
        go_quiet (fail)
        go_wp2
        go_roundw
        case rel => exact ⟨k + 1, by omega, by go_num, (fun j hj => by
          by_cases e : j = k
          · subst e; rw [HXX.out, HYY.out]; exact congrArg some HXY.out
          · exact HALL.out j (by omega)), ⟨hb.os, hb.tape, hb.output, hb.size, hb.block⟩⟩
        case measure => simp [intOf]; omega
      · rw [decide_eq_false hxy] at e0
        have he : decide (ns = ms) = false := decide_eq_false (fun h => hxy (by
          subst h
          have := HXX.out.symm.trans HYY.out
          exact Option.some.inj this))
        have HE := hide he
        clear hxy he
        go_wp2
        go_quiet (fail)
        go_wp2
        go_ret
        exact ⟨ret_bool HE.out, ⟨hb.os, hb.tape, hb.output, hb.size, hb.block⟩⟩
    · have he : decide (ns = ms) = true := decide_eq_true (eq_all HLN.out (by have : k = ns.length := by omega
                                                                              rw [← this]; exact HALL.out))
      have HE := hide he
      clear he
      go_wp2
      go_ret
      exact ⟨ret_bool HE.out, hb⟩

set_option maxRecDepth 100000 in
set_option maxHeartbeats 4000000 in
theorem isameBody_any (v1 v2 : Value) (x y : RecD) (w : World) (h1 : RecAt w v1 x w.heap.size) (h2 : RecAt w v2 y w.heap.size) (hl : x.near.length ≤ 1048576) (hm : y.near.length ≤ 9223372036854775807) :
    Calls Try.prog 20 #[v1, v2] w fun e w' => e = .returned (.bool (sameBodyB x y)) ∧ Below w.heap.size w w' := by
  obtain ⟨u1, rfl, k1⟩ := h1
  obtain ⟨u2, rfl, k2⟩ := h2
  obtain ⟨p1, c1, rfl⟩ := k1.shape
  obtain ⟨p2, c2, rfl⟩ := k2.shape
  have HSK := hide (isameKey_any (.slice p1 x.near.length c1) (.slice p2 y.near.length c2) x y)
  have HEQ := hide (fun W (h : Below w.heap.size w W) => equalNear_any (.slice p1 x.near.length c1) (.slice p2 y.near.length c2) x.near y.near W (k1.then h) (k2.then h) hl hm)
  obtain ⟨q, hq⟩ : ∃ q, q = sameKeyB x y := ⟨_, rfl⟩
  rw [← hq] at HSK
  obtain ⟨r, hr⟩ : ∃ r, r = decide (x.near = y.near) := ⟨_, rfl⟩
  rw [← hr] at HEQ
  have hB : sameBodyB x y = (q && x.cost == y.cost && x.far == y.far && r) := by rw [hq, hr]; rfl
  rw [hB]
  clear hB hq hr hl hm k1 k2
  obtain ⟨a0, a1, a2, a3, a4, ns, a6, a7⟩ := x
  obtain ⟨b0, b1, b2, b3, b4, ms, b6, b7⟩ := y
  unfold recC at HSK ⊢
  simp only [] at HSK HEQ ⊢
  go_enter Try.func20, Try.ntmps20
  go_wp2_with fail
  refine (HSK.out _).mono ?_
  rintro e w1 ⟨rfl, bb1⟩
  have bw1 : Below w.heap.size w w1 := (below_two _ _).trans (bb1.mono (by simp; omega))
  have hw0 : w1.heap[w.heap.size]? = some (.cells #[.int .i64 a0, .int .i64 a1, .int .i64 a2, .int .i64 a3, .int .i64 a4, .slice p1 ns.length c1, .int .i64 a6, .bool a7] 35) := by
    rw [bb1.block _ (by simp; omega), Below.heap_alloc _ _ _ (by simp), heap_alloc_new]
  have hw1 : w1.heap[w.heap.size + 1]? = some (.cells #[.int .i64 b0, .int .i64 b1, .int .i64 b2, .int .i64 b3, .int .i64 b4, .slice p2 ms.length c2, .int .i64 b6, .bool b7] 35) := by
    rw [bb1.block _ (by simp)]
    have := heap_alloc_new (w.alloc (.cells #[.int .i64 a0, .int .i64 a1, .int .i64 a2, .int .i64 a3, .int .i64 a4, .slice p1 ns.length c1, .int .i64 a6, .bool a7] 35)) (.cells #[.int .i64 b0, .int .i64 b1, .int .i64 b2, .int .i64 b3, .int .i64 b4, .slice p2 ms.length c2, .int .i64 b6, .bool b7] 35)
    simpa using this
  have s5 := cells_at hw0 5
  have t5 := cells_at hw1 5
  simp at s5 t5
  clear bb1
  cases q
  · go_wp2
    go_ret
    exact ⟨by simp, bw1⟩
  go_wp2_with fail
  refine (HEQ.out _ bw1).mono ?_
  rintro e w2 ⟨rfl, bb2⟩
  have bw2 : Below w.heap.size w w2 := bw1.trans (bb2.mono bw1.size)
  have hx0 : w2.heap[w.heap.size]? = _ := (bb2.block _ (lt_of_heap hw0)).trans hw0
  have hx1 : w2.heap[w.heap.size + 1]? = _ := (bb2.block _ (lt_of_heap hw1)).trans hw1
  have s6 := cells_at hx0 6
  have s7 := cells_at hx0 7
  have t6 := cells_at hx1 6
  have t7 := cells_at hx1 7
  simp at s6 s7 t6 t7
  clear bb2 hw0 hw1 hx0 hx1 s5 t5
  cases r
  · go_wp2
    go_ret
    exact ⟨by simp, bw2⟩
  by_cases h6 : a6 = b6
  case neg =>
    have hd : (a6 == b6) = false := by simpa using h6
    go_wp2
    go_ret
    exact ⟨ret_bool (by rw [hd]; simp), bw2⟩
  subst h6
  cases a7 <;> cases b7
  all_goals
    go_wp2
    go_ret
    exact ⟨by simp, bw2⟩
end Go.Proofs.Ythgihhngddhejaa
