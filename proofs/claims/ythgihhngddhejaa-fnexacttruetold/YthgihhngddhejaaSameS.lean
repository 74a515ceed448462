/-
  spec.SameKey, spec.SameBody: their contracts.
-/
import Derived.Test.YthgihhngddhejaaRecK
import Derived.Laws.StructEq
namespace Go.Proofs.Ythgihhngddhejaa
open Go.RowKit

def sameKeyB (x y : RecD) : Bool := x.area == y.area && x.kind == y.kind && x.owner == y.owner && x.key == y.key

def sameBodyB (x y : RecD) : Bool := sameKeyB x y && x.cost == y.cost && x.far == y.far && decide (x.near = y.near)

set_option maxRecDepth 100000 in
set_option maxHeartbeats 4000000 in
theorem ssameKey_any (v1 v2 : Value) (x y : RecD) (w : World) : Calls Try.prog 17 #[.agg (recC x v1), .agg (recC y v2)] w fun e w' => e = .returned (.bool (sameKeyB x y)) ∧ Below w.heap.size w w' := by
  obtain ⟨a0, a1, a2, a3, a4, ns, a6, a7⟩ := x
  obtain ⟨b0, b1, b2, b3, b4, ms, b6, b7⟩ := y
  unfold recC
  simp only []
  go_enter Try.func17, Try.ntmps17
  go_wp2
  all_goals go_ret
  all_goals refine ⟨ret_bool ?_, below_two _ _⟩
  all_goals (simp only [sameKeyB]; grind)

theorem near_neq (w : World) (a b a' b' : Int) : (binOp .neq 41 (.agg #[.int .i64 a, .int .i64 b]) (.agg #[.int .i64 a', .int .i64 b'])).run Try.prog w = .ok (.bool (!decide ((⟨a, b⟩ : Nr) = ⟨a', b'⟩))) w := by
  go_simp
  by_cases h1 : a = a' <;> by_cases h2 : b = b' <;> simp [h1, h2]

set_option maxRecDepth 100000 in
set_option maxHeartbeats 4000000 in
theorem ssameBody_any (v1 v2 : Value) (x y : RecD) (w : World) (h1 : RecAt w v1 x w.heap.size) (h2 : RecAt w v2 y w.heap.size) (hl : x.near.length ≤ 1048576) (hm : y.near.length ≤ 9223372036854775807) :
    Calls Try.prog 10 #[v1, v2] w fun e w' => e = .returned (.bool (sameBodyB x y)) ∧ Below w.heap.size w w' := by
  obtain ⟨u1, rfl, k1⟩ := h1
  obtain ⟨u2, rfl, k2⟩ := h2
  obtain ⟨p1, c1, rfl⟩ := k1.shape
  obtain ⟨p2, c2, rfl⟩ := k2.shape
  have HSK := hide (ssameKey_any (.slice p1 x.near.length c1) (.slice p2 y.near.length c2) x y)
  obtain ⟨q, hq⟩ : ∃ q, q = sameKeyB x y := ⟨_, rfl⟩
  rw [← hq] at HSK
  have hB : sameBodyB x y = (q && x.cost == y.cost && x.far == y.far && decide (x.near = y.near)) := by rw [hq]; rfl
  rw [hB]
  clear hB hq
  obtain ⟨a0, a1, a2, a3, a4, ns, a6, a7⟩ := x
  obtain ⟨b0, b1, b2, b3, b4, ms, b6, b7⟩ := y
  unfold recC at HSK ⊢
  simp only [] at HSK k1 k2 hl hm ⊢
  have K1 := hide k1
  have K2 := hide k2
  clear k1 k2
  have hn0 := heap_alloc_new w (.cells #[.int .i64 a0, .int .i64 a1, .int .i64 a2, .int .i64 a3, .int .i64 a4, .slice p1 ns.length c1, .int .i64 a6, .bool a7] 35)
  go_enter Try.func10, Try.ntmps10
  go_wp2_with fail
  refine (HSK.out _).mono ?_
  rintro e w1 ⟨rfl, bb1⟩
  have bw1 : Below w.heap.size w w1 := (below_two _ _).trans (bb1.mono (by simp; omega))
  have hw0 : w1.heap[w.heap.size]? = some (.cells #[.int .i64 a0, .int .i64 a1, .int .i64 a2, .int .i64 a3, .int .i64 a4, .slice p1 ns.length c1, .int .i64 a6, .bool a7] 35) := by
    rw [bb1.block _ (by simp; omega), Below.heap_alloc _ _ _ (by simp), heap_alloc_new]
  have hw1 : w1.heap[w.heap.size + 1]? = some (.cells #[.int .i64 b0, .int .i64 b1, .int .i64 b2, .int .i64 b3, .int .i64 b4, .slice p2 ms.length c2, .int .i64 b6, .bool b7] 35) := by
    rw [bb1.block _ (by simp)]
    have := heap_alloc_new (w.alloc (.cells #[.int .i64 a0, .int .i64 a1, .int .i64 a2, .int .i64 a3, .int .i64 a4, .slice p1 ns.length c1, .int .i64 a6, .bool a7] 35)) (.cells #[.int .i64 b0, .int .i64 b1, .int .i64 b2, .int .i64 b3, .int .i64 b4, .slice p2 ms.length c2, .int .i64 b6, .bool b7] 35)
    simpa using this
  have s5 := cells_at hw0 5
  have s6 := cells_at hw0 6
  have s7 := cells_at hw0 7
  have t5 := cells_at hw1 5
  have t6 := cells_at hw1 6
  have t7 := cells_at hw1 7
  simp at s5 s6 s7 t5 t6 t7
  have HW0 := hide hw0
  have HW1 := hide hw1
  clear bb1 hw0 hw1 hn0
  cases q
  · go_wp2
    go_ret
    exact ⟨by simp, bw1⟩
  by_cases h6 : a6 = b6
  case neg =>
    have hd : (a6 != b6) = true := by simpa using h6
    have he : (a6 == b6) = false := by simpa using h6
    have HE := hide he
    clear he
    go_wp2
    go_ret
    exact ⟨ret_bool (by rw [HE.out]; simp), bw1⟩
  subst h6
  by_cases h7 : a7 = b7
  case neg =>
    have hd : (a7 != b7) = true := by simpa using h7
    have he : (a7 == b7) = false := by simpa using h7
    have HE := hide he
    clear he
    go_wp2
    go_ret
    exact ⟨ret_bool (by rw [HE.out]; simp), bw1⟩
  subst h7
  by_cases hln : ns.length = ms.length
  case neg =>
    have hd : ((ns.length : Int) != (ms.length : Int)) = true := by simp; omega
    have he : decide (ns = ms) = false := decide_eq_false (fun h => hln (by rw [h]))
    have HE := hide he
    clear he
    go_wp2
    go_ret
    exact ⟨ret_bool (by rw [HE.out]; simp), bw1⟩
  have HLN := hide hln
  have hln2 : (ms.length : Int) = (ns.length : Int) := by omega
  clear hln hm
  go_wp2
  clear hln2
  go_loopw [5] (fun i wr => ∃ k : Nat, k ≤ ns.length ∧ i = .int .i64 k ∧ (∀ j, j < k → ns[j]? = ms[j]?) ∧ Below w.heap.size w wr ∧ wr.heap[w.heap.size]? = some (.cells #[.int .i64 a0, .int .i64 a1, .int .i64 a2, .int .i64 a3, .int .i64 a4, .slice p1 ns.length c1, .int .i64 a6, .bool a7] 35) ∧ wr.heap[w.heap.size + 1]? = some (.cells #[.int .i64 b0, .int .i64 b1, .int .i64 b2, .int .i64 b3, .int .i64 b4, .slice p2 ms.length c2, .int .i64 a6, .bool a7] 35)) (fun i _ => ns.length - (intOf i).toNat)
  case atStart => exact ⟨0, by omega, rfl, by omega, bw1, HW0.out, HW1.out⟩
  case round =>
    clear s5 s6 s7 t5 t6 t7 HW0 HW1 bw1
    obtain ⟨k, hk, rfl, hall, hb, hx, hy⟩ := hrel
    have s5 := cells_at hx 5
    have t5 := cells_at hy 5
    simp at s5 t5
    have HX := hide hx
    have HY := hide hy
    have HALL := hide hall
    clear hx hy hall
    by_cases hlt : k < ns.length
    · obtain ⟨x, hx⟩ : ∃ l, ns[k]? = some l := ⟨ns[k], List.getElem?_eq_getElem hlt⟩
      obtain ⟨y, hy⟩ : ∃ l, ms[k]? = some l := ⟨ms[k]'(by have := HLN.out; omega), List.getElem?_eq_getElem _⟩
      obtain ⟨d1, o1, cp1, hv1, hd1, f0, f1⟩ := K1.out.cells k x hx
      obtain ⟨d2, o2, cp2, hv2, hd2, g0, g1⟩ := K2.out.cells k y hy
      cases hv1
      cases hv2
      rw [← hb.cell (p := ⟨d1, o1 + k * 2, none⟩) hd1] at f0
      rw [← hb.cell (p := ⟨d1, o1 + k * 2 + 1, none⟩) hd1] at f1
      rw [← hb.cell (p := ⟨d2, o2 + k * 2, none⟩) hd2] at g0
      rw [← hb.cell (p := ⟨d2, o2 + k * 2 + 1, none⟩) hd2] at g1
      have hki : (0 : Int) ≤ (k : Int) := by omega
      have hkj : (k : Int) < (ns.length : Int) := by omega
      have hkm : (k : Int) < (ms.length : Int) := by have := HLN.out; omega
      have e0 := fun W => near_neq W x.to x.c y.to y.c
      have HXX := hide hx
      have HYY := hide hy
      clear hx hy
      by_cases hxy : (⟨x.to, x.c⟩ : Nr) = ⟨y.to, y.c⟩
      · rw [decide_eq_true hxy] at e0
        have HXY := hide hxy
        clear hxy
        go_wp2
        go_quiet (fail)
        go_wp2
        go_roundw
        case rel => exact ⟨k + 1, by omega, by go_num, (fun j hj => by
          by_cases e : j = k
          · subst e; rw [HXX.out, HYY.out]; exact congrArg some HXY.out
          · exact HALL.out j (by omega)), ⟨hb.os, hb.tape, hb.output, hb.size, hb.block⟩, HX.out, HY.out⟩
        case measure => simp [intOf]; omega
      · rw [decide_eq_false hxy] at e0
        have he : decide (ns = ms) = false := decide_eq_false (fun h => hxy (by
          subst h
          have := HXX.out.symm.trans HYY.out
          exact Option.some.inj this))
        have HE := hide he
        clear hxy he
        go_wp2
        go_quiet (fail)
        go_wp2
        go_ret
        exact ⟨ret_bool (by rw [HE.out]; simp), ⟨hb.os, hb.tape, hb.output, hb.size, hb.block⟩⟩
    · have he : decide (ns = ms) = true := decide_eq_true (eq_all HLN.out (by have : k = ns.length := by omega
                                                                              rw [← this]; exact HALL.out))
      have HE := hide he
      clear he
      go_wp2
      go_ret
      exact ⟨ret_bool (by rw [HE.out]; simp), hb⟩
end Go.Proofs.Ythgihhngddhejaa
