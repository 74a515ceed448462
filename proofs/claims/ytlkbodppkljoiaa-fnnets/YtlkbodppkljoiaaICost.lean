/-
  impl.fromBothEnds, impl.CostTo: their contracts.
-/
import Derived.Test.YtlkbodppkljoiaaCostS
import Derived.Test.YtlkbodppkljoiaaNets
import Derived.Deep.RegionHeld3
import Derived.Laws.StructEq
namespace Go.Proofs.Ytlkbodppkljoiaa
open Go.RowKit

def bothV (l : Lk) : Value := .agg #[.int .i64 l.a, .int .i64 l.b, .int .i64 l.c, .int .i64 l.r, .int .i64 l.b, .int .i64 l.a, .int .i64 l.c, .int .i64 l.r]

set_option maxRecDepth 100000 in
set_option maxHeartbeats 2000000 in
theorem both_any (l : Lk) (w : World) : Calls Try.prog 32 #[lkV l] w fun e w' => e = .returned (bothV l) ∧ Below w.heap.size w w' := by
  obtain ⟨a, b, c, r⟩ := l
  unfold lkV bothV
  go_enter Try.func32, Try.ntmps32
  go_wp2
  go_returns
  exact ⟨rfl, below_three _ _ _⟩

set_option maxRecDepth 100000 in
theorem run_both0 (w : World) (x0 x1 x2 x3 x4 x5 x6 x7 : Value) : (Instr.index 62 (.agg #[x0, x1, x2, x3, x4, x5, x6, x7]) (.int .i64 0)).run Try.prog w = .ok (.agg #[x0, x1, x2, x3]) w := by
  rfl

set_option maxRecDepth 100000 in
theorem run_both1 (w : World) (x0 x1 x2 x3 x4 x5 x6 x7 : Value) : (Instr.index 62 (.agg #[x0, x1, x2, x3, x4, x5, x6, x7]) (.int .i64 1)).run Try.prog w = .ok (.agg #[x4, x5, x6, x7]) w := by
  rfl

set_option maxRecDepth 100000 in
theorem run_same (w : World) (a b c d a' b' c' d' : Int) : (binOp .eql 39 (.agg #[.int .i64 a, .int .i64 b, .int .i64 c, .int .i64 d]) (.agg #[.int .i64 a', .int .i64 b', .int .i64 c', .int .i64 d'])).run Try.prog w = .ok (.bool (decide (a = a' ∧ b = b' ∧ c = c' ∧ d = d'))) w := by
  go_simp
  by_cases h1 : a = a' <;> by_cases h2 : b = b' <;> by_cases h3 : c = c' <;> by_cases h4 : d = d' <;> simp [h1, h2, h3, h4]

theorem same_yes {f t r la lb lc lr : Int} (h : la = f ∧ lb = t ∧ lr = r) (W : World) : (binOp .eql 39 (.agg #[.int .i64 la, .int .i64 lb, .int .i64 lc, .int .i64 lr]) (.agg #[.int .i64 f, .int .i64 t, .int .i64 lc, .int .i64 r])).run Try.prog W = .ok (.bool true) W := by
  rw [run_same, decide_eq_true ⟨h.1, h.2.1, rfl, h.2.2⟩]

theorem same_no {f t r la lb lc lr : Int} (h : ¬ (la = f ∧ lb = t ∧ lr = r)) (W : World) : (binOp .eql 39 (.agg #[.int .i64 la, .int .i64 lb, .int .i64 lc, .int .i64 lr]) (.agg #[.int .i64 f, .int .i64 t, .int .i64 lc, .int .i64 r])).run Try.prog W = .ok (.bool false) W := by
  rw [run_same, decide_eq_false (fun g => h ⟨g.1, g.2.1, g.2.2.2⟩)]

set_option maxRecDepth 100000 in
set_option maxHeartbeats 4000000 in
theorem icost_any (n : Value) (v tv : Value) (ls : List Lk) (f t r : Int) (w : World) (hls : ls.length ≤ 1048576) (hv : LinksAt w v ls w.heap.size) :
    Calls Try.prog 14 #[.agg #[n, v, tv], .int .i64 f, .int .i64 t, .int .i64 r] w fun e w' => e = .returned (.int .i64 (costN ls f t r)) ∧ Below w.heap.size w w' := by
  obtain ⟨a, cap, rfl⟩ : ∃ a cap, v = .slice a ls.length cap := by obtain ⟨a, cap, h, _⟩ := hv; exact ⟨a, cap, h⟩
  have HV := hide hv
  clear hv
  go_enter Try.func14, Try.ntmps14
  go_wp2
  go_loopw [17] (fun i wr => ∃ k : Nat, k ≤ ls.length ∧ i = .int .i64 k ∧ (∀ j, j < k → ∀ l, ls[j]? = some l → lkHit f t r l = false) ∧ Below w.heap.size w wr) (fun i _ => ls.length - (intOf i).toNat)
  case atStart => exact ⟨0, by omega, rfl, by omega, (Below.refl _ _).alloc (Nat.le_refl _) _⟩
  case round =>
    obtain ⟨k, hk, rfl, hno, hb⟩ := hrel
    have HNO := hide hno
    clear hno
    by_cases hlt : k < ls.length
    · obtain ⟨l, hl⟩ : ∃ l, ls[k]? = some l := ⟨ls[k], List.getElem?_eq_getElem hlt⟩
      obtain ⟨b, off, cap', hve, hbb, c0, c1, c2, c3⟩ := HV.out.cells k l hl
      cases hve
      rw [← hb.cell (p := ⟨b, off + k * 4, none⟩) hbb] at c0
      rw [← hb.cell (p := ⟨b, off + k * 4 + 1, none⟩) hbb] at c1
      rw [← hb.cell (p := ⟨b, off + k * 4 + 2, none⟩) hbb] at c2
      rw [← hb.cell (p := ⟨b, off + k * 4 + 3, none⟩) hbb] at c3
      have HL := hide hl
      have hbo := both_any l
      clear hl
      obtain ⟨la, lb, lc, lr⟩ := l
      unfold bothV lkV at hbo
      simp only [] at hbo
      have HBO := hide hbo
      clear hbo
      go_wp2_with fail
      refine (HBO.out _).mono ?_
      rintro e w1 ⟨rfl, b1⟩
      have hp : w1.heap[wr.heap.size]? = some (.cells #[.int .i64 la, .int .i64 lb, .int .i64 lc, .int .i64 lr] 39) := by
        rw [b1.block _ (by simp; omega), Below.heap_alloc _ _ _ (by simp), heap_alloc_new]
      have hq : w1.heap[wr.heap.size + 1]? = some (.cells #[.int .i64 f, .int .i64 t, .int .i64 lc, .int .i64 r] 39) := by
        rw [b1.block _ (by simp)]
        have := heap_alloc_new (wr.alloc (.cells #[.int .i64 la, .int .i64 lb, .int .i64 lc, .int .i64 lr] 39)) (.cells #[.int .i64 f, .int .i64 t, .int .i64 lc, .int .i64 r] 39)
        simpa using this
      have hbr := hb.size
      have B1 : Below w.heap.size w w1 := (hb.trans ((below_two _ _).mono hb.size)).trans (b1.mono (by simp; omega))
      have HP := hide hp
      have HQ := hide hq
      clear hp hq b1 c0 c1 c2 c3 hb
      obtain ⟨z, hz⟩ : ∃ z, z = wr.heap.size := ⟨_, rfl⟩
      rw [← hz] at HP HQ hbr ⊢
      clear hz wr
      go_wp2
      go_loopw [29] (fun i wr => ∃ j : Nat, j ≤ 2 ∧ i = .int .i64 j ∧ (1 ≤ j → ¬ (la = f ∧ lb = t ∧ lr = r)) ∧ (2 ≤ j → ¬ (lb = f ∧ la = t ∧ lr = r)) ∧ Below w.heap.size w wr ∧ wr.heap[z]? = some (.cells #[.int .i64 la, .int .i64 lb, .int .i64 lc, .int .i64 lr] 39) ∧ wr.heap[z + 1]? = some (.cells #[.int .i64 f, .int .i64 t, .int .i64 lc, .int .i64 r] 39)) (fun i _ => 2 - (intOf i).toNat)
      case atStart => exact ⟨0, by omega, rfl, by omega, by omega, B1, HP.out, HQ.out⟩
      case round =>
        obtain ⟨j, hj, rfl, hn1, hn2, hb, hp, hq⟩ := hrel
        have HN1 := hide hn1
        have HN2 := hide hn2
        have p0 := cells_at hp 0
        have p1 := cells_at hp 1
        have p2 := cells_at hp 2
        have p3 := cells_at hp 3
        have q0 := cells_at hq 0
        have q1 := cells_at hq 1
        have q2 := cells_at hq 2
        have q3 := cells_at hq 3
        simp at p0 p1 p2 p3 q0 q1 q2 q3
        have hz1 := lt_of_heap hq
        have hz0 := lt_of_heap hp
        have HP := hide hp
        have HQ := hide hq
        clear hn1 hn2 hp hq
        obtain rfl | rfl | rfl : j = 0 ∨ j = 1 ∨ j = 2 := by omega
        · have i0 := fun W => run_both0 W (.int .i64 la) (.int .i64 lb) (.int .i64 lc) (.int .i64 lr) (.int .i64 lb) (.int .i64 la) (.int .i64 lc) (.int .i64 lr)
          by_cases h : la = f ∧ lb = t ∧ lr = r
          · have e0 := same_yes (lc := lc) h
            have hh : lkHit f t r ⟨la, lb, lc, lr⟩ = true := by simp [lkHit, h.1, h.2.1, h.2.2]
            have HH := hide hh
            clear hh h
            go_wp2
            go_ret
            exact ⟨ret_int (cost_hit HNO.out HL.out HH.out).symm, hb.alloc hb.size _⟩
          · have e0 := same_no (lc := lc) h
            have HH := hide h
            clear h
            go_wp2
            go_roundw
            case rel => exact ⟨1, by omega, by go_num, fun _ => HH.out, by omega, hb.alloc hb.size _, by rw [Below.heap_alloc _ _ _ hz0]; exact HP.out, by rw [Below.heap_alloc _ _ _ hz1]; exact HQ.out⟩
            case measure => simp [intOf]
        · have i0 := fun W => run_both1 W (.int .i64 la) (.int .i64 lb) (.int .i64 lc) (.int .i64 lr) (.int .i64 lb) (.int .i64 la) (.int .i64 lc) (.int .i64 lr)
          by_cases h : lb = f ∧ la = t ∧ lr = r
          · have e0 := same_yes (lc := lc) h
            have hh : lkHit f t r ⟨la, lb, lc, lr⟩ = true := by simp [lkHit, h.1, h.2.1, h.2.2]
            have HH := hide hh
            clear hh h
            go_wp2
            go_ret
            exact ⟨ret_int (cost_hit HNO.out HL.out HH.out).symm, hb.alloc hb.size _⟩
          · have e0 := same_no (lc := lc) h
            have HH := hide h
            clear h
            go_wp2
            go_roundw
            case rel => exact ⟨2, by omega, by go_num, fun _ => HN1.out (by omega), fun _ => HH.out, hb.alloc hb.size _, by rw [Below.heap_alloc _ _ _ hz0]; exact HP.out, by rw [Below.heap_alloc _ _ _ hz1]; exact HQ.out⟩
            case measure => simp [intOf]
        · have hh : lkHit f t r ⟨la, lb, lc, lr⟩ = false := by
            have m1 := HN1.out (by omega)
            have m2 := HN2.out (by omega)
            simp only [lkHit]
            grind
          have HH := hide hh
          clear hh
          go_wp2
          exact ⟨⟨k + 1, by omega, by go_num, cost_next HNO.out HL.out HH.out, hb⟩, by simp [intOf]; omega⟩
    · have hk' : k = ls.length := by omega
      have HK := hide hk'
      clear hk'
      go_wp2
      go_ret
      exact ⟨ret_int (cost_none HNO.out HK.out).symm, hb⟩
end Go.Proofs.Ytlkbodppkljoiaa
