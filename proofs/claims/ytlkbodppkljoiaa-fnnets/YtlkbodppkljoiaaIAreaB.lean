/-
  impl.AreasOf, impl.Border: their contracts.
-/
import Derived.Test.YtlkbodppkljoiaaIEnds
namespace Go.Proofs.Ytlkbodppkljoiaa
open Go.RowKit

def passed (p : Int → Bool) (s : Int) : Nat → List Int
  | 0 => []
  | k + 1 => passed p s k ++ (if p (s + (k : Int)) then [s + (k : Int)] else [])

theorem passed_len (p : Int → Bool) (s : Int) : ∀ k, (passed p s k).length ≤ k
  | 0 => by simp [passed]
  | k + 1 => by
    have := passed_len p s k
    simp only [passed]
    split <;> simp <;> omega

def areasI (ls : List Lk) (f : Int) : List Int := ([0, 1, 2] : List Int).filter fun u => decide (0 < (nextI ls f u).length)

def bordI (ls : List Lk) (f : Int) : Bool := decide (1 < (areasI ls f).length) && ((areasI ls f).head? == some 0)

theorem compact_ne (z : Int) (zs : List Int) : Lib.compact (z :: zs) ≠ [] := by
  intro h
  unfold Lib.compact Lib.compactUpTo at h
  rw [List.map_eq_nil_iff, List.filter_eq_nil_iff] at h
  exact h 0 (by simp) (Lib.keeps_lt_one _ 0 (by omega))

theorem next_pos (ls : List Lk) (f r : Int) : decide (0 < (nextI ls f r).length) = decide (0 < (gath ls f r ls.length).length) := by
  unfold nextI
  apply decide_eq_decide.2
  have h1 := Lib.compact_length_le ((gath ls f r ls.length).mergeSort fun x y => decide (x ≤ y))
  rw [List.length_mergeSort] at h1
  constructor
  · omega
  · intro h
    have hm : 0 < ((gath ls f r ls.length).mergeSort fun x y => decide (x ≤ y)).length := by rw [List.length_mergeSort]; exact h
    generalize ((gath ls f r ls.length).mergeSort fun x y => decide (x ≤ y)) = zs at hm
    cases zs with
    | nil => simp at hm
    | cons z zs =>
      cases hc : Lib.compact (z :: zs) with
      | nil => exact absurd hc (compact_ne z zs)
      | cons => simp

theorem areasI_passed (ls : List Lk) (v : Int) : areasI ls v = passed (fun u => decide (0 < (nextI ls v u).length)) 0 3 := by
  simp only [areasI, passed, List.filter_cons, List.filter_nil, List.nil_append]
  repeat' split
  all_goals simp_all

set_option maxRecDepth 100000 in
set_option maxHeartbeats 1000000 in
theorem iareas_any (n : Value) (v tv : Value) (ls : List Lk) (f : Int) (w : World) (hls : ls.length ≤ 1048576) (hv : LinksAt w v ls w.heap.size) :
    Calls Try.prog 10 #[.agg #[n, v, tv], .int .i64 f] w fun e w' => ∃ x, e = .returned x ∧ w'.ownsRow w.heap.size 3 1 x (areasI ls f).length (intsOf (areasI ls f)) ∧ Below w.heap.size w w' := by
  have HV := hide hv
  clear hv
  rw [areasI_passed]
  go_enter Try.func10, Try.ntmps10
  go_wp2
  go_loopw [5, 8] (fun x i wr => ∃ k : Nat, k ≤ 3 ∧ i = .int .i64 (0 + (k : Int)) ∧ Below w.heap.size w wr ∧ wr.heap[w.heap.size]? = some (.cells #[n, v, tv] 27) ∧ wr.ownsRow (w.heap.size + 1) 3 1 x (passed (fun u => decide (0 < (nextI ls f u).length)) 0 k).length (intsOf (passed (fun u => decide (0 < (nextI ls f u).length)) 0 k))) (fun _ i _ => 4 - (intOf i).toNat)
  case atStart =>
    refine ⟨0, by omega, rfl, below_two _ _, ?_, ?_⟩
    · rw [Below.heap_alloc _ _ _ (show w.heap.size < (w.alloc (.cells #[n, v, tv] 27)).heap.size by simp), heap_alloc_new]
    · have h0 := World.ownsRow_lit (base := w.heap.size + 1) (w.alloc (.cells #[n, v, tv] 27)) (#[] : Array Value) 0 (by simp) (by decide) (e := 3) (size := 1) rfl
      simpa [passed, intsOf] using h0
  case round =>
    obtain ⟨k, hk, rfl, hb, hx, hown⟩ := hrel
    have c0 : wr.cell? ⟨w.heap.size, 0, none⟩ = some n := by rw [cells_at hx]; rfl
    have c1 : wr.cell? ⟨w.heap.size, 1, none⟩ = some v := by rw [cells_at hx]; rfl
    have c2 : wr.cell? ⟨w.heap.size, 2, none⟩ = some tv := by rw [cells_at hx]; rfl
    have hxl := lt_of_heap hx
    have HX := hide hx
    have OW := hide hown
    clear hx hown
    by_cases hlt : k < 3
    · go_wp2_with fail
      refine (iends_any n v tv ls f _ wr hls (HV.out.then hb)).mono ?_
      rintro e w1 ⟨x1, rfl, hox, b1⟩
      obtain ⟨a1, cp1, rfl⟩ := owns_len hox
      clear hox
      have hown1 := owns_below OW.out b1 (Nat.le_refl _)
      have hx1 : w1.heap[w.heap.size]? = some (.cells #[n, v, tv] 27) := by rw [b1.block _ hxl]; exact HX.out
      have hb1 : Below w.heap.size w w1 := hb.trans (b1.mono hb.size)
      have hz1 := b1.size
      have hpl := passed_len (fun u => decide (0 < (nextI ls f u).length)) 0 k
      have HX1 := hide hx1
      obtain ⟨l2, hl20⟩ : ∃ l2, l2 = passed (fun u => decide (0 < (nextI ls f u).length)) 0 (k + 1) := ⟨_, rfl⟩
      have HL20 := hide hl20
      have hps : Hid (l2 = passed (fun u => decide (0 < (nextI ls f u).length)) 0 k ++ (if decide (0 < (nextI ls f (0 + (k : Int))).length) then [0 + (k : Int)] else [])) := hl20
      clear hl20
      clear b1 hx1 c0 c1 c2 OW HX
      generalize passed (fun u => decide (0 < (nextI ls f u).length)) 0 k = l at hown1 hpl hps
      rw [Int.zero_add] at *
      rw [next_pos] at hps
      generalize (gath ls f (k : Int) ls.length).length = c at hps ⊢
      by_cases hc : 0 < (c : Int)
      · have hc' : 0 < c := by omega
        have hl2 : l2 = l ++ [(k : Int)] := by rw [hps.out]; simp [hc']
        clear hc'
        have HL2 := hide hl2
        clear hl2 hps
        go_wp2_with (first
          | (at_builtin; refine wpList_append_int _ rfl _ _ 32 rfl (w.heap.size + 1) 3 Try.underlying32 Try.info3 u5 l (k : Int) rfl (hown1.alloc _) ⟨w1.heap.size, 0, none⟩ 1 rfl ?_ (by omega) (by simp; omega) ?_))
        · rw [add_zero', World.cell?_alloc_at _ _ _ _ rfl]; rfl
        intro v' w4 l' hl' hown' hgrow
        have hb4 : Below w.heap.size w w4 := (hb1.alloc (by omega) _).grown hgrow (by simp; omega) (fun k hk => by have := (hown1.lt k hk).1; omega)
        have hx4 : w4.heap[w.heap.size]? = some (.cells #[n, v, tv] 27) := by
          rw [hgrow.block _ (by simp; omega) (fun h => by have := (hown1.lt _ h.symm).1; omega), Below.heap_alloc _ _ _ (by omega)]
          exact HX1.out
        have e : l' = l2 := by rw [hl'.out, HL2.out]
        subst e
        have OW2 := hide hown'
        have HX4 := hide hx4
        clear hgrow hown' hx4 hown1
        go_wp2
        go_roundw
        case rel => exact ⟨k + 1, by omega, by go_num, hb4, HX4.out, by rw [← HL20.out]; exact OW2.out⟩
        case measure => simp [intOf]; omega
      · have hc' : ¬ 0 < c := by omega
        have hl2 : l2 = l := by rw [hps.out]; simp [hc']
        clear hc'
        subst hl2
        have OW2 := hide hown1
        clear hown1 hps
        go_wp2
        go_roundw
        case rel => exact ⟨k + 1, by omega, by go_num, hb1, HX1.out, by rw [← HL20.out]; exact OW2.out⟩
        case measure => simp [intOf]; omega
    · have hk' : k = 3 := by omega
      subst hk'
      go_wp2
      go_ret
      exact ⟨_, rfl, owns_base OW.out (by omega), hb⟩

set_option maxRecDepth 100000 in
set_option maxHeartbeats 1000000 in
theorem iborder_any (n : Value) (v tv : Value) (ls : List Lk) (f : Int) (w : World) (hls : ls.length ≤ 1048576) (hv : LinksAt w v ls w.heap.size) :
    Calls Try.prog 11 #[.agg #[n, v, tv], .int .i64 f] w fun e w' => e = .returned (.bool (bordI ls f)) ∧ Below w.heap.size w w' := by
  have HV := hide hv
  clear hv
  go_enter Try.func11, Try.ntmps11
  go_wp2_with fail
  refine (iareas_any n v tv ls f _ hls (HV.out.then ((Below.refl _ _).alloc (Nat.le_refl _) _))).mono ?_
  rintro e w1 ⟨x, rfl, hox, b1⟩
  have hb1 : Below w.heap.size w w1 := ((Below.refl w.heap.size w).alloc (Nat.le_refl _) _).trans (b1.mono (by simp))
  obtain ⟨zs, hzs⟩ : ∃ zs, zs = areasI ls f := ⟨_, rfl⟩
  have hB : bordI ls f = (decide (1 < zs.length) && (zs.head? == some 0)) := by rw [hzs]; rfl
  have HB := hide hB
  rw [← hzs] at hox
  clear hB hzs b1
  by_cases h1 : 1 < zs.length
  · obtain ⟨g, cap, rfl, hg, hl⟩ := owns_shape hox (by omega)
    obtain ⟨z, zr, rfl⟩ : ∃ z zr, zs = z :: zr := by
      cases zs with
      | nil => simp at h1
      | cons z zr => exact ⟨z, zr, rfl⟩
    have c0 : w1.cell? ⟨g, 0, none⟩ = some (.int .i64 z) := by rw [hox.cellAt 0 (by omega)]; rfl
    have hb : (decide (1 < (z :: zr).length) && ((z :: zr).head? == some 0)) = (z == 0) := by
      rw [decide_eq_true h1]; simp
    have HB2 : Hid (bordI ls f = (z == 0)) := HB.out.trans hb
    generalize (z :: zr).length = m at hox h1 hl ⊢
    have h1' : (1 : Int) < (m : Int) := by omega
    have h0' : (0 : Int) < (m : Int) := by omega
    clear hox hb HB
    go_wp2
    go_ret
    exact ⟨by rw [HB2.out]; rfl, hb1⟩
  · obtain ⟨a, cap, rfl⟩ := owns_len hox
    have hb : (decide (1 < zs.length) && (zs.head? == some 0)) = false := by rw [decide_eq_false h1]; rfl
    have HB2 : Hid (bordI ls f = false) := HB.out.trans hb
    have h1' : ¬ (1 : Int) < (zs.length : Int) := by omega
    clear hox hb HB
    go_wp2
    go_ret
    exact ⟨by rw [HB2.out]; rfl, hb1⟩
end Go.Proofs.Ytlkbodppkljoiaa
