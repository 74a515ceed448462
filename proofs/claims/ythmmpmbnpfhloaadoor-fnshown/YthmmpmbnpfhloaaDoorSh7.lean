/-
  spec.AreasOf, spec.Border: their contracts.
  'append(out, x)' of a struct of four cells, out a row that the call itself made.
  impl.whatIsThere, decimals, ShowRoute: their contracts.
  laws.begins: its contract.
-/
import Derived.Test.YthmmpmbnpfhloaaDoorSh6
import Derived.Laws.AppendOwnNone
namespace Go.Proofs.YthmmpmbnpfhloaaDoor
open Go.RowKit

theorem areas_passed (ls : List Lk) (v : Int) : areasL ls v = passed (fun u => decide (0 < (nextL ls v u).length)) 0 3 := by
  simp only [areasL, passed, List.filter_cons, List.filter_nil, List.nil_append]
  repeat' split
  all_goals simp_all

set_option maxRecDepth 100000 in
set_option maxHeartbeats 1000000 in
theorem sareas_any (n : Value) (v tv : Value) (ls : List Lk) (f : Int) (w : World) (hls : ls.length ≤ 1048576) (hv : LinksAt w v ls w.heap.size) :
    Calls Tryd.prog 31 #[.agg #[n, v, tv], .int .i64 f] w fun e w' => ∃ x, e = .returned x ∧ w'.ownsRow w.heap.size 3 1 x (areasL ls f).length (intsOf (areasL ls f)) ∧ Below w.heap.size w w' := by
  have HV := hide hv
  clear hv
  rw [areas_passed]
  go_enter Tryd.func31, Tryd.ntmps31
  go_wp2
  go_loopw [5, 6] (fun x i wr => ∃ k : Nat, k ≤ 3 ∧ i = .int .i64 (0 + (k : Int)) ∧ Below w.heap.size w wr ∧ wr.heap[w.heap.size]? = some (.cells #[n, v, tv] 45) ∧ wr.ownsRow (w.heap.size + 1) 3 1 x (passed (fun u => decide (0 < (nextL ls f u).length)) 0 k).length (intsOf (passed (fun u => decide (0 < (nextL ls f u).length)) 0 k))) (fun _ i _ => 4 - (intOf i).toNat)
  case atStart =>
    refine ⟨0, by omega, rfl, below_two _ _, ?_, ?_⟩
    · rw [Below.heap_alloc _ _ _ (show w.heap.size < (w.alloc (.cells #[n, v, tv] 45)).heap.size by simp), heap_alloc_new]
    · have h0 := World.ownsRow_lit (base := w.heap.size + 1) (w.alloc (.cells #[n, v, tv] 45)) (#[] : Array Value) 0 (by simp) (by decide) (e := 3) (size := 1) rfl
      simpa [passed, intsOf] using h0
  case round =>
    obtain ⟨k, hk, rfl, hb, hx, hown⟩ := hrel
    have c0 : wr.cell? ⟨w.heap.size, 0, none⟩ = some n := by rw [cells_at hx]; rfl
    have c1 : wr.cell? ⟨w.heap.size, 1, none⟩ = some v := by rw [cells_at hx]; rfl
    have c2 : wr.cell? ⟨w.heap.size, 2, none⟩ = some tv := by rw [cells_at hx]; rfl
    have hxl := lt_of_heap hx
    have HX := hide hx
    have OW := hide hown
    clear hx hown
    by_cases hlt : k < 3
    · go_wp2_with fail
      refine (snext_any n v tv ls f _ wr hls (HV.out.then hb)).mono ?_
      rintro e w1 ⟨x1, rfl, hox, b1⟩
      obtain ⟨a1, cp1, rfl⟩ := owns_len hox
      clear hox
      have hown1 := owns_below OW.out b1 (Nat.le_refl _)
      have hx1 : w1.heap[w.heap.size]? = some (.cells #[n, v, tv] 45) := by rw [b1.block _ hxl]; exact HX.out
      have hb1 : Below w.heap.size w w1 := hb.trans (b1.mono hb.size)
      have hz1 := b1.size
      have hpl := passed_len (fun u => decide (0 < (nextL ls f u).length)) 0 k
      have HX1 := hide hx1
      obtain ⟨l2, hl20⟩ : ∃ l2, l2 = passed (fun u => decide (0 < (nextL ls f u).length)) 0 (k + 1) := ⟨_, rfl⟩
      have HL20 := hide hl20
      have hps : Hid (l2 = passed (fun u => decide (0 < (nextL ls f u).length)) 0 k ++ (if decide (0 < (nextL ls f (0 + (k : Int))).length) then [0 + (k : Int)] else [])) := hl20
      clear hl20
      clear b1 hx1 c0 c1 c2 OW HX
      generalize passed (fun u => decide (0 < (nextL ls f u).length)) 0 k = l at hown1 hpl hps
      rw [Int.zero_add] at *
      generalize (nextL ls f (k : Int)).length = c at hps ⊢
      by_cases hc : 0 < (c : Int)
      · have hc' : 0 < c := by omega
        have hl2 : l2 = l ++ [(k : Int)] := by rw [hps.out]; simp [hc']
        clear hc'
        have HL2 := hide hl2
        clear hl2 hps
        go_wp2_with (first
          | (at_builtin; refine wpList_append_int _ rfl _ _ 24 rfl (w.heap.size + 1) 3 Tryd.underlying24 Tryd.info3 u5 l (k : Int) rfl (hown1.alloc _) ⟨w1.heap.size, 0, none⟩ 1 rfl ?_ (by omega) (by simp; omega) ?_))
        · rw [add_zero', World.cell?_alloc_at _ _ _ _ rfl]; rfl
        intro v' w4 l' hl' hown' hgrow
        have hb4 : Below w.heap.size w w4 := (hb1.alloc (by omega) _).grown hgrow (by simp; omega) (fun k hk => by have := (hown1.lt k hk).1; omega)
        have hx4 : w4.heap[w.heap.size]? = some (.cells #[n, v, tv] 45) := by
          rw [hgrow.block _ (by simp; omega) (fun h => by have := (hown1.lt _ h.symm).1; omega), Below.heap_alloc _ _ _ (by omega)]
          exact HX1.out
        have e : l' = l2 := by rw [hl'.out, HL2.out]
        subst e
        have OW2 := hide hown'
        have HX4 := hide hx4
        clear hgrow hown' hx4 hown1
        go_wp2
        go_roundw
        case rel => exact ⟨k + 1, by omega, by go_num, hb4, HX4.out, by rw [← HL20.out]; exact OW2.out⟩
        case measure => simp [intOf]; omega
      · have hc' : ¬ 0 < c := by omega
        have hl2 : l2 = l := by rw [hps.out]; simp [hc']
        clear hc'
        subst hl2
        have OW2 := hide hown1
        clear hown1 hps
        go_wp2
        go_roundw
        case rel => exact ⟨k + 1, by omega, by go_num, hb1, HX1.out, by rw [← HL20.out]; exact OW2.out⟩
        case measure => simp [intOf]; omega
    · have hk' : k = 3 := by omega
      subst hk'
      go_wp2
      go_ret
      exact ⟨_, rfl, owns_base OW.out (by omega), hb⟩

set_option maxRecDepth 100000 in
set_option maxHeartbeats 1000000 in
theorem sborder_any (n : Value) (v tv : Value) (ls : List Lk) (f : Int) (w : World) (hls : ls.length ≤ 1048576) (hv : LinksAt w v ls w.heap.size) :
    Calls Tryd.prog 32 #[.agg #[n, v, tv], .int .i64 f] w fun e w' => e = .returned (.bool (bordB ls f)) ∧ Below w.heap.size w w' := by
  have HV := hide hv
  clear hv
  go_enter Tryd.func32, Tryd.ntmps32
  go_wp2_with fail
  refine (sareas_any n v tv ls f _ hls (HV.out.then ((Below.refl _ _).alloc (Nat.le_refl _) _))).mono ?_
  rintro e w1 ⟨x, rfl, hox, b1⟩
  have hb1 : Below w.heap.size w w1 := ((Below.refl w.heap.size w).alloc (Nat.le_refl _) _).trans (b1.mono (by simp))
  obtain ⟨zs, hzs⟩ : ∃ zs, zs = areasL ls f := ⟨_, rfl⟩
  have hB : bordB ls f = (decide (1 < zs.length) && (zs.head? == some 0)) := by rw [hzs]; rfl
  have HB := hide hB
  rw [← hzs] at hox
  clear hB hzs b1
  by_cases h1 : 1 < zs.length
  · obtain ⟨g, cap, rfl, hg, hl⟩ := owns_shape hox (by omega)
    obtain ⟨z, zr, rfl⟩ : ∃ z zr, zs = z :: zr := by
      cases zs with
      | nil => simp at h1
      | cons z zr => exact ⟨z, zr, rfl⟩
    have c0 : w1.cell? ⟨g, 0, none⟩ = some (.int .i64 z) := by rw [hox.cellAt 0 (by omega)]; rfl
    have hb : (decide (1 < (z :: zr).length) && ((z :: zr).head? == some 0)) = (z == 0) := by
      rw [decide_eq_true h1]; simp
    have HB2 : Hid (bordB ls f = (z == 0)) := HB.out.trans hb
    generalize (z :: zr).length = m at hox h1 hl ⊢
    have h1' : (1 : Int) < (m : Int) := by omega
    have h0' : (0 : Int) < (m : Int) := by omega
    clear hox hb HB
    go_wp2
    go_ret
    exact ⟨by rw [HB2.out]; rfl, hb1⟩
  · obtain ⟨a, cap, rfl⟩ := owns_len hox
    have hb : (decide (1 < zs.length) && (zs.head? == some 0)) = false := by rw [decide_eq_false h1]; rfl
    have HB2 : Hid (bordB ls f = false) := HB.out.trans hb
    have h1' : ¬ (1 : Int) < (zs.length : Int) := by omega
    clear hox hb HB
    go_wp2
    go_ret
    exact ⟨by rw [HB2.out]; rfl, hb1⟩
end Go.Proofs.YthmmpmbnpfhloaaDoor
namespace Go.Proofs.YthmmpmbnpfhloaaDoor
open Go.RowKit

end Go.Proofs.YthmmpmbnpfhloaaDoor
namespace Go.Proofs.YthmmpmbnpfhloaaDoor
open Go.RowKit
set_option linter.unusedSimpArgs false
set_option linter.unusedVariables false

def strE (l : List UInt8) : List Value := [.string (bs l)]
theorem strE_flat (ls : List (List UInt8)) : (flat strE ls).length = ls.length * 1 := by
  unfold flat strE
  induction ls with
  | nil => rfl
  | cons a t ih => simp at ih ⊢; exact ih
theorem strE_one (ls : List (List UInt8)) : ∀ l ∈ ls, ∀ u ∈ strE l, u.oneCell' = true := by
  intro l _ u hu
  simp only [strE, List.mem_singleton] at hu
  subst hu
  rfl
theorem strE_at (ls : List (List UInt8)) (j : Nat) : (flat strE ls)[j]? = (ls[j]?).map fun l => .string (bs l) := by
  have : flat strE ls = ls.map fun l => .string (bs l) := by
    unfold flat strE
    induction ls with
    | nil => rfl
    | cons a t ih => simp [ih]
  rw [this, List.getElem?_map]

theorem Tryd.infoStr : (Tryd.prog.info? 9).map (fun i => (i.zero, i.size, i.bytes)) = some (some (.string ⟨#[]⟩), 1, 16) := by kernel_rfl

/-- 'append(out, xs...)' of a row of strings, both the caller's own -/
theorem append_strs (w : World) {ops : Array Oper} {rest : List Oper} {o : Oper} {a : Act} {Q : Exit → Act → World → Prop} (hgd : o.guard = none) (s x : Operand)
    (ho : o.op = .call { callee := .builtin .append, args := #[s, x], argTypes := #[36, 36] }) (base : Nat)
    (v : Value) (l : List (List UInt8)) (hs : a.eval s = v) (hown : w.ownsRow base 9 1 v l.length (flat strE l))
    (base2 : Nat) (v2 : Value) (l2 : List (List UInt8)) (hx : a.eval x = v2) (hown2 : w.ownsRow base2 9 1 v2 l2.length (flat strE l2))
    (hl : l.length + l2.length ≤ 1000000000) (hbase : base ≤ w.heap.size)
    (h : ∀ v' w' l', Hid (l' = l ++ l2) → w'.ownsRow base 9 1 v' l'.length (flat strE l') → w.grownBy w' v.ownBlock → wpList Tryd.prog ops Q rest (a.put o.dst v') w') : wpList Tryd.prog ops Q (o :: rest) a w := by
  obtain ⟨i0, hi, hz0, hz1, hz2⟩ := info_parts Tryd.infoStr
  have ht := Tryd.underlying36
  rcases hown2.2 with ⟨e1, e2⟩ | ⟨g, cap, cur, e1, _⟩
  · have e3 : l2 = [] := List.eq_nil_of_length_eq_zero e2
    subst e3
    refine wpList_append_own_none hgd s x 36 ho base 9 i0 1 ht hi v l.length (flat strE l) hs hown (hx.trans e1) ?_
    exact h v w l (hide (by simp)) (by simpa using hown) ⟨rfl, rfl, rfl, Nat.le_refl _, fun _ _ _ => rfl⟩
  · refine wpList_append_own w hgd s x 36 ho base 9 i0 (.string ⟨#[]⟩) 1 16 ht hi hz0 hz1 hz2 rfl (by omega) v l.length (flat strE l) hs hown ⟨g, 0, none⟩ l2.length cap (flat strE l2) (hx.trans e1) (strE_flat l2) (hown2.cells (by rw [e1]; rfl)) ?_ (by unfold maxLen; omega) ?_ hbase ?_
    · intro u hu
      simp only [flat, List.mem_flatMap] at hu
      obtain ⟨b, hbm, hb⟩ := hu
      exact strE_one l2 b hbm u hb
    · omega
    · intro v' w' h1 h2 _
      have e1 : flat strE l ++ flat strE l2 = flat strE (l ++ l2) := by rw [flat_append]
      rw [e1] at h1
      exact h v' w' _ (hide rfl) (by simpa using h1) h2

theorem lit_own (w : World) (cs : Array Value) (ls : List (List UInt8)) (base : Nat) (hb : base ≤ w.heap.size) (hl : ls.length ≤ 1000000) (hc : cs.toList = flat strE ls) :
    (w.alloc (.cells cs 9)).ownsRow base 9 1 (.slice (some ⟨w.heap.size, 0, none⟩) ls.length ls.length) ls.length (flat strE ls) := by
  have h := World.ownsRow_lit (size := 1) (e := 9) w cs ls.length hb (by unfold maxLen; omega) (by rw [← Array.length_toList, hc, strE_flat])
  rw [hc] at h
  exact h

theorem tab_thenS {w w' : World} (h : Lib.TabIs Tryd.prog w "internal/strconv.uint64pow10" .u64 Lib.pow10Tab) (hb : Below w.heap.size w w') : Lib.TabIs Tryd.prog w' "internal/strconv.uint64pow10" .u64 Lib.pow10Tab :=
  var?_below hb gPow (glob_lt gPow h) h

theorem grown_keepS {w w' : World} {r : Option Nat} (h : w.grownBy w' r) {k : Nat} {o : Obj} (hk : w.heap[k]? = some o) (hne : some k = r → False) : w'.heap[k]? = some o := (h.block k (lt_of_heap hk) hne).trans hk

set_option maxRecDepth 100000 in
set_option maxHeartbeats 1000000 in
theorem whatI_any (th : Bool) (v1 v2 v3 v4 v5 : Value) (w : World) :
    Calls Tryd.prog 12 #[.agg #[.bool th, v1, v2, v3, v4, v5]] w fun e w' => e = .returned (.string (bs (wordL th))) ∧ Below w.heap.size w w' := by
  cases th
  all_goals
    go_enter Tryd.func12, Tryd.ntmps12
    go_wp2
    go_ret
    exact ⟨rfl, (Below.refl _ _).alloc (Nat.le_refl _) _⟩

set_option maxRecDepth 100000 in
set_option maxHeartbeats 4000000 in
theorem decs_any (v : Value) (hs : List Int) (w : World) (hv : HopsAt w v hs w.heap.size) (hl : hs.length ≤ 1048576) (hw : ∀ x ∈ hs, i64B x) (htab : Lib.TabIs Tryd.prog w "internal/strconv.uint64pow10" .u64 Lib.pow10Tab) :
    Calls Tryd.prog 14 #[v] w fun e w' => ∃ u, e = .returned u ∧ w'.ownsRow w.heap.size 9 1 u (hs.map decI).length (flat strE (hs.map decI)) ∧ Below w.heap.size w w' := by
  obtain ⟨a1, c1, rfl⟩ := hv.shape
  have HV := hide hv
  have HD := hide hw
  have HT := hide htab
  clear hv hw htab
  go_enter Tryd.func14, Tryd.ntmps14
  go_wp2
  go_loopw [3, 8] (fun o i wr => ∃ (k : Nat) (ls : List (List UInt8)), k ≤ hs.length ∧ i = .int .i64 k ∧ Hid (ls = (hs.take k).map decI) ∧ ls.length ≤ k ∧ wr.ownsRow w.heap.size 9 1 o ls.length (flat strE ls) ∧ Below w.heap.size w wr) (fun _ i _ => hs.length - (intOf i).toNat)
  case atStart => exact ⟨0, [], by omega, rfl, hide (by simp), by simp, World.ownsRow_nil _ _ _ _, Below.refl _ _⟩
  case round =>
    obtain ⟨k, ls, hk, rfl, HLS, hln, hown, hnx⟩ := hrel
    obtain ⟨ua, uc, rfl⟩ := owns_len hown
    by_cases hlt : k < hs.length
    · obtain ⟨z, hz⟩ : ∃ z, hs[k]? = some z := ⟨_, List.getElem?_eq_getElem hlt⟩
      obtain ⟨b, off, cap, hvv, hb, hc⟩ := HopsAt.cell HV.out k z hz
      obtain ⟨rfl, rfl⟩ : a1 = some ⟨b, off, none⟩ ∧ c1 = cap := by cases hvv; exact ⟨rfl, rfl⟩
      have hcell : wr.cell? ⟨b, off + k, none⟩ = some (.int .i64 z) := by rw [hnx.cell (p := ⟨b, off + k, none⟩) hb]; exact hc
      have hzw := HD.out z (List.mem_of_getElem? hz)
      obtain ⟨hz1, hz2⟩ := hzw
      have HZ := hide hz
      have hki : (0 : Int) ≤ (k : Int) := by omega
      have hkj : (k : Int) < (hs.length : Int) := by omega
      have HOW := hide hown
      clear hvv hc hz hown
      go_wp2_with fail
      refine (idec_any z _ hz1 hz2 (tab_thenS HT.out hnx)).mono ?_
      rintro e w5 ⟨rfl, b5⟩
      have hs5 := b5.size
      have hnz := hnx.size
      have B5 := hide (hnx.trans (b5.mono hnx.size))
      have OW := hide (owns_below HOW.out b5 (Nat.le_refl _))
      clear b5 hnx HOW hcell
      go_wp2_with (first
        | (at_builtin; refine append_strs _ rfl _ _ rfl w.heap.size _ ls rfl (OW.out.alloc _) (w.heap.size) _ [decI z] rfl (lit_own w5 #[.string (bs (decI z))] [decI z] w.heap.size (by omega) (by simp) rfl) (by simp; omega) (by simp; omega) ?_))
      intro v' w6 l' hl' hown' hgrow
      have N1 := hide hown'
      have N2 := hide (((B5.out.alloc (by omega) _)).grown hgrow (by simp; omega) (fun j hj => (OW.out.lt j hj).1))
      have N3 := hide (show l' = (hs.take (k + 1)).map decI by rw [hl'.out, HLS.out, List.take_succ_eq_append_getElem hlt, List.map_append]; have := HZ.out; rw [List.getElem?_eq_getElem hlt] at this; cases this; rfl)
      have hl2 : l'.length ≤ k + 1 := by rw [hl'.out]; simp; omega
      obtain ⟨va, vc, rfl⟩ := owns_len hown'
      clear hown' hgrow OW B5 hl'
      go_wp2
      go_roundw
      case rel => exact ⟨k + 1, l', by omega, by go_num, N3, hl2, N1.out, N2.out⟩
      case measure => simp [intOf]; omega
    · have hke : k = hs.length := by omega
      have HFA := hide (show ls = hs.map decI by rw [HLS.out, hke, List.take_length])
      have HOW := hide hown
      clear hown hke
      go_wp2
      go_ret
      exact ⟨_, rfl, by rw [← HFA.out]; exact HOW.out, hnx⟩

set_option maxRecDepth 100000 in
set_option maxHeartbeats 4000000 in
theorem ishow_any (x : RtD) (v : Value) (w : World) (hv : HopsAt w v x.hops w.heap.size) (hl : x.hops.length ≤ 1048576) (hw : RtWf x) (htab : Lib.TabIs Tryd.prog w "internal/strconv.uint64pow10" .u64 Lib.pow10Tab) :
    Calls Tryd.prog 6 #[.agg (rtC x v)] w fun e w' => e = .returned (.string (bs (showL x))) ∧ Below w.heap.size w w' := by
  have hsl := headL_len hw
  have hhl := hopsL_len _ hw.hops
  obtain ⟨X, hX⟩ : ∃ X, X = showL x := ⟨_, rfl⟩
  obtain ⟨PP, hPP⟩ : ∃ PP, PP = partsL x := ⟨_, rfl⟩
  have hJ : Lib.join PP [32] = X := by rw [hPP, hX, join_parts]
  have hXl : X.length ≤ 30000000 := by rw [hX]; unfold showL; simp; omega
  rw [← hX]
  have HJ := hide hJ
  clear hX hJ hsl hhl
  obtain ⟨a1, c1, rfl⟩ := hv.shape
  obtain ⟨th, ta, kd, co, fa, hs⟩ := x
  obtain ⟨h1, h2, h3, h4⟩ := hw
  have HD := hide (show ∀ z ∈ hs, i64B z from h4)
  have HV := hide hv
  have HT := hide htab
  have HPP := hide hPP
  obtain ⟨h10, h11⟩ := h1
  obtain ⟨h20, h21⟩ := h2
  obtain ⟨h30, h31⟩ := h3
  clear hv h4 htab hPP
  unfold rtC
  simp only at *
  have hw0 := heap_alloc_new w (.cells #[.bool th, .int .i64 ta, .int .i64 kd, .int .i64 co, .int .i64 fa, .slice a1 hs.length c1] 26)
  have bw := (Below.refl w.heap.size w).alloc (Nat.le_refl _) (.cells #[.bool th, .int .i64 ta, .int .i64 kd, .int .i64 co, .int .i64 fa, .slice a1 hs.length c1] 26)
  obtain ⟨W1, hW1⟩ : ∃ W1, W1 = w.alloc (.cells #[.bool th, .int .i64 ta, .int .i64 kd, .int .i64 co, .int .i64 fa, .slice a1 hs.length c1] 26) := ⟨_, rfl⟩
  rw [← hW1] at hw0 bw
  have HW1 := hide hW1
  clear hW1
  have W1B := bw
  have hz := lt_of_heap hw0
  have s0 := cells_at hw0 0
  have s1 := cells_at hw0 1
  have s2 := cells_at hw0 2
  have s3 := cells_at hw0 3
  have s4 := cells_at hw0 4
  have s5 := cells_at hw0 5
  simp at s0 s1 s2 s3 s4 s5
  have HW0 := hide hw0
  clear hw0 bw
  go_enter Tryd.func6, Tryd.ntmps6
  go_wp2_with fail
  rw [← HW1.out]
  refine wp_region_start (S := (fun (W : World) => W.cell? ⟨w.heap.size, 0, none⟩ = some (.bool th) ∧ W.cell? ⟨w.heap.size, 1, none⟩ = some (.int .i64 ta) ∧ W.cell? ⟨w.heap.size, 2, none⟩ = some (.int .i64 kd) ∧ W.cell? ⟨w.heap.size, 3, none⟩ = some (.int .i64 co) ∧ W.cell? ⟨w.heap.size, 4, none⟩ = some (.int .i64 fa) ∧ W.cell? ⟨w.heap.size, 5, none⟩ = some (.slice a1 hs.length c1))) (by kernel_rfl) 10 rfl ⟨s0, s1, s2, s3, s4, s5⟩ (fun ops hops hHeld => ?_)
  refine take_do 0 (oi := ?_) (v := ?_) ?_ (by rw [hops.out]; kernel_rfl) ?_ ?_ ?_ (by assumption) ?_
  rotate_left 2
  · rw [hops.out]; simp only [List.getElem?_toArray, List.getElem?_cons_succ, List.getElem?_cons_zero]; rfl
  · rw [hops.out]; kernel_rfl
  · intro W hW; (try dsimp only at hW); go_simp <;> with_reducible rfl
  · exact fun _ _ _ h => h
  try simp only [Act.put, List.setIfInBounds_toArray, List.set_cons_zero, List.set_cons_succ]
  refine take_do 2 (oi := ?_) (v := ?_) ?_ (by rw [hops.out]; kernel_rfl) ?_ ?_ ?_ (by assumption) ?_
  rotate_left 2
  · rw [hops.out]; simp only [List.getElem?_toArray, List.getElem?_cons_succ, List.getElem?_cons_zero]; rfl
  · rw [hops.out]; kernel_rfl
  · intro W hW; (try dsimp only at hW); go_simp <;> with_reducible rfl
  · exact fun _ _ _ h => h
  try simp only [Act.put, List.setIfInBounds_toArray, List.set_cons_zero, List.set_cons_succ]
  refine take_do 3 (oi := ?_) (v := ?_) ?_ (by rw [hops.out]; kernel_rfl) ?_ ?_ ?_ (by assumption) ?_
  rotate_left 2
  · rw [hops.out]; simp only [List.getElem?_toArray, List.getElem?_cons_succ, List.getElem?_cons_zero]; rfl
  · rw [hops.out]; kernel_rfl
  · intro W hW; (try dsimp only at hW); go_simp <;> with_reducible rfl
  · exact fun _ _ _ h => h
  try simp only [Act.put, List.setIfInBounds_toArray, List.set_cons_zero, List.set_cons_succ]
  refine take_do 5 (oi := ?_) (v := ?_) ?_ (by rw [hops.out]; kernel_rfl) ?_ ?_ ?_ (by assumption) ?_
  rotate_left 2
  · rw [hops.out]; simp only [List.getElem?_toArray, List.getElem?_cons_succ, List.getElem?_cons_zero]; rfl
  · rw [hops.out]; kernel_rfl
  · intro W hW; (try dsimp only at hW); go_simp <;> with_reducible rfl
  · exact fun _ _ _ h => h
  try simp only [Act.put, List.setIfInBounds_toArray, List.set_cons_zero, List.set_cons_succ]
  refine take_do 6 (oi := ?_) (v := ?_) ?_ (by rw [hops.out]; kernel_rfl) ?_ ?_ ?_ (by assumption) ?_
  rotate_left 2
  · rw [hops.out]; simp only [List.getElem?_toArray, List.getElem?_cons_succ, List.getElem?_cons_zero]; rfl
  · rw [hops.out]; kernel_rfl
  · intro W hW; (try dsimp only at hW); go_simp <;> with_reducible rfl
  · exact fun _ _ _ h => h
  try simp only [Act.put, List.setIfInBounds_toArray, List.set_cons_zero, List.set_cons_succ]
  refine take_call 1 (oi := ?_) ?_ (by rw [hops.out]; kernel_rfl) ?_ ?_
  rotate_left 1
  · rw [hops.out]; simp only [List.getElem?_toArray, List.getElem?_cons_succ, List.getElem?_cons_zero]; rfl
  · rw [hops.out]; kernel_rfl
  intro K hK
  go_simp
  refine (whatI_any th _ _ _ _ _ _).mono ?_
  rintro e wa ⟨rfl, ba⟩
  have Ba : Below w.heap.size w wa := W1B.drew.trans (ba.mono W1B.size)
  refine hK.out _ _ ?_ (fun hHeld => ?_)
  · obtain ⟨m0, m1, m2, m3, m4, m5⟩ := hHeld
    exact ⟨(ba.cell hz).trans m0, (ba.cell hz).trans m1, (ba.cell hz).trans m2, (ba.cell hz).trans m3, (ba.cell hz).trans m4, (ba.cell hz).trans m5⟩
  clear hK K
  try simp only [Act.put, List.setIfInBounds_toArray, List.set_cons_zero, List.set_cons_succ]
  have hza : w.heap.size < wa.heap.size := Nat.lt_of_lt_of_le hz ba.size
  refine take_call 4 (oi := ?_) ?_ (by rw [hops.out]; kernel_rfl) ?_ ?_
  rotate_left 1
  · rw [hops.out]; simp only [List.getElem?_toArray, List.getElem?_cons_succ, List.getElem?_cons_zero]; rfl
  · rw [hops.out]; kernel_rfl
  intro K hK
  go_simp
  refine (idec_any ta _ h10 h11 (tab_thenS HT.out Ba)).mono ?_
  rintro e wb ⟨rfl, bb⟩
  have Bb : Below w.heap.size w wb := Ba.trans (bb.mono Ba.size)
  refine hK.out _ _ ?_ (fun hHeld => ?_)
  · obtain ⟨m0, m1, m2, m3, m4, m5⟩ := hHeld
    exact ⟨(bb.cell hza).trans m0, (bb.cell hza).trans m1, (bb.cell hza).trans m2, (bb.cell hza).trans m3, (bb.cell hza).trans m4, (bb.cell hza).trans m5⟩
  clear hK K
  try simp only [Act.put, List.setIfInBounds_toArray, List.set_cons_zero, List.set_cons_succ]
  have hzb : w.heap.size < wb.heap.size := Nat.lt_of_lt_of_le hza bb.size
  refine take_call 7 (oi := ?_) ?_ (by rw [hops.out]; kernel_rfl) ?_ ?_
  rotate_left 1
  · rw [hops.out]; simp only [List.getElem?_toArray, List.getElem?_cons_succ, List.getElem?_cons_zero]; rfl
  · rw [hops.out]; kernel_rfl
  intro K hK
  go_simp
  refine (idec_any co _ h20 h21 (tab_thenS HT.out Bb)).mono ?_
  rintro e wc ⟨rfl, bc⟩
  have Bc : Below w.heap.size w wc := Bb.trans (bc.mono Bb.size)
  refine hK.out _ _ ?_ (fun hHeld => ?_)
  · obtain ⟨m0, m1, m2, m3, m4, m5⟩ := hHeld
    exact ⟨(bc.cell hzb).trans m0, (bc.cell hzb).trans m1, (bc.cell hzb).trans m2, (bc.cell hzb).trans m3, (bc.cell hzb).trans m4, (bc.cell hzb).trans m5⟩
  clear hK K
  try simp only [Act.put, List.setIfInBounds_toArray, List.set_cons_zero, List.set_cons_succ]
  have hzc : w.heap.size < wc.heap.size := Nat.lt_of_lt_of_le hzb bc.size
  refine take_call 8 (oi := ?_) ?_ (by rw [hops.out]; kernel_rfl) ?_ ?_
  rotate_left 1
  · rw [hops.out]; simp only [List.getElem?_toArray, List.getElem?_cons_succ, List.getElem?_cons_zero]; rfl
  · rw [hops.out]; kernel_rfl
  intro K hK
  go_simp
  refine hK.out _ _ ?_ (fun hHeld => ?_)
  · obtain ⟨m0, m1, m2, m3, m4, m5⟩ := hHeld
    exact ⟨(((Below.refl wc.heap.size wc).alloc (Nat.le_refl _) _).cell hzc).trans m0, (((Below.refl wc.heap.size wc).alloc (Nat.le_refl _) _).cell hzc).trans m1, (((Below.refl wc.heap.size wc).alloc (Nat.le_refl _) _).cell hzc).trans m2, (((Below.refl wc.heap.size wc).alloc (Nat.le_refl _) _).cell hzc).trans m3, (((Below.refl wc.heap.size wc).alloc (Nat.le_refl _) _).cell hzc).trans m4, (((Below.refl wc.heap.size wc).alloc (Nat.le_refl _) _).cell hzc).trans m5⟩
  clear hK K
  try simp only [Act.put, List.setIfInBounds_toArray, List.set_cons_zero, List.set_cons_succ]
  refine take_do 9 (oi := ?_) (v := ?_) ?_ (by rw [hops.out]; kernel_rfl) ?_ ?_ ?_ (by assumption) ?_
  rotate_left 2
  · rw [hops.out]; simp only [List.getElem?_toArray, List.getElem?_cons_succ, List.getElem?_cons_zero]; rfl
  · rw [hops.out]; kernel_rfl
  · intro W hW; (try dsimp only at hW); go_simp <;> with_reducible rfl
  · exact fun _ _ _ h => h
  try simp only [Act.put, List.setIfInBounds_toArray, List.set_cons_zero, List.set_cons_succ]
  refine wpAnyH_done (by rw [hops.out]; kernel_rfl) ?_ _
  clear hops ops
  have hz2 : w.heap.size + 1 ≤ wc.heap.size := hzc
  have O0 := hide (lit_own wc #[.string (bs (wordL th)), .string (bs (decI ta)), .string ⟨#[99, 111, 115, 116]⟩, .string (bs (decI co))] [wordL th, decI ta, [99, 111, 115, 116], decI co] (w.heap.size + 1) hz2 (by simp) rfl)
  have B2 := hide (Bc.alloc Bc.size (.cells #[.string (bs (wordL th)), .string (bs (decI ta)), .string ⟨#[99, 111, 115, 116]⟩, .string (bs (decI co))] 9))
  have G2 := hide ((Below.heap_alloc wc (.cells #[.string (bs (wordL th)), .string (bs (decI ta)), .string ⟨#[99, 111, 115, 116]⟩, .string (bs (decI co))] 9) _ hzc).trans ((bc.block _ hzb).trans ((bb.block _ hza).trans ((ba.block _ hz).trans HW0.out))))
  obtain ⟨W2, hW2⟩ : ∃ W2, W2 = wc.alloc (.cells #[.string (bs (wordL th)), .string (bs (decI ta)), .string ⟨#[99, 111, 115, 116]⟩, .string (bs (decI co))] 9) := ⟨_, rfl⟩
  have hs2 : w.heap.size + 1 ≤ W2.heap.size := by rw [hW2]; simp; omega
  rw [← hW2] at O0 B2 G2 ⊢
  clear hW2 Ba Bb Bc ba bb bc hza hzb s0 s1 s2 s3 s4 s5 HW0 hz W1B HW1
  have s2 := cells_at G2.out 2
  have s4 := cells_at G2.out 4
  simp at s2 s4
  by_cases hk : kd = 4
  · subst hk
    go_wp2_with fail
    refine (idec_any fa _ h30 h31 (tab_thenS HT.out B2.out)).mono ?_
    rintro e w4 ⟨rfl, b4⟩
    have hs4 := b4.size
    have B4 := hide (B2.out.trans (b4.mono B2.out.size))
    have G4 := hide ((b4.block _ (lt_of_heap G2.out)).trans G2.out)
    have O4 := hide (owns_below O0.out b4 (Nat.le_refl _))
    clear b4 B2 G2 O0 s2 s4
    go_wp2_with (first
      | (at_builtin; refine append_strs _ rfl _ _ rfl (w.heap.size + 1) _ [wordL th, decI ta, [99, 111, 115, 116], decI co] rfl (O4.out.alloc _) (w.heap.size + 1) _ [[102, 97, 114], decI fa] rfl (lit_own w4 #[.string ⟨#[102, 97, 114]⟩, .string (bs (decI fa))] [[102, 97, 114], decI fa] (w.heap.size + 1) (by omega) (by simp) rfl) (by simp) (by simp; omega) ?_))
    intro vq wq LL hLL hownq hgq
    have HLL := hide (show LL ++ [[98, 121]] ++ hs.map decI = PP by rw [hLL.out, HPP.out]; unfold partsL; rw [if_pos rfl]; rfl)
    have hll : LL.length ≤ 6 := by rw [hLL.out]; exact Nat.le_refl _
    have BQ := hide ((B4.out.alloc B4.out.size _).grown hgq (by simp; omega) (fun j hj => by have := (O4.out.lt j hj).1; omega))
    have GQ := hide (grown_keepS hgq ((Below.heap_alloc w4 _ _ (lt_of_heap G4.out)).trans G4.out) (fun hj => by have := (O4.out.lt _ hj.symm).1; omega))
    obtain ⟨uqa, uqc, rfl⟩ := owns_len hownq
    have OQ := hide hownq
    have hsq : w.heap.size + 1 ≤ wq.heap.size := by have := hgq.size; simp at this; omega
    clear hLL hownq hgq B4 G4 O4
    go_wp2_with (first
      | (at_builtin; refine append_strs _ rfl _ _ rfl (w.heap.size + 1) _ LL rfl (OQ.out.alloc _) (w.heap.size + 1) _ [[98, 121]] rfl (lit_own wq #[.string ⟨#[98, 121]⟩] [[98, 121]] (w.heap.size + 1) hsq (by simp) rfl) (by simp; try omega) (by simp; omega) ?_))
    intro v5 w5 l5 hl5 hown5 hg5
    have h5l : l5.length ≤ 7 := by rw [hl5.out]; simp; try omega
    have HL5 := hide (show l5 ++ hs.map decI = PP by rw [hl5.out]; exact HLL.out)
    have B5 := hide ((BQ.out.alloc BQ.out.size _).grown hg5 (by simp; omega) (fun j hj => by have := (OQ.out.lt j hj).1; omega))
    have G5 := hide (grown_keepS hg5 ((Below.heap_alloc wq _ _ (lt_of_heap GQ.out)).trans GQ.out) (fun hj => by have := (OQ.out.lt _ hj.symm).1; omega))
    obtain ⟨ua5, uc5, rfl⟩ := owns_len hown5
    have O5 := hide hown5
    have hs5 : w.heap.size + 1 ≤ w5.heap.size := by have := hg5.size; simp at this; omega
    clear hl5 hown5 hg5 HLL OQ GQ BQ
    have s5 := cells_at G5.out 5
    simp at s5
    have HV5 := hide (HV.out.then B5.out)
    go_wp2_with fail
    refine (decs_any _ hs _ HV5.out hl HD.out (tab_thenS HT.out B5.out)).mono ?_
    rintro e w6 ⟨u6, rfl, o6, b6⟩
    obtain ⟨ua6, uc6, rfl⟩ := owns_len o6
    have hs6 := b6.size
    have B6 := hide (B5.out.trans (b6.mono B5.out.size))
    have O6 := hide (owns_below O5.out b6 (Nat.le_refl _))
    have D6 := hide o6
    obtain ⟨DL, hDL⟩ : ∃ DL, DL = hs.map decI := ⟨_, rfl⟩
    have hdl : DL.length ≤ 1048576 := by rw [hDL, List.length_map]; exact hl
    rw [← hDL] at D6 HL5 ⊢
    clear b6 o6 B5 O5 G5 s5 HV5 hDL
    go_wp2_with (first
      | (at_builtin; refine append_strs _ rfl _ _ rfl (w.heap.size + 1) _ l5 rfl O6.out w5.heap.size _ DL rfl D6.out (by omega) (by omega) ?_))
    intro v7 w7 l7 hl7 hown7 hg7
    have HL7 : l7 = PP := by rw [hl7.out]; exact HL5.out
    have hp7 : 0 < l7.length := by rw [HL7, HPP.out]; unfold partsL; simp
    have h7l : l7.length ≤ 1048583 := by rw [hl7.out]; simp; omega
    have B7 := hide (B6.out.grown hg7 (by omega) (fun j hj => by have := (O6.out.lt j hj).1; omega))
    obtain ⟨g7, c7, rfl, hg1, hg2⟩ := owns_shape hown7 hp7
    have hc7 : l7.length ≤ c7 := by
      rcases hown7.2 with ⟨e1, e2⟩ | ⟨g, cap, cur, e1, _, _, h3, _⟩
      · omega
      · cases e1; exact h3
    have O7 := hide hown7
    clear hown7 hg7 hl7 O6 D6 HL5 B6
    obtain ⟨n7, hn7⟩ : ∃ n7, n7 = l7.length := ⟨_, rfl⟩
    have hx7 : (l7.map bs).length = n7 := by rw [hn7]; simp
    have hm7 : (l7.map bs).map (·.data.toList) = l7 := by rw [List.map_map]; exact (List.map_congr_left (fun a _ => by simp [bs])).trans (List.map_id _)
    have HJ7 := Tryd.strings_Join g7 0 c7 (l7.map bs) ⟨#[32]⟩ w7 (fun j x hx => by
      rw [List.getElem?_map] at hx
      have hj : j < l7.length := by
        rcases Nat.lt_or_ge j l7.length with h | h
        · exact h
        · rw [List.getElem?_eq_none h] at hx; cases hx
      rw [Nat.zero_add, O7.out.cellAt j (by omega), strE_at]
      cases hx2 : l7[j]? with
      | none => rw [hx2] at hx; cases hx
      | some y => rw [hx2] at hx; cases hx; rfl) hg2 (by rw [hx7]; omega) (by rw [hx7]; omega) (by rw [hm7, HL7]; have h := HJ.out; rw [show ((⟨#[32]⟩ : ByteArray).data.toList) = [32] from rfl, h]; omega)
    rw [hm7, HL7, show ((⟨#[32]⟩ : ByteArray).data.toList) = [32] from rfl, HJ.out, ← HL7, hx7] at HJ7
    rw [← hn7]
    have HJX := hide HJ7
    clear HJ7 hm7 O7 hn7 hp7 h7l hc7 HL7 hx7
    go_wp2_with fail
    refine HJX.out.mono ?_
    rintro e w8 ⟨rfl, b8⟩
    go_wp2
    go_ret
    exact ⟨rfl, B7.out.trans (b8.mono B7.out.size)⟩
  · have hkb : (kd == 4) = false := by simpa using hk
    have HLL := hide (show [wordL th, decI ta, [99, 111, 115, 116], decI co] ++ [[98, 121]] ++ hs.map decI = PP by rw [HPP.out]; unfold partsL; rw [if_neg hk]; rfl)
    have BQ := B2
    have GQ := G2
    have hsq := hs2
    have OQ := O0
    clear O0 B2 G2
    go_wp2_with (first
      | (at_builtin; refine append_strs _ rfl _ _ rfl (w.heap.size + 1) _ [wordL th, decI ta, [99, 111, 115, 116], decI co] rfl (OQ.out.alloc _) (w.heap.size + 1) _ [[98, 121]] rfl (lit_own W2 #[.string ⟨#[98, 121]⟩] [[98, 121]] (w.heap.size + 1) hsq (by simp) rfl) (by simp; try omega) (by simp; omega) ?_))
    intro v5 w5 l5 hl5 hown5 hg5
    have h5l : l5.length ≤ 7 := by rw [hl5.out]; simp; try omega
    have HL5 := hide (show l5 ++ hs.map decI = PP by rw [hl5.out]; exact HLL.out)
    have B5 := hide ((BQ.out.alloc BQ.out.size _).grown hg5 (by simp; omega) (fun j hj => by have := (OQ.out.lt j hj).1; omega))
    have G5 := hide (grown_keepS hg5 ((Below.heap_alloc W2 _ _ (lt_of_heap GQ.out)).trans GQ.out) (fun hj => by have := (OQ.out.lt _ hj.symm).1; omega))
    obtain ⟨ua5, uc5, rfl⟩ := owns_len hown5
    have O5 := hide hown5
    have hs5 : w.heap.size + 1 ≤ w5.heap.size := by have := hg5.size; simp at this; omega
    clear hl5 hown5 hg5 HLL OQ GQ BQ s2 s4
    have s5 := cells_at G5.out 5
    simp at s5
    have HV5 := hide (HV.out.then B5.out)
    go_wp2_with fail
    refine (decs_any _ hs _ HV5.out hl HD.out (tab_thenS HT.out B5.out)).mono ?_
    rintro e w6 ⟨u6, rfl, o6, b6⟩
    obtain ⟨ua6, uc6, rfl⟩ := owns_len o6
    have hs6 := b6.size
    have B6 := hide (B5.out.trans (b6.mono B5.out.size))
    have O6 := hide (owns_below O5.out b6 (Nat.le_refl _))
    have D6 := hide o6
    obtain ⟨DL, hDL⟩ : ∃ DL, DL = hs.map decI := ⟨_, rfl⟩
    have hdl : DL.length ≤ 1048576 := by rw [hDL, List.length_map]; exact hl
    rw [← hDL] at D6 HL5 ⊢
    clear b6 o6 B5 O5 G5 s5 HV5 hDL
    go_wp2_with (first
      | (at_builtin; refine append_strs _ rfl _ _ rfl (w.heap.size + 1) _ l5 rfl O6.out w5.heap.size _ DL rfl D6.out (by omega) (by omega) ?_))
    intro v7 w7 l7 hl7 hown7 hg7
    have HL7 : l7 = PP := by rw [hl7.out]; exact HL5.out
    have hp7 : 0 < l7.length := by rw [HL7, HPP.out]; unfold partsL; simp
    have h7l : l7.length ≤ 1048583 := by rw [hl7.out]; simp; omega
    have B7 := hide (B6.out.grown hg7 (by omega) (fun j hj => by have := (O6.out.lt j hj).1; omega))
    obtain ⟨g7, c7, rfl, hg1, hg2⟩ := owns_shape hown7 hp7
    have hc7 : l7.length ≤ c7 := by
      rcases hown7.2 with ⟨e1, e2⟩ | ⟨g, cap, cur, e1, _, _, h3, _⟩
      · omega
      · cases e1; exact h3
    have O7 := hide hown7
    clear hown7 hg7 hl7 O6 D6 HL5 B6
    obtain ⟨n7, hn7⟩ : ∃ n7, n7 = l7.length := ⟨_, rfl⟩
    have hx7 : (l7.map bs).length = n7 := by rw [hn7]; simp
    have hm7 : (l7.map bs).map (·.data.toList) = l7 := by rw [List.map_map]; exact (List.map_congr_left (fun a _ => by simp [bs])).trans (List.map_id _)
    have HJ7 := Tryd.strings_Join g7 0 c7 (l7.map bs) ⟨#[32]⟩ w7 (fun j x hx => by
      rw [List.getElem?_map] at hx
      have hj : j < l7.length := by
        rcases Nat.lt_or_ge j l7.length with h | h
        · exact h
        · rw [List.getElem?_eq_none h] at hx; cases hx
      rw [Nat.zero_add, O7.out.cellAt j (by omega), strE_at]
      cases hx2 : l7[j]? with
      | none => rw [hx2] at hx; cases hx
      | some y => rw [hx2] at hx; cases hx; rfl) hg2 (by rw [hx7]; omega) (by rw [hx7]; omega) (by rw [hm7, HL7]; have h := HJ.out; rw [show ((⟨#[32]⟩ : ByteArray).data.toList) = [32] from rfl, h]; omega)
    rw [hm7, HL7, show ((⟨#[32]⟩ : ByteArray).data.toList) = [32] from rfl, HJ.out, ← HL7, hx7] at HJ7
    rw [← hn7]
    have HJX := hide HJ7
    clear HJ7 hm7 O7 hn7 hp7 h7l hc7 HL7 hx7
    go_wp2_with fail
    refine HJX.out.mono ?_
    rintro e w8 ⟨rfl, b8⟩
    go_wp2
    go_ret
    exact ⟨rfl, B7.out.trans (b8.mono B7.out.size)⟩
end Go.Proofs.YthmmpmbnpfhloaaDoor
namespace Go.Proofs.YthmmpmbnpfhloaaDoor
open Go.RowKit
theorem exS (s : ByteArray) (b k : Nat) : s.extract b k = bs ((s.data.toList.drop b).take (k - b)) := by
  apply ByteArray.ext
  apply Array.ext'
  simp [bs]

set_option maxRecDepth 100000 in
set_option maxHeartbeats 1000000 in
theorem begins_pre (A C : List UInt8) (x s : ByteArray) (hx : x = bs A) (hs : s = bs (A ++ C)) (w : World) :
    Calls Tryd.prog 8 #[.string x, .string s] w fun e w' => e = .returned (.bool true) ∧ w = w' := by
  have hz : x.size ≤ s.size := by rw [hx, hs, bsz, bsz]; simp
  have hex : s.extract 0 x.size = x := by
    rw [exS, hs, hx, bsz]
    simp [bs]
  have HEX := hide hex
  have hz1 : (x.size : Int) ≤ (s.size : Int) := by omega
  have hz0 : (0 : Int) ≤ (x.size : Int) := by omega
  clear hex hx hs
  go_enter Tryd.func8, Tryd.ntmps8
  go_wp2
  go_ret
  refine ⟨?_, rfl⟩
  show Ending.returned (.bool ((s.extract 0 x.size).toList == x.toList)) = _
  rw [HEX.out]
  simp
end Go.Proofs.YthmmpmbnpfhloaaDoor
