/-
  laws.FnAhead: the walk.
-/
import Derived.Test.YtohjphhocdgpgaaDrawBef
namespace Go.Proofs.Ytohjphhocdgpgaa
open Go.RowKit

set_option linter.unusedSimpArgs false

theorem load_one {P : Program} {o : Oper} {a : Act} (ty : TypeId) (x : Operand) (ho : o.op = .load ty x)
    (g : Nat) (hx : a.eval x = .pointer (some ⟨g, 0, none⟩)) (t : TypeId) (cs : Array Value) (fr : Nat × Nat) (d : TypeDesc) (w : World) (hg : w.heap[g]? = some (.cells cs t fr))
    (hu : P.underlying ty = some d) (hd : (match d with | .struct _ | .array _ _ => true | _ => false) = true) (hi : (P.info? ty).map (·.size) = some cs.size) :
    (execOp a.eval o).run P w = .ok (.value (.agg cs)) w :=
  load_yields (S := fun W => W.heap[g]? = some (.cells cs t fr)) ty x ho g hx t cs fr d (fun _ h => h) hu hd hi w hg

set_option maxRecDepth 100000 in
set_option maxHeartbeats 4000000 in
theorem fnAhead_walk (a : Option Addr) (len cap : Nat) (w : World) (hw : len ≤ 1048576 → Code w a len w.heap.size) :
    Calls Try.prog 4 #[.slice a len cap] w fun e w' => e = .returned (.bool true) ∧ Below w.heap.size w w' := by
  have HW := hide hw
  clear hw
  by_cases hlen : len ≤ 1048576
  case neg =>
    have HBIG := hide (big_any a len cap)
    rw [decide_eq_true (show (1048576 : Int) < (len : Int) by omega)] at HBIG
    go_enter Try.func4, Try.ntmps4
    go_wp2_with fail
    refine (HBIG.out _).mono ?_
    rintro e w1 ⟨rfl, rfl⟩
    go_wp2
    go_ret
    exact ⟨rfl, Below.refl _ _⟩
  have HBIG := hide (big_any a len cap)
  rw [decide_eq_false (show ¬ (1048576 : Int) < (len : Int) by omega)] at HBIG
  have HCODE := hide (HW.out hlen)
  clear HW
  go_enter Try.func4, Try.ntmps4
  go_wp2_with fail
  refine (HBIG.out _).mono ?_
  rintro e w1 ⟨rfl, rfl⟩
  go_wp2_with fail
  refine (drawBef_any a len cap _ HCODE.out).mono ?_
  rintro e w2 ⟨x, y, va, vb, rfl, hoa, hob, hla, hlb, hb2⟩
  obtain ⟨aa, ac, rfl⟩ := owns_lenS hoa
  obtain ⟨ba, bc, rfl⟩ := owns_lenS hob
  have HLA := hide hla
  have HLB := hide hlb
  have t3 : TwoIn w ((w2.alloc (.cells (recC x (.slice aa x.near.length ac)) 26)).alloc (.cells (recC y (.slice ba y.near.length bc)) 26)) w2.heap.size (w2.heap.size + 1) (.slice aa x.near.length ac) (.slice ba y.near.length bc) x y :=
    { low := hb2.size
      bel := (hb2.alloc hb2.size _).alloc (by have := hb2.size; simp; omega) _
      ba := (Below.heap_alloc _ _ _ (by simp)).trans (heap_alloc_new w2 _)
      bb := by
        have e := heap_alloc_new (w2.alloc (.cells (recC x (.slice aa x.near.length ac)) 26)) (.cells (recC y (.slice ba y.near.length bc)) 26)
        rw [show (w2.alloc (.cells (recC x (.slice aa x.near.length ac)) 26)).heap.size = w2.heap.size + 1 by simp] at e
        exact e
      na := owns_rowAt ((hoa.alloc _).alloc _)
      nb := owns_rowAt ((hob.alloc _).alloc _) }
  have T3 := hide t3
  have S2 := hide (body_self x)
  clear t3 hoa hob hla hlb hb2 HBIG HCODE
  unfold recC
  rcases (show (beforeB x y = true ∧ beforeB y x = false ∧ sameKeyB x y = false ∧ sameKeyB y x = false ∧ sameBodyB x y = false) ∨ (beforeB x y = false ∧ beforeB y x = true ∧ sameKeyB x y = false ∧ sameKeyB y x = false ∧ sameBodyB x y = false) ∨ (beforeB x y = false ∧ beforeB y x = false ∧ sameKeyB x y = true ∧ sameKeyB y x = true ∧ sameBodyB x y = true) ∨ (beforeB x y = false ∧ beforeB y x = false ∧ sameKeyB x y = true ∧ sameKeyB y x = true ∧ sameBodyB x y = false) by
    rcases ahead_three x y with h | h | ⟨h1, h2, h3, h4⟩
    · exact .inl h
    · exact .inr (.inl h)
    · cases hs : sameBodyB x y
      · exact .inr (.inr (.inr ⟨h1, h2, h3, h4, rfl⟩))
      · exact .inr (.inr (.inl ⟨h1, h2, h3, h4, rfl⟩))) with ⟨b1, b2, k1, k2, s1⟩ | ⟨b1, b2, k1, k2, s1⟩ | ⟨b1, b2, k1, k2, s1⟩ | ⟨b1, b2, k1, k2, s1⟩
  · have B1 := hide b1
    have B2 := hide b2
    have K1 := hide k1
    have K2 := hide k2
    have S1 := hide s1
    clear b1 b2 k1 k2 s1
    go_wp2_with fail
    refine (ibefore_any _ _ x y _).mono ?_
    rintro e w4 ⟨rfl, hb⟩
    have T4 := hide (T3.out.then hb)
    clear hb T3
    obtain ⟨g, hg⟩ : ∃ g, g = w2.heap.size := ⟨_, rfl⟩
    obtain ⟨h, hh⟩ : ∃ h, h = g + 1 := ⟨_, rfl⟩
    rw [← hg] at T4 ⊢
    rw [← hh] at T4 ⊢
    clear hg hh
    rw [B1.out]
    have sb := T4.out.ba
    unfold recC at sb
    have m0 := cells_at sb 0
    have m1 := cells_at sb 1
    have m2 := cells_at sb 2
    have m3 := cells_at sb 3
    have m4 := cells_at sb 4
    have m5 := cells_at sb 5
    have m6 := cells_at sb 6
    have m7 := cells_at sb 7
    simp at m0 m1 m2 m3 m4 m5 m6 m7
    clear sb
    have sb := T4.out.bb
    unfold recC at sb
    have mb0 := cells_at sb 0
    have mb1 := cells_at sb 1
    have mb2 := cells_at sb 2
    have mb3 := cells_at sb 3
    have mb4 := cells_at sb 4
    have mb5 := cells_at sb 5
    have mb6 := cells_at sb 6
    have mb7 := cells_at sb 7
    simp at mb0 mb1 mb2 mb3 mb4 mb5 mb6 mb7
    clear sb
    go_wp2_with fail
    refine (ibefore_any _ _ y x w4).mono ?_
    rintro e w5 ⟨rfl, hb⟩
    have T5 := hide (T4.out.then hb)
    clear hb T4
    clear m0 mb0 m1 mb1 m2 mb2 m3 mb3 m4 mb4 m5 mb5 m6 mb6 m7 mb7
    rw [B2.out]
    have sb := T5.out.ba
    unfold recC at sb
    have m0 := cells_at sb 0
    have m1 := cells_at sb 1
    have m2 := cells_at sb 2
    have m3 := cells_at sb 3
    have m4 := cells_at sb 4
    have m5 := cells_at sb 5
    have m6 := cells_at sb 6
    have m7 := cells_at sb 7
    simp at m0 m1 m2 m3 m4 m5 m6 m7
    clear sb
    have sb := T5.out.bb
    unfold recC at sb
    have mb0 := cells_at sb 0
    have mb1 := cells_at sb 1
    have mb2 := cells_at sb 2
    have mb3 := cells_at sb 3
    have mb4 := cells_at sb 4
    have mb5 := cells_at sb 5
    have mb6 := cells_at sb 6
    have mb7 := cells_at sb 7
    simp at mb0 mb1 mb2 mb3 mb4 mb5 mb6 mb7
    clear sb
    go_wp2_with fail
    refine (isameKey_any _ _ x y w5).mono ?_
    rintro e w6 ⟨rfl, hb⟩
    have T6 := hide (T5.out.then hb)
    clear hb T5
    clear m0 mb0 m1 mb1 m2 mb2 m3 mb3 m4 mb4 m5 mb5 m6 mb6 m7 mb7
    rw [K1.out]
    have sb := T6.out.ba
    unfold recC at sb
    have m0 := cells_at sb 0
    have m1 := cells_at sb 1
    have m2 := cells_at sb 2
    have m3 := cells_at sb 3
    have m4 := cells_at sb 4
    have m5 := cells_at sb 5
    have m6 := cells_at sb 6
    have m7 := cells_at sb 7
    simp at m0 m1 m2 m3 m4 m5 m6 m7
    clear sb
    have sb := T6.out.bb
    unfold recC at sb
    have mb0 := cells_at sb 0
    have mb1 := cells_at sb 1
    have mb2 := cells_at sb 2
    have mb3 := cells_at sb 3
    have mb4 := cells_at sb 4
    have mb5 := cells_at sb 5
    have mb6 := cells_at sb 6
    have mb7 := cells_at sb 7
    simp at mb0 mb1 mb2 mb3 mb4 mb5 mb6 mb7
    clear sb
    go_wp2_with fail
    refine (isameKey_any _ _ y x w6).mono ?_
    rintro e w7 ⟨rfl, hb⟩
    have T7 := hide (T6.out.then hb)
    clear hb T6
    clear m0 mb0 m1 mb1 m2 mb2 m3 mb3 m4 mb4 m5 mb5 m6 mb6 m7 mb7
    rw [K2.out]
    have sb := T7.out.ba
    unfold recC at sb
    have m0 := cells_at sb 0
    have m1 := cells_at sb 1
    have m2 := cells_at sb 2
    have m3 := cells_at sb 3
    have m4 := cells_at sb 4
    have m5 := cells_at sb 5
    have m6 := cells_at sb 6
    have m7 := cells_at sb 7
    simp at m0 m1 m2 m3 m4 m5 m6 m7
    clear sb
    have sb := T7.out.bb
    unfold recC at sb
    have mb0 := cells_at sb 0
    have mb1 := cells_at sb 1
    have mb2 := cells_at sb 2
    have mb3 := cells_at sb 3
    have mb4 := cells_at sb 4
    have mb5 := cells_at sb 5
    have mb6 := cells_at sb 6
    have mb7 := cells_at sb 7
    simp at mb0 mb1 mb2 mb3 mb4 mb5 mb6 mb7
    clear sb
    go_wp2_with fail
    refine (isameBody_any _ _ x y w7 ⟨_, rfl, T7.out.na⟩ ⟨_, rfl, T7.out.nb⟩ (by have := HLA.out; omega) (by have := HLB.out; omega)).mono ?_
    rintro e w8 ⟨rfl, hb⟩
    have T8 := hide (T7.out.then hb)
    clear hb T7
    clear m0 mb0 m1 mb1 m2 mb2 m3 mb3 m4 mb4 m5 mb5 m6 mb6 m7 mb7
    rw [S1.out]
    have sb := T8.out.ba
    unfold recC at sb
    have m0 := cells_at sb 0
    have m1 := cells_at sb 1
    have m2 := cells_at sb 2
    have m3 := cells_at sb 3
    have m4 := cells_at sb 4
    have m5 := cells_at sb 5
    have m6 := cells_at sb 6
    have m7 := cells_at sb 7
    simp at m0 m1 m2 m3 m4 m5 m6 m7
    clear sb
    have sb := T8.out.bb
    unfold recC at sb
    have mb0 := cells_at sb 0
    have mb1 := cells_at sb 1
    have mb2 := cells_at sb 2
    have mb3 := cells_at sb 3
    have mb4 := cells_at sb 4
    have mb5 := cells_at sb 5
    have mb6 := cells_at sb 6
    have mb7 := cells_at sb 7
    simp at mb0 mb1 mb2 mb3 mb4 mb5 mb6 mb7
    clear sb
    go_wp2_with fail
    refine (isameBody_any _ _ x x w8 ⟨_, rfl, T8.out.na⟩ ⟨_, rfl, T8.out.na⟩ (by have := HLA.out; omega) (by have := HLA.out; omega)).mono ?_
    rintro e w9 ⟨rfl, hb⟩
    have T9 := hide (T8.out.then hb)
    clear hb T8
    clear m0 mb0 m1 mb1 m2 mb2 m3 mb3 m4 mb4 m5 mb5 m6 mb6 m7 mb7
    rw [S2.out]
    have sb := T9.out.ba
    unfold recC at sb
    have m0 := cells_at sb 0
    have m1 := cells_at sb 1
    have m2 := cells_at sb 2
    have m3 := cells_at sb 3
    have m4 := cells_at sb 4
    have m5 := cells_at sb 5
    have m6 := cells_at sb 6
    have m7 := cells_at sb 7
    simp at m0 m1 m2 m3 m4 m5 m6 m7
    clear sb
    have sb := T9.out.bb
    unfold recC at sb
    have mb0 := cells_at sb 0
    have mb1 := cells_at sb 1
    have mb2 := cells_at sb 2
    have mb3 := cells_at sb 3
    have mb4 := cells_at sb 4
    have mb5 := cells_at sb 5
    have mb6 := cells_at sb 6
    have mb7 := cells_at sb 7
    simp at mb0 mb1 mb2 mb3 mb4 mb5 mb6 mb7
    clear sb
    go_wp2
    clear m0 mb0 m1 mb1 m2 mb2 m3 mb3 m4 mb4 m5 mb5 m6 mb6 m7 mb7
    refine wp_region_noPanic ?_
    refine wp_region_start (S := fun W => W.heap[g]? = some (.cells (recC x (.slice aa x.near.length ac)) 26) ∧ W.heap[h]? = some (.cells (recC y (.slice ba y.near.length bc)) 26)) (by kernel_rfl) 15 rfl ⟨T9.out.ba, T9.out.bb⟩ ?_
    intro ops hops hS
    have T10 := hide (T9.out.then (Below.refl _ w9).drew)
    clear T9
    rw [show (Array.replicate 15 false) = #[false, false, false, false, false, false, false, false, false, false, false, false, false, false, false] from rfl]
    refine take_do 0 (oi := ?_) (v := ?_) ?_ (by rw [hops.out]; kernel_rfl) ?_ ?_ ?_ hS ?_
    rotate_left 2
    · rw [hops.out]; simp only [List.getElem?_toArray, List.getElem?_cons_succ, List.getElem?_cons_zero]; rfl
    · rw [hops.out]; kernel_rfl
    · intro W hW; refine load_one 26 (.tmp 3) ?_ g ?_ 26 (recC x (.slice aa x.near.length ac)) (0, 0) _ W hW.1 Try.underlying26 ?_ ?_ <;> first | rfl | kernel_rfl
    · exact fun c _ w h => h
    try simp only [Act.put, List.setIfInBounds_toArray, List.set_cons_zero, List.set_cons_succ]
    refine take_do 1 (oi := ?_) (v := ?_) ?_ (by rw [hops.out]; kernel_rfl) ?_ ?_ ?_ hS ?_
    rotate_left 2
    · rw [hops.out]; simp only [List.getElem?_toArray, List.getElem?_cons_succ, List.getElem?_cons_zero]; rfl
    · rw [hops.out]; kernel_rfl
    · intro W hW; refine load_one 26 (.tmp 4) ?_ h ?_ 26 (recC y (.slice ba y.near.length bc)) (0, 0) _ W hW.2 Try.underlying26 ?_ ?_ <;> first | rfl | kernel_rfl
    · exact fun c _ w h => h
    try simp only [Act.put, List.setIfInBounds_toArray, List.set_cons_zero, List.set_cons_succ]
    refine take_do 3 (oi := ?_) (v := ?_) ?_ (by rw [hops.out]; kernel_rfl) ?_ ?_ ?_ hS ?_
    rotate_left 2
    · rw [hops.out]; simp only [List.getElem?_toArray, List.getElem?_cons_succ, List.getElem?_cons_zero]; rfl
    · rw [hops.out]; kernel_rfl
    · intro W hW; refine load_one 26 (.tmp 3) ?_ g ?_ 26 (recC x (.slice aa x.near.length ac)) (0, 0) _ W hW.1 Try.underlying26 ?_ ?_ <;> first | rfl | kernel_rfl
    · exact fun c _ w h => h
    try simp only [Act.put, List.setIfInBounds_toArray, List.set_cons_zero, List.set_cons_succ]
    refine take_do 4 (oi := ?_) (v := ?_) ?_ (by rw [hops.out]; kernel_rfl) ?_ ?_ ?_ hS ?_
    rotate_left 2
    · rw [hops.out]; simp only [List.getElem?_toArray, List.getElem?_cons_succ, List.getElem?_cons_zero]; rfl
    · rw [hops.out]; kernel_rfl
    · intro W hW; refine load_one 26 (.tmp 4) ?_ h ?_ 26 (recC y (.slice ba y.near.length bc)) (0, 0) _ W hW.2 Try.underlying26 ?_ ?_ <;> first | rfl | kernel_rfl
    · exact fun c _ w h => h
    try simp only [Act.put, List.setIfInBounds_toArray, List.set_cons_zero, List.set_cons_succ]
    refine wpAnyH_ready (rs := [2]) (by rw [hops.out]; kernel_rfl) (by simp) ?_
    refine AllReadyH.cons (o := ?_) ?_ (fun K hK => ?_) AllReadyH.nil
    rotate_left 1
    · rw [hops.out]; simp only [List.getElem?_toArray, List.getElem?_cons_succ, List.getElem?_cons_zero]; rfl
    rw [if_pos (by rw [hops.out]; kernel_rfl)]
    go_simp
    refine (isameBody_any _ _ x y _ ⟨_, rfl, T10.out.na⟩ ⟨_, rfl, T10.out.nb⟩ (by have := HLA.out; omega) (by have := HLB.out; omega)).mono ?_
    rintro e w11 ⟨rfl, hb⟩
    have T11 := hide (T10.out.then hb)
    clear hb T10 hS
    have hS := And.intro T11.out.ba T11.out.bb
    rw [S1.out]
    refine hK.out _ _ hS (fun _ => ?_)
    clear hK K
    try simp only [Act.put, List.setIfInBounds_toArray, List.set_cons_zero, List.set_cons_succ]
    refine wpAnyH_ready (rs := [5]) (by rw [hops.out]; kernel_rfl) (by simp) ?_
    refine AllReadyH.cons (o := ?_) ?_ (fun K hK => ?_) AllReadyH.nil
    rotate_left 1
    · rw [hops.out]; simp only [List.getElem?_toArray, List.getElem?_cons_succ, List.getElem?_cons_zero]; rfl
    rw [if_pos (by rw [hops.out]; kernel_rfl)]
    go_simp
    refine (ssameBody_any _ _ x y _ ⟨_, rfl, T11.out.na⟩ ⟨_, rfl, T11.out.nb⟩ (by have := HLA.out; omega) (by have := HLB.out; omega)).mono ?_
    rintro e w12 ⟨rfl, hb⟩
    have T12 := hide (T11.out.then hb)
    clear hb T11 hS
    have hS := And.intro T12.out.ba T12.out.bb
    rw [S1.out]
    refine hK.out _ _ hS (fun _ => ?_)
    clear hK K
    try simp only [Act.put, List.setIfInBounds_toArray, List.set_cons_zero, List.set_cons_succ]
    refine take_do 6 (oi := ?_) (v := ?_) ?_ (by rw [hops.out]; kernel_rfl) ?_ ?_ ?_ hS ?_
    rotate_left 2
    · rw [hops.out]; simp only [List.getElem?_toArray, List.getElem?_cons_succ, List.getElem?_cons_zero]; rfl
    · rw [hops.out]; kernel_rfl
    · intro W _; go_simp <;> with_reducible rfl
    · exact fun c _ w h => h
    try simp only [Act.put, List.setIfInBounds_toArray, List.set_cons_zero, List.set_cons_succ]
    refine take_do 7 (oi := ?_) (v := ?_) ?_ (by rw [hops.out]; kernel_rfl) ?_ ?_ ?_ hS ?_
    rotate_left 2
    · rw [hops.out]; simp only [List.getElem?_toArray, List.getElem?_cons_succ, List.getElem?_cons_zero]; rfl
    · rw [hops.out]; kernel_rfl
    · intro W _; go_simp <;> with_reducible rfl
    · exact fun c _ w h => h
    try simp only [Act.put, List.setIfInBounds_toArray, List.set_cons_zero, List.set_cons_succ]
    refine take_do 8 (oi := ?_) (v := ?_) ?_ (by rw [hops.out]; kernel_rfl) ?_ ?_ ?_ hS ?_
    rotate_left 2
    · rw [hops.out]; simp only [List.getElem?_toArray, List.getElem?_cons_succ, List.getElem?_cons_zero]; rfl
    · rw [hops.out]; kernel_rfl
    · intro W _; go_simp <;> with_reducible rfl
    · exact fun c _ w h => h
    try simp only [Act.put, List.setIfInBounds_toArray, List.set_cons_zero, List.set_cons_succ]
    refine take_do 9 (oi := ?_) (v := ?_) ?_ (by rw [hops.out]; kernel_rfl) ?_ ?_ ?_ hS ?_
    rotate_left 2
    · rw [hops.out]; simp only [List.getElem?_toArray, List.getElem?_cons_succ, List.getElem?_cons_zero]; rfl
    · rw [hops.out]; kernel_rfl
    · intro W hW; refine load_one 26 (.tmp 3) ?_ g ?_ 26 (recC x (.slice aa x.near.length ac)) (0, 0) _ W hW.1 Try.underlying26 ?_ ?_ <;> first | rfl | kernel_rfl
    · exact fun c _ w h => h
    try simp only [Act.put, List.setIfInBounds_toArray, List.set_cons_zero, List.set_cons_succ]
    refine take_do 10 (oi := ?_) (v := ?_) ?_ (by rw [hops.out]; kernel_rfl) ?_ ?_ ?_ hS ?_
    rotate_left 2
    · rw [hops.out]; simp only [List.getElem?_toArray, List.getElem?_cons_succ, List.getElem?_cons_zero]; rfl
    · rw [hops.out]; kernel_rfl
    · intro W hW; refine load_one 26 (.tmp 4) ?_ h ?_ 26 (recC y (.slice ba y.near.length bc)) (0, 0) _ W hW.2 Try.underlying26 ?_ ?_ <;> first | rfl | kernel_rfl
    · exact fun c _ w h => h
    try simp only [Act.put, List.setIfInBounds_toArray, List.set_cons_zero, List.set_cons_succ]
    refine wpAnyH_ready (rs := [11]) (by rw [hops.out]; kernel_rfl) (by simp) ?_
    refine AllReadyH.cons (o := ?_) ?_ (fun K hK => ?_) AllReadyH.nil
    rotate_left 1
    · rw [hops.out]; simp only [List.getElem?_toArray, List.getElem?_cons_succ, List.getElem?_cons_zero]; rfl
    rw [if_pos (by rw [hops.out]; kernel_rfl)]
    go_simp
    refine (sbefore_any _ _ x y _).mono ?_
    rintro e w13 ⟨rfl, hb⟩
    have T13 := hide (T12.out.then hb)
    clear hb T12 hS
    have hS := And.intro T13.out.ba T13.out.bb
    rw [B1.out]
    refine hK.out _ _ hS (fun _ => ?_)
    clear hK K
    try simp only [Act.put, List.setIfInBounds_toArray, List.set_cons_zero, List.set_cons_succ]
    refine take_do 12 (oi := ?_) (v := ?_) ?_ (by rw [hops.out]; kernel_rfl) ?_ ?_ ?_ hS ?_
    rotate_left 2
    · rw [hops.out]; simp only [List.getElem?_toArray, List.getElem?_cons_succ, List.getElem?_cons_zero]; rfl
    · rw [hops.out]; kernel_rfl
    · intro W _; go_simp <;> with_reducible rfl
    · exact fun c _ w h => h
    try simp only [Act.put, List.setIfInBounds_toArray, List.set_cons_zero, List.set_cons_succ]
    refine take_do 13 (oi := ?_) (v := ?_) ?_ (by rw [hops.out]; kernel_rfl) ?_ ?_ ?_ hS ?_
    rotate_left 2
    · rw [hops.out]; simp only [List.getElem?_toArray, List.getElem?_cons_succ, List.getElem?_cons_zero]; rfl
    · rw [hops.out]; kernel_rfl
    · intro W _; go_simp <;> with_reducible rfl
    · exact fun c _ w h => h
    try simp only [Act.put, List.setIfInBounds_toArray, List.set_cons_zero, List.set_cons_succ]
    refine take_do 14 (oi := ?_) (v := ?_) ?_ (by rw [hops.out]; kernel_rfl) ?_ ?_ ?_ hS ?_
    rotate_left 2
    · rw [hops.out]; simp only [List.getElem?_toArray, List.getElem?_cons_succ, List.getElem?_cons_zero]; rfl
    · rw [hops.out]; kernel_rfl
    · intro W _; go_simp <;> with_reducible rfl
    · exact fun c _ w h => h
    try simp only [Act.put, List.setIfInBounds_toArray, List.set_cons_zero, List.set_cons_succ]
    refine wpAnyH_done (by rw [hops.out]; kernel_rfl) ?_ _
    refine NoPanic.normal ?_
    clear hops hS
    go_wp2
    go_ret
    exact ⟨rfl, T13.out.bel⟩
  · have B1 := hide b1
    have B2 := hide b2
    have K1 := hide k1
    have K2 := hide k2
    have S1 := hide s1
    clear b1 b2 k1 k2 s1
    go_wp2_with fail
    refine (ibefore_any _ _ x y _).mono ?_
    rintro e w4 ⟨rfl, hb⟩
    have T4 := hide (T3.out.then hb)
    clear hb T3
    obtain ⟨g, hg⟩ : ∃ g, g = w2.heap.size := ⟨_, rfl⟩
    obtain ⟨h, hh⟩ : ∃ h, h = g + 1 := ⟨_, rfl⟩
    rw [← hg] at T4 ⊢
    rw [← hh] at T4 ⊢
    clear hg hh
    rw [B1.out]
    have sb := T4.out.ba
    unfold recC at sb
    have m0 := cells_at sb 0
    have m1 := cells_at sb 1
    have m2 := cells_at sb 2
    have m3 := cells_at sb 3
    have m4 := cells_at sb 4
    have m5 := cells_at sb 5
    have m6 := cells_at sb 6
    have m7 := cells_at sb 7
    simp at m0 m1 m2 m3 m4 m5 m6 m7
    clear sb
    have sb := T4.out.bb
    unfold recC at sb
    have mb0 := cells_at sb 0
    have mb1 := cells_at sb 1
    have mb2 := cells_at sb 2
    have mb3 := cells_at sb 3
    have mb4 := cells_at sb 4
    have mb5 := cells_at sb 5
    have mb6 := cells_at sb 6
    have mb7 := cells_at sb 7
    simp at mb0 mb1 mb2 mb3 mb4 mb5 mb6 mb7
    clear sb
    go_wp2_with fail
    refine (ibefore_any _ _ y x w4).mono ?_
    rintro e w5 ⟨rfl, hb⟩
    have T5 := hide (T4.out.then hb)
    clear hb T4
    clear m0 mb0 m1 mb1 m2 mb2 m3 mb3 m4 mb4 m5 mb5 m6 mb6 m7 mb7
    rw [B2.out]
    have sb := T5.out.ba
    unfold recC at sb
    have m0 := cells_at sb 0
    have m1 := cells_at sb 1
    have m2 := cells_at sb 2
    have m3 := cells_at sb 3
    have m4 := cells_at sb 4
    have m5 := cells_at sb 5
    have m6 := cells_at sb 6
    have m7 := cells_at sb 7
    simp at m0 m1 m2 m3 m4 m5 m6 m7
    clear sb
    have sb := T5.out.bb
    unfold recC at sb
    have mb0 := cells_at sb 0
    have mb1 := cells_at sb 1
    have mb2 := cells_at sb 2
    have mb3 := cells_at sb 3
    have mb4 := cells_at sb 4
    have mb5 := cells_at sb 5
    have mb6 := cells_at sb 6
    have mb7 := cells_at sb 7
    simp at mb0 mb1 mb2 mb3 mb4 mb5 mb6 mb7
    clear sb
    go_wp2_with fail
    refine (isameKey_any _ _ x y w5).mono ?_
    rintro e w6 ⟨rfl, hb⟩
    have T6 := hide (T5.out.then hb)
    clear hb T5
    clear m0 mb0 m1 mb1 m2 mb2 m3 mb3 m4 mb4 m5 mb5 m6 mb6 m7 mb7
    rw [K1.out]
    have sb := T6.out.ba
    unfold recC at sb
    have m0 := cells_at sb 0
    have m1 := cells_at sb 1
    have m2 := cells_at sb 2
    have m3 := cells_at sb 3
    have m4 := cells_at sb 4
    have m5 := cells_at sb 5
    have m6 := cells_at sb 6
    have m7 := cells_at sb 7
    simp at m0 m1 m2 m3 m4 m5 m6 m7
    clear sb
    have sb := T6.out.bb
    unfold recC at sb
    have mb0 := cells_at sb 0
    have mb1 := cells_at sb 1
    have mb2 := cells_at sb 2
    have mb3 := cells_at sb 3
    have mb4 := cells_at sb 4
    have mb5 := cells_at sb 5
    have mb6 := cells_at sb 6
    have mb7 := cells_at sb 7
    simp at mb0 mb1 mb2 mb3 mb4 mb5 mb6 mb7
    clear sb
    go_wp2_with fail
    refine (isameKey_any _ _ y x w6).mono ?_
    rintro e w7 ⟨rfl, hb⟩
    have T7 := hide (T6.out.then hb)
    clear hb T6
    clear m0 mb0 m1 mb1 m2 mb2 m3 mb3 m4 mb4 m5 mb5 m6 mb6 m7 mb7
    rw [K2.out]
    have sb := T7.out.ba
    unfold recC at sb
    have m0 := cells_at sb 0
    have m1 := cells_at sb 1
    have m2 := cells_at sb 2
    have m3 := cells_at sb 3
    have m4 := cells_at sb 4
    have m5 := cells_at sb 5
    have m6 := cells_at sb 6
    have m7 := cells_at sb 7
    simp at m0 m1 m2 m3 m4 m5 m6 m7
    clear sb
    have sb := T7.out.bb
    unfold recC at sb
    have mb0 := cells_at sb 0
    have mb1 := cells_at sb 1
    have mb2 := cells_at sb 2
    have mb3 := cells_at sb 3
    have mb4 := cells_at sb 4
    have mb5 := cells_at sb 5
    have mb6 := cells_at sb 6
    have mb7 := cells_at sb 7
    simp at mb0 mb1 mb2 mb3 mb4 mb5 mb6 mb7
    clear sb
    go_wp2_with fail
    refine (isameBody_any _ _ x y w7 ⟨_, rfl, T7.out.na⟩ ⟨_, rfl, T7.out.nb⟩ (by have := HLA.out; omega) (by have := HLB.out; omega)).mono ?_
    rintro e w8 ⟨rfl, hb⟩
    have T8 := hide (T7.out.then hb)
    clear hb T7
    clear m0 mb0 m1 mb1 m2 mb2 m3 mb3 m4 mb4 m5 mb5 m6 mb6 m7 mb7
    rw [S1.out]
    have sb := T8.out.ba
    unfold recC at sb
    have m0 := cells_at sb 0
    have m1 := cells_at sb 1
    have m2 := cells_at sb 2
    have m3 := cells_at sb 3
    have m4 := cells_at sb 4
    have m5 := cells_at sb 5
    have m6 := cells_at sb 6
    have m7 := cells_at sb 7
    simp at m0 m1 m2 m3 m4 m5 m6 m7
    clear sb
    have sb := T8.out.bb
    unfold recC at sb
    have mb0 := cells_at sb 0
    have mb1 := cells_at sb 1
    have mb2 := cells_at sb 2
    have mb3 := cells_at sb 3
    have mb4 := cells_at sb 4
    have mb5 := cells_at sb 5
    have mb6 := cells_at sb 6
    have mb7 := cells_at sb 7
    simp at mb0 mb1 mb2 mb3 mb4 mb5 mb6 mb7
    clear sb
    go_wp2_with fail
    refine (isameBody_any _ _ x x w8 ⟨_, rfl, T8.out.na⟩ ⟨_, rfl, T8.out.na⟩ (by have := HLA.out; omega) (by have := HLA.out; omega)).mono ?_
    rintro e w9 ⟨rfl, hb⟩
    have T9 := hide (T8.out.then hb)
    clear hb T8
    clear m0 mb0 m1 mb1 m2 mb2 m3 mb3 m4 mb4 m5 mb5 m6 mb6 m7 mb7
    rw [S2.out]
    have sb := T9.out.ba
    unfold recC at sb
    have m0 := cells_at sb 0
    have m1 := cells_at sb 1
    have m2 := cells_at sb 2
    have m3 := cells_at sb 3
    have m4 := cells_at sb 4
    have m5 := cells_at sb 5
    have m6 := cells_at sb 6
    have m7 := cells_at sb 7
    simp at m0 m1 m2 m3 m4 m5 m6 m7
    clear sb
    have sb := T9.out.bb
    unfold recC at sb
    have mb0 := cells_at sb 0
    have mb1 := cells_at sb 1
    have mb2 := cells_at sb 2
    have mb3 := cells_at sb 3
    have mb4 := cells_at sb 4
    have mb5 := cells_at sb 5
    have mb6 := cells_at sb 6
    have mb7 := cells_at sb 7
    simp at mb0 mb1 mb2 mb3 mb4 mb5 mb6 mb7
    clear sb
    go_wp2
    clear m0 mb0 m1 mb1 m2 mb2 m3 mb3 m4 mb4 m5 mb5 m6 mb6 m7 mb7
    refine wp_region_noPanic ?_
    refine wp_region_start (S := fun W => W.heap[g]? = some (.cells (recC x (.slice aa x.near.length ac)) 26) ∧ W.heap[h]? = some (.cells (recC y (.slice ba y.near.length bc)) 26)) (by kernel_rfl) 15 rfl ⟨T9.out.ba, T9.out.bb⟩ ?_
    intro ops hops hS
    have T10 := hide (T9.out.then (Below.refl _ w9).drew)
    clear T9
    rw [show (Array.replicate 15 false) = #[false, false, false, false, false, false, false, false, false, false, false, false, false, false, false] from rfl]
    refine take_do 0 (oi := ?_) (v := ?_) ?_ (by rw [hops.out]; kernel_rfl) ?_ ?_ ?_ hS ?_
    rotate_left 2
    · rw [hops.out]; simp only [List.getElem?_toArray, List.getElem?_cons_succ, List.getElem?_cons_zero]; rfl
    · rw [hops.out]; kernel_rfl
    · intro W hW; refine load_one 26 (.tmp 3) ?_ g ?_ 26 (recC x (.slice aa x.near.length ac)) (0, 0) _ W hW.1 Try.underlying26 ?_ ?_ <;> first | rfl | kernel_rfl
    · exact fun c _ w h => h
    try simp only [Act.put, List.setIfInBounds_toArray, List.set_cons_zero, List.set_cons_succ]
    refine take_do 1 (oi := ?_) (v := ?_) ?_ (by rw [hops.out]; kernel_rfl) ?_ ?_ ?_ hS ?_
    rotate_left 2
    · rw [hops.out]; simp only [List.getElem?_toArray, List.getElem?_cons_succ, List.getElem?_cons_zero]; rfl
    · rw [hops.out]; kernel_rfl
    · intro W hW; refine load_one 26 (.tmp 4) ?_ h ?_ 26 (recC y (.slice ba y.near.length bc)) (0, 0) _ W hW.2 Try.underlying26 ?_ ?_ <;> first | rfl | kernel_rfl
    · exact fun c _ w h => h
    try simp only [Act.put, List.setIfInBounds_toArray, List.set_cons_zero, List.set_cons_succ]
    refine take_do 3 (oi := ?_) (v := ?_) ?_ (by rw [hops.out]; kernel_rfl) ?_ ?_ ?_ hS ?_
    rotate_left 2
    · rw [hops.out]; simp only [List.getElem?_toArray, List.getElem?_cons_succ, List.getElem?_cons_zero]; rfl
    · rw [hops.out]; kernel_rfl
    · intro W hW; refine load_one 26 (.tmp 3) ?_ g ?_ 26 (recC x (.slice aa x.near.length ac)) (0, 0) _ W hW.1 Try.underlying26 ?_ ?_ <;> first | rfl | kernel_rfl
    · exact fun c _ w h => h
    try simp only [Act.put, List.setIfInBounds_toArray, List.set_cons_zero, List.set_cons_succ]
    refine take_do 4 (oi := ?_) (v := ?_) ?_ (by rw [hops.out]; kernel_rfl) ?_ ?_ ?_ hS ?_
    rotate_left 2
    · rw [hops.out]; simp only [List.getElem?_toArray, List.getElem?_cons_succ, List.getElem?_cons_zero]; rfl
    · rw [hops.out]; kernel_rfl
    · intro W hW; refine load_one 26 (.tmp 4) ?_ h ?_ 26 (recC y (.slice ba y.near.length bc)) (0, 0) _ W hW.2 Try.underlying26 ?_ ?_ <;> first | rfl | kernel_rfl
    · exact fun c _ w h => h
    try simp only [Act.put, List.setIfInBounds_toArray, List.set_cons_zero, List.set_cons_succ]
    refine wpAnyH_ready (rs := [2]) (by rw [hops.out]; kernel_rfl) (by simp) ?_
    refine AllReadyH.cons (o := ?_) ?_ (fun K hK => ?_) AllReadyH.nil
    rotate_left 1
    · rw [hops.out]; simp only [List.getElem?_toArray, List.getElem?_cons_succ, List.getElem?_cons_zero]; rfl
    rw [if_pos (by rw [hops.out]; kernel_rfl)]
    go_simp
    refine (isameBody_any _ _ x y _ ⟨_, rfl, T10.out.na⟩ ⟨_, rfl, T10.out.nb⟩ (by have := HLA.out; omega) (by have := HLB.out; omega)).mono ?_
    rintro e w11 ⟨rfl, hb⟩
    have T11 := hide (T10.out.then hb)
    clear hb T10 hS
    have hS := And.intro T11.out.ba T11.out.bb
    rw [S1.out]
    refine hK.out _ _ hS (fun _ => ?_)
    clear hK K
    try simp only [Act.put, List.setIfInBounds_toArray, List.set_cons_zero, List.set_cons_succ]
    refine wpAnyH_ready (rs := [5]) (by rw [hops.out]; kernel_rfl) (by simp) ?_
    refine AllReadyH.cons (o := ?_) ?_ (fun K hK => ?_) AllReadyH.nil
    rotate_left 1
    · rw [hops.out]; simp only [List.getElem?_toArray, List.getElem?_cons_succ, List.getElem?_cons_zero]; rfl
    rw [if_pos (by rw [hops.out]; kernel_rfl)]
    go_simp
    refine (ssameBody_any _ _ x y _ ⟨_, rfl, T11.out.na⟩ ⟨_, rfl, T11.out.nb⟩ (by have := HLA.out; omega) (by have := HLB.out; omega)).mono ?_
    rintro e w12 ⟨rfl, hb⟩
    have T12 := hide (T11.out.then hb)
    clear hb T11 hS
    have hS := And.intro T12.out.ba T12.out.bb
    rw [S1.out]
    refine hK.out _ _ hS (fun _ => ?_)
    clear hK K
    try simp only [Act.put, List.setIfInBounds_toArray, List.set_cons_zero, List.set_cons_succ]
    refine take_do 6 (oi := ?_) (v := ?_) ?_ (by rw [hops.out]; kernel_rfl) ?_ ?_ ?_ hS ?_
    rotate_left 2
    · rw [hops.out]; simp only [List.getElem?_toArray, List.getElem?_cons_succ, List.getElem?_cons_zero]; rfl
    · rw [hops.out]; kernel_rfl
    · intro W _; go_simp <;> with_reducible rfl
    · exact fun c _ w h => h
    try simp only [Act.put, List.setIfInBounds_toArray, List.set_cons_zero, List.set_cons_succ]
    refine take_do 7 (oi := ?_) (v := ?_) ?_ (by rw [hops.out]; kernel_rfl) ?_ ?_ ?_ hS ?_
    rotate_left 2
    · rw [hops.out]; simp only [List.getElem?_toArray, List.getElem?_cons_succ, List.getElem?_cons_zero]; rfl
    · rw [hops.out]; kernel_rfl
    · intro W _; go_simp <;> with_reducible rfl
    · exact fun c _ w h => h
    try simp only [Act.put, List.setIfInBounds_toArray, List.set_cons_zero, List.set_cons_succ]
    refine take_do 8 (oi := ?_) (v := ?_) ?_ (by rw [hops.out]; kernel_rfl) ?_ ?_ ?_ hS ?_
    rotate_left 2
    · rw [hops.out]; simp only [List.getElem?_toArray, List.getElem?_cons_succ, List.getElem?_cons_zero]; rfl
    · rw [hops.out]; kernel_rfl
    · intro W _; go_simp <;> with_reducible rfl
    · exact fun c _ w h => h
    try simp only [Act.put, List.setIfInBounds_toArray, List.set_cons_zero, List.set_cons_succ]
    refine take_do 9 (oi := ?_) (v := ?_) ?_ (by rw [hops.out]; kernel_rfl) ?_ ?_ ?_ hS ?_
    rotate_left 2
    · rw [hops.out]; simp only [List.getElem?_toArray, List.getElem?_cons_succ, List.getElem?_cons_zero]; rfl
    · rw [hops.out]; kernel_rfl
    · intro W hW; refine load_one 26 (.tmp 3) ?_ g ?_ 26 (recC x (.slice aa x.near.length ac)) (0, 0) _ W hW.1 Try.underlying26 ?_ ?_ <;> first | rfl | kernel_rfl
    · exact fun c _ w h => h
    try simp only [Act.put, List.setIfInBounds_toArray, List.set_cons_zero, List.set_cons_succ]
    refine take_do 10 (oi := ?_) (v := ?_) ?_ (by rw [hops.out]; kernel_rfl) ?_ ?_ ?_ hS ?_
    rotate_left 2
    · rw [hops.out]; simp only [List.getElem?_toArray, List.getElem?_cons_succ, List.getElem?_cons_zero]; rfl
    · rw [hops.out]; kernel_rfl
    · intro W hW; refine load_one 26 (.tmp 4) ?_ h ?_ 26 (recC y (.slice ba y.near.length bc)) (0, 0) _ W hW.2 Try.underlying26 ?_ ?_ <;> first | rfl | kernel_rfl
    · exact fun c _ w h => h
    try simp only [Act.put, List.setIfInBounds_toArray, List.set_cons_zero, List.set_cons_succ]
    refine wpAnyH_ready (rs := [11]) (by rw [hops.out]; kernel_rfl) (by simp) ?_
    refine AllReadyH.cons (o := ?_) ?_ (fun K hK => ?_) AllReadyH.nil
    rotate_left 1
    · rw [hops.out]; simp only [List.getElem?_toArray, List.getElem?_cons_succ, List.getElem?_cons_zero]; rfl
    rw [if_pos (by rw [hops.out]; kernel_rfl)]
    go_simp
    refine (sbefore_any _ _ x y _).mono ?_
    rintro e w13 ⟨rfl, hb⟩
    have T13 := hide (T12.out.then hb)
    clear hb T12 hS
    have hS := And.intro T13.out.ba T13.out.bb
    rw [B1.out]
    refine hK.out _ _ hS (fun _ => ?_)
    clear hK K
    try simp only [Act.put, List.setIfInBounds_toArray, List.set_cons_zero, List.set_cons_succ]
    refine take_do 12 (oi := ?_) (v := ?_) ?_ (by rw [hops.out]; kernel_rfl) ?_ ?_ ?_ hS ?_
    rotate_left 2
    · rw [hops.out]; simp only [List.getElem?_toArray, List.getElem?_cons_succ, List.getElem?_cons_zero]; rfl
    · rw [hops.out]; kernel_rfl
    · intro W _; go_simp <;> with_reducible rfl
    · exact fun c _ w h => h
    try simp only [Act.put, List.setIfInBounds_toArray, List.set_cons_zero, List.set_cons_succ]
    refine take_do 13 (oi := ?_) (v := ?_) ?_ (by rw [hops.out]; kernel_rfl) ?_ ?_ ?_ hS ?_
    rotate_left 2
    · rw [hops.out]; simp only [List.getElem?_toArray, List.getElem?_cons_succ, List.getElem?_cons_zero]; rfl
    · rw [hops.out]; kernel_rfl
    · intro W _; go_simp <;> with_reducible rfl
    · exact fun c _ w h => h
    try simp only [Act.put, List.setIfInBounds_toArray, List.set_cons_zero, List.set_cons_succ]
    refine take_do 14 (oi := ?_) (v := ?_) ?_ (by rw [hops.out]; kernel_rfl) ?_ ?_ ?_ hS ?_
    rotate_left 2
    · rw [hops.out]; simp only [List.getElem?_toArray, List.getElem?_cons_succ, List.getElem?_cons_zero]; rfl
    · rw [hops.out]; kernel_rfl
    · intro W _; go_simp <;> with_reducible rfl
    · exact fun c _ w h => h
    try simp only [Act.put, List.setIfInBounds_toArray, List.set_cons_zero, List.set_cons_succ]
    refine wpAnyH_done (by rw [hops.out]; kernel_rfl) ?_ _
    refine NoPanic.normal ?_
    clear hops hS
    go_wp2
    go_ret
    exact ⟨rfl, T13.out.bel⟩
  · have B1 := hide b1
    have B2 := hide b2
    have K1 := hide k1
    have K2 := hide k2
    have S1 := hide s1
    clear b1 b2 k1 k2 s1
    go_wp2_with fail
    refine (ibefore_any _ _ x y _).mono ?_
    rintro e w4 ⟨rfl, hb⟩
    have T4 := hide (T3.out.then hb)
    clear hb T3
    obtain ⟨g, hg⟩ : ∃ g, g = w2.heap.size := ⟨_, rfl⟩
    obtain ⟨h, hh⟩ : ∃ h, h = g + 1 := ⟨_, rfl⟩
    rw [← hg] at T4 ⊢
    rw [← hh] at T4 ⊢
    clear hg hh
    rw [B1.out]
    have sb := T4.out.ba
    unfold recC at sb
    have m0 := cells_at sb 0
    have m1 := cells_at sb 1
    have m2 := cells_at sb 2
    have m3 := cells_at sb 3
    have m4 := cells_at sb 4
    have m5 := cells_at sb 5
    have m6 := cells_at sb 6
    have m7 := cells_at sb 7
    simp at m0 m1 m2 m3 m4 m5 m6 m7
    clear sb
    have sb := T4.out.bb
    unfold recC at sb
    have mb0 := cells_at sb 0
    have mb1 := cells_at sb 1
    have mb2 := cells_at sb 2
    have mb3 := cells_at sb 3
    have mb4 := cells_at sb 4
    have mb5 := cells_at sb 5
    have mb6 := cells_at sb 6
    have mb7 := cells_at sb 7
    simp at mb0 mb1 mb2 mb3 mb4 mb5 mb6 mb7
    clear sb
    go_wp2_with fail
    refine (ibefore_any _ _ y x w4).mono ?_
    rintro e w5 ⟨rfl, hb⟩
    have T5 := hide (T4.out.then hb)
    clear hb T4
    clear m0 mb0 m1 mb1 m2 mb2 m3 mb3 m4 mb4 m5 mb5 m6 mb6 m7 mb7
    rw [B2.out]
    have sb := T5.out.ba
    unfold recC at sb
    have m0 := cells_at sb 0
    have m1 := cells_at sb 1
    have m2 := cells_at sb 2
    have m3 := cells_at sb 3
    have m4 := cells_at sb 4
    have m5 := cells_at sb 5
    have m6 := cells_at sb 6
    have m7 := cells_at sb 7
    simp at m0 m1 m2 m3 m4 m5 m6 m7
    clear sb
    have sb := T5.out.bb
    unfold recC at sb
    have mb0 := cells_at sb 0
    have mb1 := cells_at sb 1
    have mb2 := cells_at sb 2
    have mb3 := cells_at sb 3
    have mb4 := cells_at sb 4
    have mb5 := cells_at sb 5
    have mb6 := cells_at sb 6
    have mb7 := cells_at sb 7
    simp at mb0 mb1 mb2 mb3 mb4 mb5 mb6 mb7
    clear sb
    go_wp2_with fail
    refine (isameKey_any _ _ x y w5).mono ?_
    rintro e w6 ⟨rfl, hb⟩
    have T6 := hide (T5.out.then hb)
    clear hb T5
    clear m0 mb0 m1 mb1 m2 mb2 m3 mb3 m4 mb4 m5 mb5 m6 mb6 m7 mb7
    rw [K1.out]
    have sb := T6.out.ba
    unfold recC at sb
    have m0 := cells_at sb 0
    have m1 := cells_at sb 1
    have m2 := cells_at sb 2
    have m3 := cells_at sb 3
    have m4 := cells_at sb 4
    have m5 := cells_at sb 5
    have m6 := cells_at sb 6
    have m7 := cells_at sb 7
    simp at m0 m1 m2 m3 m4 m5 m6 m7
    clear sb
    have sb := T6.out.bb
    unfold recC at sb
    have mb0 := cells_at sb 0
    have mb1 := cells_at sb 1
    have mb2 := cells_at sb 2
    have mb3 := cells_at sb 3
    have mb4 := cells_at sb 4
    have mb5 := cells_at sb 5
    have mb6 := cells_at sb 6
    have mb7 := cells_at sb 7
    simp at mb0 mb1 mb2 mb3 mb4 mb5 mb6 mb7
    clear sb
    go_wp2_with fail
    refine (isameKey_any _ _ y x w6).mono ?_
    rintro e w7 ⟨rfl, hb⟩
    have T7 := hide (T6.out.then hb)
    clear hb T6
    clear m0 mb0 m1 mb1 m2 mb2 m3 mb3 m4 mb4 m5 mb5 m6 mb6 m7 mb7
    rw [K2.out]
    have sb := T7.out.ba
    unfold recC at sb
    have m0 := cells_at sb 0
    have m1 := cells_at sb 1
    have m2 := cells_at sb 2
    have m3 := cells_at sb 3
    have m4 := cells_at sb 4
    have m5 := cells_at sb 5
    have m6 := cells_at sb 6
    have m7 := cells_at sb 7
    simp at m0 m1 m2 m3 m4 m5 m6 m7
    clear sb
    have sb := T7.out.bb
    unfold recC at sb
    have mb0 := cells_at sb 0
    have mb1 := cells_at sb 1
    have mb2 := cells_at sb 2
    have mb3 := cells_at sb 3
    have mb4 := cells_at sb 4
    have mb5 := cells_at sb 5
    have mb6 := cells_at sb 6
    have mb7 := cells_at sb 7
    simp at mb0 mb1 mb2 mb3 mb4 mb5 mb6 mb7
    clear sb
    go_wp2_with fail
    refine (isameBody_any _ _ x y w7 ⟨_, rfl, T7.out.na⟩ ⟨_, rfl, T7.out.nb⟩ (by have := HLA.out; omega) (by have := HLB.out; omega)).mono ?_
    rintro e w8 ⟨rfl, hb⟩
    have T8 := hide (T7.out.then hb)
    clear hb T7
    clear m0 mb0 m1 mb1 m2 mb2 m3 mb3 m4 mb4 m5 mb5 m6 mb6 m7 mb7
    rw [S1.out]
    have sb := T8.out.ba
    unfold recC at sb
    have m0 := cells_at sb 0
    have m1 := cells_at sb 1
    have m2 := cells_at sb 2
    have m3 := cells_at sb 3
    have m4 := cells_at sb 4
    have m5 := cells_at sb 5
    have m6 := cells_at sb 6
    have m7 := cells_at sb 7
    simp at m0 m1 m2 m3 m4 m5 m6 m7
    clear sb
    have sb := T8.out.bb
    unfold recC at sb
    have mb0 := cells_at sb 0
    have mb1 := cells_at sb 1
    have mb2 := cells_at sb 2
    have mb3 := cells_at sb 3
    have mb4 := cells_at sb 4
    have mb5 := cells_at sb 5
    have mb6 := cells_at sb 6
    have mb7 := cells_at sb 7
    simp at mb0 mb1 mb2 mb3 mb4 mb5 mb6 mb7
    clear sb
    go_wp2_with fail
    refine (isameBody_any _ _ x x w8 ⟨_, rfl, T8.out.na⟩ ⟨_, rfl, T8.out.na⟩ (by have := HLA.out; omega) (by have := HLA.out; omega)).mono ?_
    rintro e w9 ⟨rfl, hb⟩
    have T9 := hide (T8.out.then hb)
    clear hb T8
    clear m0 mb0 m1 mb1 m2 mb2 m3 mb3 m4 mb4 m5 mb5 m6 mb6 m7 mb7
    rw [S2.out]
    have sb := T9.out.ba
    unfold recC at sb
    have m0 := cells_at sb 0
    have m1 := cells_at sb 1
    have m2 := cells_at sb 2
    have m3 := cells_at sb 3
    have m4 := cells_at sb 4
    have m5 := cells_at sb 5
    have m6 := cells_at sb 6
    have m7 := cells_at sb 7
    simp at m0 m1 m2 m3 m4 m5 m6 m7
    clear sb
    have sb := T9.out.bb
    unfold recC at sb
    have mb0 := cells_at sb 0
    have mb1 := cells_at sb 1
    have mb2 := cells_at sb 2
    have mb3 := cells_at sb 3
    have mb4 := cells_at sb 4
    have mb5 := cells_at sb 5
    have mb6 := cells_at sb 6
    have mb7 := cells_at sb 7
    simp at mb0 mb1 mb2 mb3 mb4 mb5 mb6 mb7
    clear sb
    go_wp2
    clear m0 mb0 m1 mb1 m2 mb2 m3 mb3 m4 mb4 m5 mb5 m6 mb6 m7 mb7
    refine wp_region_noPanic ?_
    refine wp_region_start (S := fun W => W.heap[g]? = some (.cells (recC x (.slice aa x.near.length ac)) 26) ∧ W.heap[h]? = some (.cells (recC y (.slice ba y.near.length bc)) 26)) (by kernel_rfl) 15 rfl ⟨T9.out.ba, T9.out.bb⟩ ?_
    intro ops hops hS
    have T10 := hide (T9.out.then (Below.refl _ w9).drew)
    clear T9
    rw [show (Array.replicate 15 false) = #[false, false, false, false, false, false, false, false, false, false, false, false, false, false, false] from rfl]
    refine take_do 0 (oi := ?_) (v := ?_) ?_ (by rw [hops.out]; kernel_rfl) ?_ ?_ ?_ hS ?_
    rotate_left 2
    · rw [hops.out]; simp only [List.getElem?_toArray, List.getElem?_cons_succ, List.getElem?_cons_zero]; rfl
    · rw [hops.out]; kernel_rfl
    · intro W hW; refine load_one 26 (.tmp 3) ?_ g ?_ 26 (recC x (.slice aa x.near.length ac)) (0, 0) _ W hW.1 Try.underlying26 ?_ ?_ <;> first | rfl | kernel_rfl
    · exact fun c _ w h => h
    try simp only [Act.put, List.setIfInBounds_toArray, List.set_cons_zero, List.set_cons_succ]
    refine take_do 1 (oi := ?_) (v := ?_) ?_ (by rw [hops.out]; kernel_rfl) ?_ ?_ ?_ hS ?_
    rotate_left 2
    · rw [hops.out]; simp only [List.getElem?_toArray, List.getElem?_cons_succ, List.getElem?_cons_zero]; rfl
    · rw [hops.out]; kernel_rfl
    · intro W hW; refine load_one 26 (.tmp 4) ?_ h ?_ 26 (recC y (.slice ba y.near.length bc)) (0, 0) _ W hW.2 Try.underlying26 ?_ ?_ <;> first | rfl | kernel_rfl
    · exact fun c _ w h => h
    try simp only [Act.put, List.setIfInBounds_toArray, List.set_cons_zero, List.set_cons_succ]
    refine take_do 3 (oi := ?_) (v := ?_) ?_ (by rw [hops.out]; kernel_rfl) ?_ ?_ ?_ hS ?_
    rotate_left 2
    · rw [hops.out]; simp only [List.getElem?_toArray, List.getElem?_cons_succ, List.getElem?_cons_zero]; rfl
    · rw [hops.out]; kernel_rfl
    · intro W hW; refine load_one 26 (.tmp 3) ?_ g ?_ 26 (recC x (.slice aa x.near.length ac)) (0, 0) _ W hW.1 Try.underlying26 ?_ ?_ <;> first | rfl | kernel_rfl
    · exact fun c _ w h => h
    try simp only [Act.put, List.setIfInBounds_toArray, List.set_cons_zero, List.set_cons_succ]
    refine take_do 4 (oi := ?_) (v := ?_) ?_ (by rw [hops.out]; kernel_rfl) ?_ ?_ ?_ hS ?_
    rotate_left 2
    · rw [hops.out]; simp only [List.getElem?_toArray, List.getElem?_cons_succ, List.getElem?_cons_zero]; rfl
    · rw [hops.out]; kernel_rfl
    · intro W hW; refine load_one 26 (.tmp 4) ?_ h ?_ 26 (recC y (.slice ba y.near.length bc)) (0, 0) _ W hW.2 Try.underlying26 ?_ ?_ <;> first | rfl | kernel_rfl
    · exact fun c _ w h => h
    try simp only [Act.put, List.setIfInBounds_toArray, List.set_cons_zero, List.set_cons_succ]
    refine wpAnyH_ready (rs := [2]) (by rw [hops.out]; kernel_rfl) (by simp) ?_
    refine AllReadyH.cons (o := ?_) ?_ (fun K hK => ?_) AllReadyH.nil
    rotate_left 1
    · rw [hops.out]; simp only [List.getElem?_toArray, List.getElem?_cons_succ, List.getElem?_cons_zero]; rfl
    rw [if_pos (by rw [hops.out]; kernel_rfl)]
    go_simp
    refine (isameBody_any _ _ x y _ ⟨_, rfl, T10.out.na⟩ ⟨_, rfl, T10.out.nb⟩ (by have := HLA.out; omega) (by have := HLB.out; omega)).mono ?_
    rintro e w11 ⟨rfl, hb⟩
    have T11 := hide (T10.out.then hb)
    clear hb T10 hS
    have hS := And.intro T11.out.ba T11.out.bb
    rw [S1.out]
    refine hK.out _ _ hS (fun _ => ?_)
    clear hK K
    try simp only [Act.put, List.setIfInBounds_toArray, List.set_cons_zero, List.set_cons_succ]
    refine wpAnyH_ready (rs := [5]) (by rw [hops.out]; kernel_rfl) (by simp) ?_
    refine AllReadyH.cons (o := ?_) ?_ (fun K hK => ?_) AllReadyH.nil
    rotate_left 1
    · rw [hops.out]; simp only [List.getElem?_toArray, List.getElem?_cons_succ, List.getElem?_cons_zero]; rfl
    rw [if_pos (by rw [hops.out]; kernel_rfl)]
    go_simp
    refine (ssameBody_any _ _ x y _ ⟨_, rfl, T11.out.na⟩ ⟨_, rfl, T11.out.nb⟩ (by have := HLA.out; omega) (by have := HLB.out; omega)).mono ?_
    rintro e w12 ⟨rfl, hb⟩
    have T12 := hide (T11.out.then hb)
    clear hb T11 hS
    have hS := And.intro T12.out.ba T12.out.bb
    rw [S1.out]
    refine hK.out _ _ hS (fun _ => ?_)
    clear hK K
    try simp only [Act.put, List.setIfInBounds_toArray, List.set_cons_zero, List.set_cons_succ]
    refine take_do 6 (oi := ?_) (v := ?_) ?_ (by rw [hops.out]; kernel_rfl) ?_ ?_ ?_ hS ?_
    rotate_left 2
    · rw [hops.out]; simp only [List.getElem?_toArray, List.getElem?_cons_succ, List.getElem?_cons_zero]; rfl
    · rw [hops.out]; kernel_rfl
    · intro W _; go_simp <;> with_reducible rfl
    · exact fun c _ w h => h
    try simp only [Act.put, List.setIfInBounds_toArray, List.set_cons_zero, List.set_cons_succ]
    refine take_do 7 (oi := ?_) (v := ?_) ?_ (by rw [hops.out]; kernel_rfl) ?_ ?_ ?_ hS ?_
    rotate_left 2
    · rw [hops.out]; simp only [List.getElem?_toArray, List.getElem?_cons_succ, List.getElem?_cons_zero]; rfl
    · rw [hops.out]; kernel_rfl
    · intro W _; go_simp <;> with_reducible rfl
    · exact fun c _ w h => h
    try simp only [Act.put, List.setIfInBounds_toArray, List.set_cons_zero, List.set_cons_succ]
    refine take_do 8 (oi := ?_) (v := ?_) ?_ (by rw [hops.out]; kernel_rfl) ?_ ?_ ?_ hS ?_
    rotate_left 2
    · rw [hops.out]; simp only [List.getElem?_toArray, List.getElem?_cons_succ, List.getElem?_cons_zero]; rfl
    · rw [hops.out]; kernel_rfl
    · intro W _; go_simp <;> with_reducible rfl
    · exact fun c _ w h => h
    try simp only [Act.put, List.setIfInBounds_toArray, List.set_cons_zero, List.set_cons_succ]
    refine take_do 9 (oi := ?_) (v := ?_) ?_ (by rw [hops.out]; kernel_rfl) ?_ ?_ ?_ hS ?_
    rotate_left 2
    · rw [hops.out]; simp only [List.getElem?_toArray, List.getElem?_cons_succ, List.getElem?_cons_zero]; rfl
    · rw [hops.out]; kernel_rfl
    · intro W hW; refine load_one 26 (.tmp 3) ?_ g ?_ 26 (recC x (.slice aa x.near.length ac)) (0, 0) _ W hW.1 Try.underlying26 ?_ ?_ <;> first | rfl | kernel_rfl
    · exact fun c _ w h => h
    try simp only [Act.put, List.setIfInBounds_toArray, List.set_cons_zero, List.set_cons_succ]
    refine take_do 10 (oi := ?_) (v := ?_) ?_ (by rw [hops.out]; kernel_rfl) ?_ ?_ ?_ hS ?_
    rotate_left 2
    · rw [hops.out]; simp only [List.getElem?_toArray, List.getElem?_cons_succ, List.getElem?_cons_zero]; rfl
    · rw [hops.out]; kernel_rfl
    · intro W hW; refine load_one 26 (.tmp 4) ?_ h ?_ 26 (recC y (.slice ba y.near.length bc)) (0, 0) _ W hW.2 Try.underlying26 ?_ ?_ <;> first | rfl | kernel_rfl
    · exact fun c _ w h => h
    try simp only [Act.put, List.setIfInBounds_toArray, List.set_cons_zero, List.set_cons_succ]
    refine wpAnyH_ready (rs := [11]) (by rw [hops.out]; kernel_rfl) (by simp) ?_
    refine AllReadyH.cons (o := ?_) ?_ (fun K hK => ?_) AllReadyH.nil
    rotate_left 1
    · rw [hops.out]; simp only [List.getElem?_toArray, List.getElem?_cons_succ, List.getElem?_cons_zero]; rfl
    rw [if_pos (by rw [hops.out]; kernel_rfl)]
    go_simp
    refine (sbefore_any _ _ x y _).mono ?_
    rintro e w13 ⟨rfl, hb⟩
    have T13 := hide (T12.out.then hb)
    clear hb T12 hS
    have hS := And.intro T13.out.ba T13.out.bb
    rw [B1.out]
    refine hK.out _ _ hS (fun _ => ?_)
    clear hK K
    try simp only [Act.put, List.setIfInBounds_toArray, List.set_cons_zero, List.set_cons_succ]
    refine take_do 12 (oi := ?_) (v := ?_) ?_ (by rw [hops.out]; kernel_rfl) ?_ ?_ ?_ hS ?_
    rotate_left 2
    · rw [hops.out]; simp only [List.getElem?_toArray, List.getElem?_cons_succ, List.getElem?_cons_zero]; rfl
    · rw [hops.out]; kernel_rfl
    · intro W _; go_simp <;> with_reducible rfl
    · exact fun c _ w h => h
    try simp only [Act.put, List.setIfInBounds_toArray, List.set_cons_zero, List.set_cons_succ]
    refine take_do 13 (oi := ?_) (v := ?_) ?_ (by rw [hops.out]; kernel_rfl) ?_ ?_ ?_ hS ?_
    rotate_left 2
    · rw [hops.out]; simp only [List.getElem?_toArray, List.getElem?_cons_succ, List.getElem?_cons_zero]; rfl
    · rw [hops.out]; kernel_rfl
    · intro W _; go_simp <;> with_reducible rfl
    · exact fun c _ w h => h
    try simp only [Act.put, List.setIfInBounds_toArray, List.set_cons_zero, List.set_cons_succ]
    refine take_do 14 (oi := ?_) (v := ?_) ?_ (by rw [hops.out]; kernel_rfl) ?_ ?_ ?_ hS ?_
    rotate_left 2
    · rw [hops.out]; simp only [List.getElem?_toArray, List.getElem?_cons_succ, List.getElem?_cons_zero]; rfl
    · rw [hops.out]; kernel_rfl
    · intro W _; go_simp <;> with_reducible rfl
    · exact fun c _ w h => h
    try simp only [Act.put, List.setIfInBounds_toArray, List.set_cons_zero, List.set_cons_succ]
    refine wpAnyH_done (by rw [hops.out]; kernel_rfl) ?_ _
    refine NoPanic.normal ?_
    clear hops hS
    go_wp2
    go_ret
    exact ⟨rfl, T13.out.bel⟩
  · have B1 := hide b1
    have B2 := hide b2
    have K1 := hide k1
    have K2 := hide k2
    have S1 := hide s1
    clear b1 b2 k1 k2 s1
    go_wp2_with fail
    refine (ibefore_any _ _ x y _).mono ?_
    rintro e w4 ⟨rfl, hb⟩
    have T4 := hide (T3.out.then hb)
    clear hb T3
    obtain ⟨g, hg⟩ : ∃ g, g = w2.heap.size := ⟨_, rfl⟩
    obtain ⟨h, hh⟩ : ∃ h, h = g + 1 := ⟨_, rfl⟩
    rw [← hg] at T4 ⊢
    rw [← hh] at T4 ⊢
    clear hg hh
    rw [B1.out]
    have sb := T4.out.ba
    unfold recC at sb
    have m0 := cells_at sb 0
    have m1 := cells_at sb 1
    have m2 := cells_at sb 2
    have m3 := cells_at sb 3
    have m4 := cells_at sb 4
    have m5 := cells_at sb 5
    have m6 := cells_at sb 6
    have m7 := cells_at sb 7
    simp at m0 m1 m2 m3 m4 m5 m6 m7
    clear sb
    have sb := T4.out.bb
    unfold recC at sb
    have mb0 := cells_at sb 0
    have mb1 := cells_at sb 1
    have mb2 := cells_at sb 2
    have mb3 := cells_at sb 3
    have mb4 := cells_at sb 4
    have mb5 := cells_at sb 5
    have mb6 := cells_at sb 6
    have mb7 := cells_at sb 7
    simp at mb0 mb1 mb2 mb3 mb4 mb5 mb6 mb7
    clear sb
    go_wp2_with fail
    refine (ibefore_any _ _ y x w4).mono ?_
    rintro e w5 ⟨rfl, hb⟩
    have T5 := hide (T4.out.then hb)
    clear hb T4
    clear m0 mb0 m1 mb1 m2 mb2 m3 mb3 m4 mb4 m5 mb5 m6 mb6 m7 mb7
    rw [B2.out]
    have sb := T5.out.ba
    unfold recC at sb
    have m0 := cells_at sb 0
    have m1 := cells_at sb 1
    have m2 := cells_at sb 2
    have m3 := cells_at sb 3
    have m4 := cells_at sb 4
    have m5 := cells_at sb 5
    have m6 := cells_at sb 6
    have m7 := cells_at sb 7
    simp at m0 m1 m2 m3 m4 m5 m6 m7
    clear sb
    have sb := T5.out.bb
    unfold recC at sb
    have mb0 := cells_at sb 0
    have mb1 := cells_at sb 1
    have mb2 := cells_at sb 2
    have mb3 := cells_at sb 3
    have mb4 := cells_at sb 4
    have mb5 := cells_at sb 5
    have mb6 := cells_at sb 6
    have mb7 := cells_at sb 7
    simp at mb0 mb1 mb2 mb3 mb4 mb5 mb6 mb7
    clear sb
    go_wp2_with fail
    refine (isameKey_any _ _ x y w5).mono ?_
    rintro e w6 ⟨rfl, hb⟩
    have T6 := hide (T5.out.then hb)
    clear hb T5
    clear m0 mb0 m1 mb1 m2 mb2 m3 mb3 m4 mb4 m5 mb5 m6 mb6 m7 mb7
    rw [K1.out]
    have sb := T6.out.ba
    unfold recC at sb
    have m0 := cells_at sb 0
    have m1 := cells_at sb 1
    have m2 := cells_at sb 2
    have m3 := cells_at sb 3
    have m4 := cells_at sb 4
    have m5 := cells_at sb 5
    have m6 := cells_at sb 6
    have m7 := cells_at sb 7
    simp at m0 m1 m2 m3 m4 m5 m6 m7
    clear sb
    have sb := T6.out.bb
    unfold recC at sb
    have mb0 := cells_at sb 0
    have mb1 := cells_at sb 1
    have mb2 := cells_at sb 2
    have mb3 := cells_at sb 3
    have mb4 := cells_at sb 4
    have mb5 := cells_at sb 5
    have mb6 := cells_at sb 6
    have mb7 := cells_at sb 7
    simp at mb0 mb1 mb2 mb3 mb4 mb5 mb6 mb7
    clear sb
    go_wp2_with fail
    refine (isameKey_any _ _ y x w6).mono ?_
    rintro e w7 ⟨rfl, hb⟩
    have T7 := hide (T6.out.then hb)
    clear hb T6
    clear m0 mb0 m1 mb1 m2 mb2 m3 mb3 m4 mb4 m5 mb5 m6 mb6 m7 mb7
    rw [K2.out]
    have sb := T7.out.ba
    unfold recC at sb
    have m0 := cells_at sb 0
    have m1 := cells_at sb 1
    have m2 := cells_at sb 2
    have m3 := cells_at sb 3
    have m4 := cells_at sb 4
    have m5 := cells_at sb 5
    have m6 := cells_at sb 6
    have m7 := cells_at sb 7
    simp at m0 m1 m2 m3 m4 m5 m6 m7
    clear sb
    have sb := T7.out.bb
    unfold recC at sb
    have mb0 := cells_at sb 0
    have mb1 := cells_at sb 1
    have mb2 := cells_at sb 2
    have mb3 := cells_at sb 3
    have mb4 := cells_at sb 4
    have mb5 := cells_at sb 5
    have mb6 := cells_at sb 6
    have mb7 := cells_at sb 7
    simp at mb0 mb1 mb2 mb3 mb4 mb5 mb6 mb7
    clear sb
    go_wp2_with fail
    refine (isameBody_any _ _ x y w7 ⟨_, rfl, T7.out.na⟩ ⟨_, rfl, T7.out.nb⟩ (by have := HLA.out; omega) (by have := HLB.out; omega)).mono ?_
    rintro e w8 ⟨rfl, hb⟩
    have T8 := hide (T7.out.then hb)
    clear hb T7
    clear m0 mb0 m1 mb1 m2 mb2 m3 mb3 m4 mb4 m5 mb5 m6 mb6 m7 mb7
    rw [S1.out]
    have sb := T8.out.ba
    unfold recC at sb
    have m0 := cells_at sb 0
    have m1 := cells_at sb 1
    have m2 := cells_at sb 2
    have m3 := cells_at sb 3
    have m4 := cells_at sb 4
    have m5 := cells_at sb 5
    have m6 := cells_at sb 6
    have m7 := cells_at sb 7
    simp at m0 m1 m2 m3 m4 m5 m6 m7
    clear sb
    have sb := T8.out.bb
    unfold recC at sb
    have mb0 := cells_at sb 0
    have mb1 := cells_at sb 1
    have mb2 := cells_at sb 2
    have mb3 := cells_at sb 3
    have mb4 := cells_at sb 4
    have mb5 := cells_at sb 5
    have mb6 := cells_at sb 6
    have mb7 := cells_at sb 7
    simp at mb0 mb1 mb2 mb3 mb4 mb5 mb6 mb7
    clear sb
    go_wp2_with fail
    refine (isameBody_any _ _ x x w8 ⟨_, rfl, T8.out.na⟩ ⟨_, rfl, T8.out.na⟩ (by have := HLA.out; omega) (by have := HLA.out; omega)).mono ?_
    rintro e w9 ⟨rfl, hb⟩
    have T9 := hide (T8.out.then hb)
    clear hb T8
    clear m0 mb0 m1 mb1 m2 mb2 m3 mb3 m4 mb4 m5 mb5 m6 mb6 m7 mb7
    rw [S2.out]
    have sb := T9.out.ba
    unfold recC at sb
    have m0 := cells_at sb 0
    have m1 := cells_at sb 1
    have m2 := cells_at sb 2
    have m3 := cells_at sb 3
    have m4 := cells_at sb 4
    have m5 := cells_at sb 5
    have m6 := cells_at sb 6
    have m7 := cells_at sb 7
    simp at m0 m1 m2 m3 m4 m5 m6 m7
    clear sb
    have sb := T9.out.bb
    unfold recC at sb
    have mb0 := cells_at sb 0
    have mb1 := cells_at sb 1
    have mb2 := cells_at sb 2
    have mb3 := cells_at sb 3
    have mb4 := cells_at sb 4
    have mb5 := cells_at sb 5
    have mb6 := cells_at sb 6
    have mb7 := cells_at sb 7
    simp at mb0 mb1 mb2 mb3 mb4 mb5 mb6 mb7
    clear sb
    go_wp2
    clear m0 mb0 m1 mb1 m2 mb2 m3 mb3 m4 mb4 m5 mb5 m6 mb6 m7 mb7
    refine wp_region_noPanic ?_
    refine wp_region_start (S := fun W => W.heap[g]? = some (.cells (recC x (.slice aa x.near.length ac)) 26) ∧ W.heap[h]? = some (.cells (recC y (.slice ba y.near.length bc)) 26)) (by kernel_rfl) 15 rfl ⟨T9.out.ba, T9.out.bb⟩ ?_
    intro ops hops hS
    have T10 := hide (T9.out.then (Below.refl _ w9).drew)
    clear T9
    rw [show (Array.replicate 15 false) = #[false, false, false, false, false, false, false, false, false, false, false, false, false, false, false] from rfl]
    refine take_do 0 (oi := ?_) (v := ?_) ?_ (by rw [hops.out]; kernel_rfl) ?_ ?_ ?_ hS ?_
    rotate_left 2
    · rw [hops.out]; simp only [List.getElem?_toArray, List.getElem?_cons_succ, List.getElem?_cons_zero]; rfl
    · rw [hops.out]; kernel_rfl
    · intro W hW; refine load_one 26 (.tmp 3) ?_ g ?_ 26 (recC x (.slice aa x.near.length ac)) (0, 0) _ W hW.1 Try.underlying26 ?_ ?_ <;> first | rfl | kernel_rfl
    · exact fun c _ w h => h
    try simp only [Act.put, List.setIfInBounds_toArray, List.set_cons_zero, List.set_cons_succ]
    refine take_do 1 (oi := ?_) (v := ?_) ?_ (by rw [hops.out]; kernel_rfl) ?_ ?_ ?_ hS ?_
    rotate_left 2
    · rw [hops.out]; simp only [List.getElem?_toArray, List.getElem?_cons_succ, List.getElem?_cons_zero]; rfl
    · rw [hops.out]; kernel_rfl
    · intro W hW; refine load_one 26 (.tmp 4) ?_ h ?_ 26 (recC y (.slice ba y.near.length bc)) (0, 0) _ W hW.2 Try.underlying26 ?_ ?_ <;> first | rfl | kernel_rfl
    · exact fun c _ w h => h
    try simp only [Act.put, List.setIfInBounds_toArray, List.set_cons_zero, List.set_cons_succ]
    refine take_do 3 (oi := ?_) (v := ?_) ?_ (by rw [hops.out]; kernel_rfl) ?_ ?_ ?_ hS ?_
    rotate_left 2
    · rw [hops.out]; simp only [List.getElem?_toArray, List.getElem?_cons_succ, List.getElem?_cons_zero]; rfl
    · rw [hops.out]; kernel_rfl
    · intro W hW; refine load_one 26 (.tmp 3) ?_ g ?_ 26 (recC x (.slice aa x.near.length ac)) (0, 0) _ W hW.1 Try.underlying26 ?_ ?_ <;> first | rfl | kernel_rfl
    · exact fun c _ w h => h
    try simp only [Act.put, List.setIfInBounds_toArray, List.set_cons_zero, List.set_cons_succ]
    refine take_do 4 (oi := ?_) (v := ?_) ?_ (by rw [hops.out]; kernel_rfl) ?_ ?_ ?_ hS ?_
    rotate_left 2
    · rw [hops.out]; simp only [List.getElem?_toArray, List.getElem?_cons_succ, List.getElem?_cons_zero]; rfl
    · rw [hops.out]; kernel_rfl
    · intro W hW; refine load_one 26 (.tmp 4) ?_ h ?_ 26 (recC y (.slice ba y.near.length bc)) (0, 0) _ W hW.2 Try.underlying26 ?_ ?_ <;> first | rfl | kernel_rfl
    · exact fun c _ w h => h
    try simp only [Act.put, List.setIfInBounds_toArray, List.set_cons_zero, List.set_cons_succ]
    refine wpAnyH_ready (rs := [2]) (by rw [hops.out]; kernel_rfl) (by simp) ?_
    refine AllReadyH.cons (o := ?_) ?_ (fun K hK => ?_) AllReadyH.nil
    rotate_left 1
    · rw [hops.out]; simp only [List.getElem?_toArray, List.getElem?_cons_succ, List.getElem?_cons_zero]; rfl
    rw [if_pos (by rw [hops.out]; kernel_rfl)]
    go_simp
    refine (isameBody_any _ _ x y _ ⟨_, rfl, T10.out.na⟩ ⟨_, rfl, T10.out.nb⟩ (by have := HLA.out; omega) (by have := HLB.out; omega)).mono ?_
    rintro e w11 ⟨rfl, hb⟩
    have T11 := hide (T10.out.then hb)
    clear hb T10 hS
    have hS := And.intro T11.out.ba T11.out.bb
    rw [S1.out]
    refine hK.out _ _ hS (fun _ => ?_)
    clear hK K
    try simp only [Act.put, List.setIfInBounds_toArray, List.set_cons_zero, List.set_cons_succ]
    refine wpAnyH_ready (rs := [5]) (by rw [hops.out]; kernel_rfl) (by simp) ?_
    refine AllReadyH.cons (o := ?_) ?_ (fun K hK => ?_) AllReadyH.nil
    rotate_left 1
    · rw [hops.out]; simp only [List.getElem?_toArray, List.getElem?_cons_succ, List.getElem?_cons_zero]; rfl
    rw [if_pos (by rw [hops.out]; kernel_rfl)]
    go_simp
    refine (ssameBody_any _ _ x y _ ⟨_, rfl, T11.out.na⟩ ⟨_, rfl, T11.out.nb⟩ (by have := HLA.out; omega) (by have := HLB.out; omega)).mono ?_
    rintro e w12 ⟨rfl, hb⟩
    have T12 := hide (T11.out.then hb)
    clear hb T11 hS
    have hS := And.intro T12.out.ba T12.out.bb
    rw [S1.out]
    refine hK.out _ _ hS (fun _ => ?_)
    clear hK K
    try simp only [Act.put, List.setIfInBounds_toArray, List.set_cons_zero, List.set_cons_succ]
    refine take_do 6 (oi := ?_) (v := ?_) ?_ (by rw [hops.out]; kernel_rfl) ?_ ?_ ?_ hS ?_
    rotate_left 2
    · rw [hops.out]; simp only [List.getElem?_toArray, List.getElem?_cons_succ, List.getElem?_cons_zero]; rfl
    · rw [hops.out]; kernel_rfl
    · intro W _; go_simp <;> with_reducible rfl
    · exact fun c _ w h => h
    try simp only [Act.put, List.setIfInBounds_toArray, List.set_cons_zero, List.set_cons_succ]
    refine take_do 7 (oi := ?_) (v := ?_) ?_ (by rw [hops.out]; kernel_rfl) ?_ ?_ ?_ hS ?_
    rotate_left 2
    · rw [hops.out]; simp only [List.getElem?_toArray, List.getElem?_cons_succ, List.getElem?_cons_zero]; rfl
    · rw [hops.out]; kernel_rfl
    · intro W _; go_simp <;> with_reducible rfl
    · exact fun c _ w h => h
    try simp only [Act.put, List.setIfInBounds_toArray, List.set_cons_zero, List.set_cons_succ]
    refine take_do 8 (oi := ?_) (v := ?_) ?_ (by rw [hops.out]; kernel_rfl) ?_ ?_ ?_ hS ?_
    rotate_left 2
    · rw [hops.out]; simp only [List.getElem?_toArray, List.getElem?_cons_succ, List.getElem?_cons_zero]; rfl
    · rw [hops.out]; kernel_rfl
    · intro W _; go_simp <;> with_reducible rfl
    · exact fun c _ w h => h
    try simp only [Act.put, List.setIfInBounds_toArray, List.set_cons_zero, List.set_cons_succ]
    refine take_do 9 (oi := ?_) (v := ?_) ?_ (by rw [hops.out]; kernel_rfl) ?_ ?_ ?_ hS ?_
    rotate_left 2
    · rw [hops.out]; simp only [List.getElem?_toArray, List.getElem?_cons_succ, List.getElem?_cons_zero]; rfl
    · rw [hops.out]; kernel_rfl
    · intro W hW; refine load_one 26 (.tmp 3) ?_ g ?_ 26 (recC x (.slice aa x.near.length ac)) (0, 0) _ W hW.1 Try.underlying26 ?_ ?_ <;> first | rfl | kernel_rfl
    · exact fun c _ w h => h
    try simp only [Act.put, List.setIfInBounds_toArray, List.set_cons_zero, List.set_cons_succ]
    refine take_do 10 (oi := ?_) (v := ?_) ?_ (by rw [hops.out]; kernel_rfl) ?_ ?_ ?_ hS ?_
    rotate_left 2
    · rw [hops.out]; simp only [List.getElem?_toArray, List.getElem?_cons_succ, List.getElem?_cons_zero]; rfl
    · rw [hops.out]; kernel_rfl
    · intro W hW; refine load_one 26 (.tmp 4) ?_ h ?_ 26 (recC y (.slice ba y.near.length bc)) (0, 0) _ W hW.2 Try.underlying26 ?_ ?_ <;> first | rfl | kernel_rfl
    · exact fun c _ w h => h
    try simp only [Act.put, List.setIfInBounds_toArray, List.set_cons_zero, List.set_cons_succ]
    refine wpAnyH_ready (rs := [11]) (by rw [hops.out]; kernel_rfl) (by simp) ?_
    refine AllReadyH.cons (o := ?_) ?_ (fun K hK => ?_) AllReadyH.nil
    rotate_left 1
    · rw [hops.out]; simp only [List.getElem?_toArray, List.getElem?_cons_succ, List.getElem?_cons_zero]; rfl
    rw [if_pos (by rw [hops.out]; kernel_rfl)]
    go_simp
    refine (sbefore_any _ _ x y _).mono ?_
    rintro e w13 ⟨rfl, hb⟩
    have T13 := hide (T12.out.then hb)
    clear hb T12 hS
    have hS := And.intro T13.out.ba T13.out.bb
    rw [B1.out]
    refine hK.out _ _ hS (fun _ => ?_)
    clear hK K
    try simp only [Act.put, List.setIfInBounds_toArray, List.set_cons_zero, List.set_cons_succ]
    refine take_do 12 (oi := ?_) (v := ?_) ?_ (by rw [hops.out]; kernel_rfl) ?_ ?_ ?_ hS ?_
    rotate_left 2
    · rw [hops.out]; simp only [List.getElem?_toArray, List.getElem?_cons_succ, List.getElem?_cons_zero]; rfl
    · rw [hops.out]; kernel_rfl
    · intro W _; go_simp <;> with_reducible rfl
    · exact fun c _ w h => h
    try simp only [Act.put, List.setIfInBounds_toArray, List.set_cons_zero, List.set_cons_succ]
    refine take_do 13 (oi := ?_) (v := ?_) ?_ (by rw [hops.out]; kernel_rfl) ?_ ?_ ?_ hS ?_
    rotate_left 2
    · rw [hops.out]; simp only [List.getElem?_toArray, List.getElem?_cons_succ, List.getElem?_cons_zero]; rfl
    · rw [hops.out]; kernel_rfl
    · intro W _; go_simp <;> with_reducible rfl
    · exact fun c _ w h => h
    try simp only [Act.put, List.setIfInBounds_toArray, List.set_cons_zero, List.set_cons_succ]
    refine take_do 14 (oi := ?_) (v := ?_) ?_ (by rw [hops.out]; kernel_rfl) ?_ ?_ ?_ hS ?_
    rotate_left 2
    · rw [hops.out]; simp only [List.getElem?_toArray, List.getElem?_cons_succ, List.getElem?_cons_zero]; rfl
    · rw [hops.out]; kernel_rfl
    · intro W _; go_simp <;> with_reducible rfl
    · exact fun c _ w h => h
    try simp only [Act.put, List.setIfInBounds_toArray, List.set_cons_zero, List.set_cons_succ]
    refine wpAnyH_done (by rw [hops.out]; kernel_rfl) ?_ _
    refine NoPanic.normal ?_
    clear hops hS
    go_wp2
    go_ret
    exact ⟨rfl, T13.out.bel⟩
end Go.Proofs.Ytohjphhocdgpgaa
