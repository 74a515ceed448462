/-
  spec.l04Two: two records, the second perhaps a copy of the first.
-/
import Derived.Test.YtohjphhocdgpgaaTwoB
namespace Go.Proofs.Ytohjphhocdgpgaa
open Go.RowKit

set_option linter.unusedSimpArgs false

set_option maxRecDepth 100000 in
set_option maxHeartbeats 2000000 in
theorem twoD_any (a : Option Addr) (len cap : Nat) (w : World) (hc : Code w a len w.heap.size) :
    Calls Try.prog 73 #[.slice a len cap] w fun e w' => ∃ (x y : RecD) (va vb : Value), e = .returned (.tuple #[.agg (recC x va), .agg (recC y vb)]) ∧ w'.ownsRow w.heap.size 67 2 va x.near.length (flat nrE x.near) ∧ w'.ownsRow w.heap.size 67 2 vb y.near.length (flat nrE y.near) ∧ x.near.length ≤ 7 ∧ y.near.length ≤ 7 ∧ Below w.heap.size w w' := by
  have HC := hide hc
  clear hc
  go_enter Try.func73, Try.ntmps73
  go_wp2_with fail
  refine (new_any a len cap _ (code_later HC.out (((Below.refl w.heap.size w).alloc (Nat.le_refl _) _).alloc (by simp) _))).mono ?_
  rintro e w1 ⟨rfl, hc1, hb1⟩
  have hps : ((w.alloc (.cells zeroC 26)).alloc (.cells zeroC 26)).heap.size = w.heap.size + 2 := by simp
  unfold zeroC at hps
  rw [hps] at hc1 hb1 ⊢
  have q0 : w1.heap[w.heap.size]? = some (.cells zeroC 26) := by
    rw [hb1.block _ (by omega), Below.heap_alloc _ _ _ (by simp), heap_alloc_new]; rfl
  have q1 : w1.heap[w.heap.size + 1]? = some (.cells zeroC 26) := by
    rw [hb1.block _ (by omega)]
    have e := heap_alloc_new (w.alloc (.cells zeroC 26)) (.cells zeroC 26)
    rw [show (w.alloc (.cells zeroC 26)).heap.size = w.heap.size + 1 by simp] at e
    exact e
  have bel1 : Below w.heap.size w w1 := (((Below.refl w.heap.size w).alloc (Nat.le_refl _) _).alloc (by simp) _).trans (hb1.mono (by omega))
  obtain ⟨p, hp⟩ : ∃ p, p = w.heap.size + 2 := ⟨_, rfl⟩
  rw [← hp] at hc1 ⊢
  have hpl : w.heap.size + 1 < p := by omega
  clear hps hb1 HC hp
  have C1 := hide hc1
  clear hc1
  go_wp2_with fail
  refine (anyD_any p a len cap _ C1.out).mono ?_
  rintro e w2 ⟨x, va, rfl, hoa, hla, hc2, hg2⟩
  obtain ⟨aa, ac, rfl⟩ := owns_lenS hoa
  have C2 := hide hc2
  have HLX := hide hla
  clear hc2 hla
  unfold recC
  go_wp2_with fail
  refine (anyD_any p a len cap _ (cur_alloc C2.out _)).mono ?_
  rintro e w3 ⟨y, vb, rfl, hob, hlb, hc3, hg3⟩
  obtain ⟨ba, bc, rfl⟩ := owns_lenS hob
  have hp1 := lt_of_cur C1.out
  have hza : p < w2.heap.size := lt_of_cur C2.out
  have hs3 : w2.heap.size < w3.heap.size := Nat.lt_of_lt_of_le (by simp) hg3.size
  have k2 : w3.heap[w2.heap.size]? = some (.cells (recC x (.slice aa x.near.length ac)) 26) := by
    rw [hg3.block _ (by simp) (by simp; omega)]; exact heap_alloc_new w2 _
  have st0 : TwoSt w (w3.alloc (.cells (recC y (.slice ba y.near.length bc)) 26)) p w.heap.size w2.heap.size w3.heap.size a len cap (.slice aa x.near.length ac) (.slice ba y.near.length bc) x y :=
    { cur := cur_alloc hc3 _
      low := Nat.le_refl _
      hB := hpl
      hza := hza
      hzb := hs3
      bel := (((bel1.grown hg2 bel1.size (fun k hk => by simp at hk; omega)).alloc (by omega) _).grown hg3 (by simp; omega) (fun k hk => by simp at hk; omega)).alloc (by omega) _
      boxa := (Below.heap_alloc _ _ _ hs3).trans k2
      boxb := heap_alloc_new w3 _
      r0 := by rw [Below.heap_alloc _ _ _ (by omega), hg3.block _ (by simp; omega) (by simp; omega), Below.heap_alloc _ _ _ (by omega), hg2.block _ (by omega) (by simp; omega)]; exact q0
      r1 := by rw [Below.heap_alloc _ _ _ (by omega), hg3.block _ (by simp; omega) (by simp; omega), Below.heap_alloc _ _ _ (by omega), hg2.block _ (by omega) (by simp; omega)]; exact q1
      owna := (kept_ne ((owns_baseS hoa (by omega)).alloc _) hg3 (fun e => by have := (hoa.lt p e).1; omega)).alloc _
      ownb := (owns_baseS hob (by simp; omega)).alloc _
      sep := by
        cases hv : (Value.slice aa x.near.length ac).ownBlock with
        | none => exact .inl rfl
        | some g => exact .inr (fun e => by have h1 := (hoa.lt g hv).2; have h2 := (hob.lt g e.symm).1; simp at h2; omega) }
  have ST0 := hide st0
  have HLY := hide hlb
  clear st0 hlb hob hoa hc3 hg2 hg3 k2 q0 q1 bel1 C1 C2 hp1
  unfold recC
  go_wp2_with fail
  refine (once_any p a len cap 2 _ ST0.out.cur (by omega) (by omega)).mono ?_
  rintro e w4 ⟨b, rfl, hc4, hg4⟩
  have ST4 := hide (ST0.out.grown hc4 hg4)
  clear hc4 hg4 ST0
  obtain ⟨za, hzA⟩ : ∃ z, z = w2.heap.size := ⟨_, rfl⟩
  obtain ⟨zb, hzB⟩ : ∃ z, z = w3.heap.size := ⟨_, rfl⟩
  rw [← hzA, ← hzB] at ST4 ⊢
  clear hzA hzB hs3 hza
  cases b
  · go_wp2
    refine wp_region_noPanic ?_
    refine wp_region_start (S := fun _ => True) (by kernel_rfl) 4 rfl trivial ?_
    intro ops hops _
    refine two9_dag _ _ _ _ _ _ _ _ _ _ _ _ _ _ _ _ _ _ _ _ _ _ _ _ _ _ _ _ _ _ _ _ w _ p w.heap.size za zb a len cap (.slice aa x.near.length ac) (.slice ba y.near.length bc) (x) (y) _ ops hops ST4.out.drew ?_
    intro W F
    refine NoPanic.normal ?_
    clear hops ops
    have FF := hide F
    clear F
    go_wp2_with fail
    (try simp only [Exit.inBlock, Exit.then])
    refine bodyPost_ret (results_two rfl _ _ w.heap.size (w.heap.size + 1) 26 26 (recC _ _) (recC _ _) (0, 0) (0, 0) _ rfl FF.out.r0 rfl FF.out.r1 Try.underlying26 rfl (by kernel_rfl) (by kernel_rfl)) rfl ?_
    exact ⟨_, _, _, _, rfl, owns_baseS FF.out.owna (by omega), owns_baseS FF.out.ownb (by omega), HLX.out, HLY.out, FF.out.bel⟩
  · have sb := ST4.out.boxa
    unfold recC at sb
    have m0 := cells_at sb 0
    have m1 := cells_at sb 1
    have m2 := cells_at sb 2
    have m3 := cells_at sb 3
    have m4 := cells_at sb 4
    have m5 := cells_at sb 5
    have m6 := cells_at sb 6
    have m7 := cells_at sb 7
    simp at m0 m1 m2 m3 m4 m5 m6 m7
    clear sb
    go_wp2_with fail
    refine (copyD_any x _ (p + 1) w4 ST4.out.owna (by have := HLX.out; omega)).mono ?_
    rintro e w5 ⟨vc, rfl, hoc, hbc⟩
    obtain ⟨ca, cc, rfl⟩ := owns_lenS hoc
    have ST5 := hide (ST4.out.copied hbc hoc)
    have sb : w5.heap[zb]? = some (.cells (recC y (.slice ba y.near.length bc)) 26) := by rw [hbc.block zb (lt_of_heap ST4.out.boxb)]; exact ST4.out.boxb
    unfold recC at sb
    have n0 := cells_at sb 0
    have n1 := cells_at sb 1
    have n2 := cells_at sb 2
    have n3 := cells_at sb 3
    have n4 := cells_at sb 4
    have n5 := cells_at sb 5
    have n6 := cells_at sb 6
    have n7 := cells_at sb 7
    simp at n0 n1 n2 n3 n4 n5 n6 n7
    have fn := frozen_at sb
    clear sb hoc hbc ST4 m0 m1 m2 m3 m4 m5 m6 m7
    unfold recC
    go_wp2
    clear n0 n1 n2 n3 n4 n5 n6 n7 fn
    refine wp_region_noPanic ?_
    refine wp_region_start (S := fun _ => True) (by kernel_rfl) 7 rfl trivial ?_
    intro ops hops _
    refine two6_dag _ _ _ _ _ _ _ _ _ _ _ _ _ _ _ _ _ _ _ _ _ _ _ _ _ _ _ _ _ _ _ _ w _ p w.heap.size za zb a len cap _ (.slice ca x.near.length cc) x x _ ops hops (fun _ _ _ _ h => h) ST5.out.drew ?_
    intro w6 q st6
    refine NoPanic.normal ?_
    clear hops ops ST5
    obtain ⟨y', hy'⟩ : ∃ y' : RecD, y' = { x with seq := IntKind.i64.wrap (x.seq + q) } := ⟨_, rfl⟩
    have hyl : y'.near.length = x.near.length := by rw [hy']
    rw [← hy'] at st6
    rw [← hyl] at st6
    have HY := hide hyl
    have ST6 := hide st6
    clear hy' st6 hyl
    go_wp2_with fail
    refine (once_any p a len cap 2 _ ST6.out.cur (by omega) (by omega)).mono ?_
    rintro e w7 ⟨b, rfl, hc7, hg7⟩
    have ST7 := hide (ST6.out.grown hc7 hg7)
    clear hc7 hg7 ST6
    have hcell := cells_at ST7.out.boxb 5
    simp only [recC] at hcell
    have c5 : w7.cell? ⟨zb, 5, none⟩ = some (.slice ca y'.near.length cc) := hcell
    clear hcell
    cases b
    · go_wp2
      refine wp_region_noPanic ?_
      refine wp_region_start (S := fun _ => True) (by kernel_rfl) 4 rfl trivial ?_
      intro ops hops _
      refine two9_dag _ _ _ _ _ _ _ _ _ _ _ _ _ _ _ _ _ _ _ _ _ _ _ _ _ _ _ _ _ _ _ _ w _ p w.heap.size za zb a len cap (_) (_) (x) (y') _ ops hops ST7.out.drew ?_
      intro W F
      refine NoPanic.normal ?_
      clear hops ops
      have FF := hide F
      clear F
      go_wp2_with fail
      (try simp only [Exit.inBlock, Exit.then])
      refine bodyPost_ret (results_two rfl _ _ w.heap.size (w.heap.size + 1) 26 26 (recC _ _) (recC _ _) (0, 0) (0, 0) _ rfl FF.out.r0 rfl FF.out.r1 Try.underlying26 rfl (by kernel_rfl) (by kernel_rfl)) rfl ?_
      exact ⟨_, _, _, _, rfl, owns_baseS FF.out.owna (by omega), owns_baseS FF.out.ownb (by omega), HLX.out, (by have := HY.out; have := HLX.out; omega), FF.out.bel⟩
    · by_cases hn : 0 < y'.near.length
      · rcases ST7.out.ownb.2 with ⟨e1, e2⟩ | ⟨g, cap', cur', e1, _⟩
        · omega
        · injection e1 with e1 _ _
          subst e1
          obtain ⟨u, hu⟩ : ∃ u, (flat nrE y'.near)[1]? = some u := ⟨_, List.getElem?_eq_getElem (by rw [nr_flat_len]; omega)⟩
          have c1 := (World.ownsRow.cellAt ST7.out.ownb 1 (by omega)).trans hu
          have f1 := World.ownsRow.frozenAt ST7.out.ownb 1
          obtain ⟨l, hl, st8⟩ := ST7.out.set9 rfl hn
          have hn' : (0 : Int) < y'.near.length := by omega
          have ST8 := hide st8
          have HL8 := hide (show l.length ≤ 7 by rw [hl.out, HY.out]; exact HLX.out)
          clear st8 hl hu ST7
          go_wp2
          refine wp_region_noPanic ?_
          refine wp_region_start (S := fun _ => True) (by kernel_rfl) 4 rfl trivial ?_
          intro ops hops _
          refine two9_dag _ _ _ _ _ _ _ _ _ _ _ _ _ _ _ _ _ _ _ _ _ _ _ _ _ _ _ _ _ _ _ _ w _ p w.heap.size za zb a len cap (_) (_) (x) (_) _ ops hops ST8.out.drew ?_
          intro W F
          refine NoPanic.normal ?_
          clear hops ops
          have FF := hide F
          clear F
          go_wp2_with fail
          (try simp only [Exit.inBlock, Exit.then])
          refine bodyPost_ret (results_two rfl _ _ w.heap.size (w.heap.size + 1) 26 26 (recC _ _) (recC _ _) (0, 0) (0, 0) _ rfl FF.out.r0 rfl FF.out.r1 Try.underlying26 rfl (by kernel_rfl) (by kernel_rfl)) rfl ?_
          exact ⟨_, _, _, _, rfl, owns_baseS FF.out.owna (by omega), owns_baseS FF.out.ownb (by omega), HLX.out, HL8.out, FF.out.bel⟩
      · have hn' : ¬ (0 : Int) < y'.near.length := by omega
        go_wp2
        refine wp_region_noPanic ?_
        refine wp_region_start (S := fun _ => True) (by kernel_rfl) 4 rfl trivial ?_
        intro ops hops _
        refine two9_dag _ _ _ _ _ _ _ _ _ _ _ _ _ _ _ _ _ _ _ _ _ _ _ _ _ _ _ _ _ _ _ _ w _ p w.heap.size za zb a len cap (_) (_) (x) (y') _ ops hops ST7.out.drew ?_
        intro W F
        refine NoPanic.normal ?_
        clear hops ops
        have FF := hide F
        clear F
        go_wp2_with fail
        (try simp only [Exit.inBlock, Exit.then])
        refine bodyPost_ret (results_two rfl _ _ w.heap.size (w.heap.size + 1) 26 26 (recC _ _) (recC _ _) (0, 0) (0, 0) _ rfl FF.out.r0 rfl FF.out.r1 Try.underlying26 rfl (by kernel_rfl) (by kernel_rfl)) rfl ?_
        exact ⟨_, _, _, _, rfl, owns_baseS FF.out.owna (by omega), owns_baseS FF.out.ownb (by omega), HLX.out, (by have := HY.out; have := HLX.out; omega), FF.out.bel⟩
end Go.Proofs.Ytohjphhocdgpgaa
