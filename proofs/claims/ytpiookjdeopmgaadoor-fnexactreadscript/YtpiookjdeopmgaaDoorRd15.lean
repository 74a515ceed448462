/-
  impl.putInPlace at Lk: its contract.
  slices.Insert at lists of Th, one put in: its three roads.
-/
import Derived.Test.YtpiookjdeopmgaaDoorRd12
import Derived.Test.YtpiookjdeopmgaaDoorRd13
namespace Go.Proofs.YtpiookjdeopmgaaDoor
open Go.RowKit

set_option linter.unusedSimpArgs false
set_option linter.unusedVariables false

set_option maxRecDepth 100000 in
set_option maxHeartbeats 4000000 in
theorem pipL_any (lo : Nat) (v : Value) (ls : List Lk) (l : Lk) (w : World) (hv : w.ownsRow lo 77 4 v ls.length (flat lkE ls)) (hlo : lo ≤ w.heap.size) (hn : ls.length ≤ 1000) (hmono : ∀ s t, s ≤ t → t < ls.length → ltL ls l t → ltL ls l s) :
    Calls Tryd.prog 73 #[v, lkV l, .func (.func 74) #[] #[]] w fun e w' => ∃ v' i, e = .returned v' ∧ i ≤ ls.length ∧ (∀ t, t < i → ltL ls l t) ∧ (∀ t, i ≤ t → t < ls.length → ¬ ltL ls l t) ∧ w'.ownsRow lo 77 4 v' (ls.length + 1) (flat lkE (ls.take i ++ [l] ++ ls.drop i)) ∧ w.grownBy w' v.ownBlock := by
  obtain ⟨a1, c1, rfl⟩ := owns_lenS hv
  have BX : Below w.heap.size w (w.alloc (.cells #[.int .i64 l.a, .int .i64 l.b, .int .i64 l.c, .int .i64 l.r] 77)) := (Below.refl _ _).alloc (Nat.le_refl _) _
  have hx := heap_alloc_new w (.cells #[.int .i64 l.a, .int .i64 l.b, .int .i64 l.c, .int .i64 l.r] 77)
  obtain ⟨w0, hw0⟩ : ∃ w0, w0 = w.alloc (.cells #[.int .i64 l.a, .int .i64 l.b, .int .i64 l.c, .int .i64 l.r] 77) := ⟨_, rfl⟩
  rw [← hw0] at BX hx
  have hs0 := lt_of_heap hx
  have hv0 := owns_below hv BX (Nat.le_refl _)
  have HS := hide (searchL_any _ ls l w0 (owns_rowAt hv0) (by omega) hmono)
  have d0 := cells_at hx 0
  have d1 := cells_at hx 1
  have d2 := cells_at hx 2
  have d3 := cells_at hx 3
  simp at d0 d1 d2 d3
  have HX := hide hx
  have HV := hide hv0
  clear hv hv0 hx hmono
  go_enter Tryd.func73, Tryd.ntmps73
  unfold lkV
  go_wp2_with fail
  rw [← hw0]
  clear hw0
  refine HS.out.mono ?_
  rintro e w1 ⟨i, f, rfl, hil, q1, q2, b1⟩
  have hx1 := (b1.block _ hs0).trans HX.out
  have e0 := cells_at hx1 0
  have e1 := cells_at hx1 1
  have e2 := cells_at hx1 2
  have e3 := cells_at hx1 3
  simp at e0 e1 e2 e3
  have hv1 := owns_below HV.out b1 (Nat.le_refl _)
  have hs1 := b1.size
  have Q1 := hide q1
  have Q2 := hide q2
  have HV1 := hide hv1
  clear q1 q2 hv1 d0 d1 d2 d3 hx1
  go_wp2_with fail
  have bA : Below w1.heap.size w1 (w1.alloc (.cells #[.int .i64 l.a, .int .i64 l.b, .int .i64 l.c, .int .i64 l.r] 77)) := (Below.refl _ _).alloc (Nat.le_refl _) _
  refine (insertL_any lo i w1.heap.size _ ls l _ (owns_below HV1.out bA (Nat.le_refl _)) (by have := bA.size; have := BX.size; omega) hil (by omega) (heap_alloc_new w1 _) (by
    intro he
    have := (HV1.out.lt _ he.symm).2
    omega)).mono ?_
  rintro e w2 ⟨v', rfl, h1, h2, -⟩
  have H1 := hide h1
  have hG : w.grownBy w2 (Value.slice a1 ls.length c1).ownBlock := ⟨h2.os.trans (b1.os.trans BX.os), h2.tape.trans (b1.tape.trans BX.tape), h2.output.trans (b1.output.trans BX.output), by have := h2.size; have := bA.size; have := BX.size; omega, fun j hj hne => by
    rw [h2.block j (by have := bA.size; have := BX.size; omega) hne, bA.block j (by have := BX.size; omega), b1.block j (by have := BX.size; omega), BX.block j hj]⟩
  have HG := hide hG
  clear h1 h2 hG bA
  go_wp2
  go_ret
  exact ⟨_, i, rfl, hil, Q1.out, Q2.out, H1.out, HG.out⟩
end Go.Proofs.YtpiookjdeopmgaaDoor
namespace Go.Proofs.YtpiookjdeopmgaaDoor
open Go.RowKit

set_option linter.unusedSimpArgs false
set_option linter.unusedVariables false

/-- what two copies leave -/
theorem segT_len (cur D R : List Value) (a d : Nat) (hD : D.length = d) (hR : R.length = 4) (hc : a + 4 + d ≤ cur.length) :
    ((cur.take (a + 4) ++ D ++ cur.drop (a + 4 + D.length)).take a ++ R ++ (cur.take (a + 4) ++ D ++ cur.drop (a + 4 + D.length)).drop (a + R.length)) = cur.take a ++ R ++ D ++ cur.drop (a + 4 + d) := by
  have e1 : (cur.take (a + 4) ++ D ++ cur.drop (a + 4 + D.length)).take a = cur.take a := by
    rw [List.append_assoc, List.take_append_of_le_length (by simp; omega), List.take_take, Nat.min_eq_left (by omega)]
  have e2 : (cur.take (a + 4) ++ D ++ cur.drop (a + 4 + D.length)).drop (a + R.length) = D ++ cur.drop (a + 4 + d) := by
    rw [hR, List.append_assoc, List.drop_append_of_le_length (by simp; omega), List.drop_of_length_le (by simp; omega), List.nil_append, hD]
  rw [e1, e2, List.append_assoc, List.append_assoc, List.append_assoc]

theorem flatT_take (ps : List Th) (i : Nat) (h : i ≤ ps.length) : (flat thE ps).take (i * 4) = flat thE (ps.take i) := by
  conv => lhs; rw [← List.take_append_drop i ps, flat_append]
  have e : (flat thE (ps.take i)).length = i * 4 := by rw [flat_len thE_len, List.length_take, Nat.min_eq_left h]
  rw [← e, List.take_left]

theorem flatT_drop (ps : List Th) (i : Nat) (h : i ≤ ps.length) : (flat thE ps).drop (i * 4) = flat thE (ps.drop i) := by
  conv => lhs; rw [← List.take_append_drop i ps, flat_append]
  have e : (flat thE (ps.take i)).length = i * 4 := by rw [flat_len thE_len, List.length_take, Nat.min_eq_left h]
  rw [← e, List.drop_left]

theorem flatT_one (r : Th) : flat thE [r] = thE r := by simp [flat]

theorem flatT_ins (ps : List Th) (r : Th) (i : Nat) : flat thE (ps.take i ++ [r] ++ ps.drop i) = flat thE (ps.take i) ++ thE r ++ flat thE (ps.drop i) := by
  rw [flat_append, flat_append, flatT_one]

theorem insT_len (ps : List Th) (r : Th) (i : Nat) (h : i ≤ ps.length) : (ps.take i ++ [r] ++ ps.drop i).length = ps.length + 1 := by
  simp
  omega

theorem flatT_oneCell (ps : List Th) : ∀ u ∈ flat thE ps, u.oneCell' = true := by
  intro u hu
  simp only [flat, List.mem_flatMap] at hu
  obtain ⟨p, hp, hu⟩ := hu
  exact thE_one p u hu

set_option maxRecDepth 100000 in
set_option maxHeartbeats 4000000 in
theorem insT_shift (base g cap n m i vb : Nat) (ps : List Th) (r : Th) (w : World) (hnp : n = ps.length) (hm : m = 1) (hrow : w.ownsRow base 81 4 (.slice (some ⟨g, 0, none⟩) n cap) n (flat thE ps)) (hi : i < n) (hroom : n + m ≤ cap)
    (hvb : w.heap[vb]? = some (.cells (thE r).toArray 81 (0, 0))) (hne : vb ≠ g) (hr1 : ∀ u ∈ thE r, u.oneCell' = true) :
    Calls Tryd.prog 110 #[.slice (some ⟨g, 0, none⟩) n cap, .int .i64 (i : Int), .slice (some ⟨vb, 0, none⟩) m 1] w fun e w' => ∃ v, e = .returned v ∧ w'.ownsRow base 81 4 v (n + m) (flat thE (ps.take i ++ [r] ++ ps.drop i)) ∧ w.grownBy w' (some g) ∧ (v.ownBlock = some g ∨ v.ownBlock = some w.heap.size) := by
  have hnl : (flat thE ps).length = n * 4 := hrow.1
  have hui := Tryd.underlying23
  have hus := Tryd.underlying23
  obtain ⟨i0, hi0, hz0, hzs, hzb⟩ := info_parts Tryd.infoTh
  have hsz : (Tryd.prog.info? 81).map (·.size) = some 4 := by rw [hi0]; simp [hzs]

  rcases hrow.2 with ⟨h0, _⟩ | ⟨g', cap', cur, hv, hbg, hg, hnc, hcm, hcs, htk⟩
  · simp at h0
  simp at hv
  obtain ⟨rfl, rfl⟩ := hv
  have hmx : maxLen = 9223372036854775807 ∨ maxLen ≤ 9223372036854775807 := by unfold maxLen; omega
  have hc63 : cap ≤ 9223372036854775807 := by omega
  have hD : (flat thE (ps.drop i)).length = (n - i) * 4 := by rw [flat_len thE_len, List.length_drop, ← hnp]
  have hclen : cur.toList.length = cap * 4 := by simpa using hcs
  have hRl : (thE r).length = 4 := thE_len r
  have hov : ∀ lb cb, (callFunc 119 #[.slice (some ⟨vb, 0, none⟩) m 1, .slice (some ⟨g, (i + m) * 4, none⟩) lb cb]).run Tryd.prog w = .ok (.value (.bool false)) w := fun lb cb => by
    rw [run_callFunc_extern Tryd.func119 (by kernel_rfl) (by kernel_rfl) (by kernel_rfl) (e := Extern.SlicesOverlaps.overlaps #[23, 23] #[4]) (by kernel_rfl),
      Lib.run_overlaps_apart w 23 4 81 hus 4 (by intro w; simp [Go.sizeOf, typeInfo, hi0, hzs]) ⟨vb, 0, none⟩ ⟨g, (i + m) * 4, none⟩ m 1 lb cb hne 81 81 4 cur.size (by simp [World.shape?, hvb, hRl]) (by simp [World.shape?, hg]) (by omega) (frozen_at hvb 0) (frozen_at hvb 4)]
    rfl
  have hcell : ∀ (W : World), W.heap = w.heap → ∀ j u, (flat thE (ps.drop i))[j]? = some u → W.cell? ((⟨g, i * 4, none⟩ : Addr).add j) = some u := fun W hW j u hj => by
    rw [add8]
    simp only [World.cell?, hW, hg]
    rw [← flatT_drop ps i (by omega), ← htk, List.getElem?_drop] at hj
    have h2 : i * 4 + j < n * 4 := by
      have h3 := (List.getElem?_eq_some_iff.1 hj).1
      rw [List.length_take] at h3
      omega
    rw [List.getElem?_take_of_lt h2] at hj
    simpa using hj
  have hcp1 : ∀ (W : World), W.heap = w.heap → ∀ ty dc sc, (Builtin.copy_ #[23, 23] ty #[.slice (some ⟨g, (i + m) * 4, none⟩) (n + m - (i + m)) dc, .slice (some ⟨g, i * 4, none⟩) (n + m - i) sc]).run Tryd.prog W = .ok (goInt (Nat.min (n + m - i) (n + m - (i + m)))) (W.setRow g (cur.toList.take ((i + m) * 4) ++ flat thE (ps.drop i) ++ cur.toList.drop ((i + m) * 4 + (flat thE (ps.drop i)).length)).toArray) := fun W hW ty dc sc =>
    run_copy_rowS W 23 23 ty 81 g ((i + m) * 4) (n + m - (i + m)) dc ⟨g, i * 4, none⟩ (n + m - i) sc 4 cur 81 (flat thE (ps.drop i)) hui hsz (by rw [hW]; exact hg)
      (by rw [hD]; congr 1; have : Nat.min (n + m - i) (n + m - (i + m)) = n + m - (i + m) := Nat.min_eq_right (by omega); omega) (hcell W hW) (by rw [hD]; omega) (flatT_oneCell _)
  obtain ⟨c1, hc1⟩ : ∃ c1, c1 = cur.toList.take ((i + m) * 4) ++ flat thE (ps.drop i) ++ cur.toList.drop ((i + m) * 4 + (flat thE (ps.drop i)).length) := ⟨_, rfl⟩
  rw [← hc1] at hcp1
  have hc1l : c1.length = cap * 4 := by rw [hc1]; simp only [List.length_append, List.length_take, List.length_drop, hclen, hD]; omega
  have hcp2 : ∀ (W : World), W.heap = (w.setRow g c1.toArray).heap → ∀ ty dc, (Builtin.copy_ #[23, 23] ty #[.slice (some ⟨g, i * 4, none⟩) (n + m - i) dc, .slice (some ⟨vb, 0, none⟩) m 1]).run Tryd.prog W = .ok (goInt (Nat.min m (n + m - i))) (W.setRow g (c1.take (i * 4) ++ thE r ++ c1.drop (i * 4 + (thE r).length)).toArray) := fun W hW ty dc => by
    have h := run_copy_rowS (P := Tryd.prog) W 23 23 ty 81 g (i * 4) (n + m - i) dc ⟨vb, 0, none⟩ m 1 4 c1.toArray 81 (thE r) hui hsz (by rw [hW]; exact setRow_heap w g cur _ 81 _ hg)
      (by rw [hRl]; have : Nat.min m (n + m - i) = m := Nat.min_eq_left (by omega); omega) (fun j u hj => by
        rw [add8]
        simp only [World.cell?, hW]
        rw [setRow_other w g vb _ hne, hvb]
        simpa using hj) (by rw [hRl]; simp only [List.size_toArray, hc1l]; omega) hr1
    simpa using h
  have hfin : c1.take (i * 4) ++ thE r ++ c1.drop (i * 4 + (thE r).length) = flat thE (ps.take i) ++ thE r ++ flat thE (ps.drop i) ++ cur.toList.drop (i * 4 + 4 + (n - i) * 4) := by
    have h := segT_len cur.toList (flat thE (ps.drop i)) (thE r) (i * 4) ((n - i) * 4) hD hRl (by omega)
    rw [show i * 4 + 4 = (i + m) * 4 by omega, ← hc1] at h
    rw [h]
    congr 3
    · rw [← flatT_take ps i (by omega), ← htk, List.take_take, Nat.min_eq_left (by omega)]
    · omega
  have hdone : ∀ W : World, W.heap = ((w.setRow g c1.toArray).setRow g (c1.take (i * 4) ++ thE r ++ c1.drop (i * 4 + (thE r).length)).toArray).heap → W.os = w.os → W.tape = w.tape → W.output = w.output → W.ownsRow base 81 4 (.slice (some ⟨g, 0, none⟩) (n + m) cap) (n + m) (flat thE (ps.take i ++ [r] ++ ps.drop i)) ∧ w.grownBy W (some g) ∧ ((Value.slice (some ⟨g, 0, none⟩) (n + m) cap).ownBlock = some g ∨ (Value.slice (some ⟨g, 0, none⟩) (n + m) cap).ownBlock = some w.heap.size) := by
    intro W hW h1 h2 h3
    have hAl : (flat thE (ps.take i)).length = i * 4 := by rw [flat_len thE_len, List.length_take, Nat.min_eq_left (by omega)]
    refine ⟨⟨?_, .inr ⟨g, cap, (flat thE (ps.take i) ++ thE r ++ flat thE (ps.drop i) ++ cur.toList.drop (i * 4 + 4 + (n - i) * 4)).toArray, rfl, hbg, ?_, hroom, hcm, ?_, ?_⟩⟩, ⟨h1, h2, h3, ?_, ?_⟩, .inl rfl⟩
    · rw [flat_len thE_len, insT_len ps r i (by omega)]; omega
    · rw [hW, hfin]
      exact setRow_heap _ g c1.toArray _ 81 _ (setRow_heap w g cur _ 81 _ hg)
    · simp only [List.size_toArray, List.length_append, List.length_drop, hclen, hD, hRl, hAl]; omega
    · rw [flatT_ins]
      exact take_of_parts (by rw [hAl, hRl, hD]; omega)
    · rw [hW]; simp
    · intro k _ hk
      have hkg : k ≠ g := fun e => hk (by rw [e])
      rw [hW, setRow_other _ g k _ hkg, setRow_other _ g k _ hkg]
  have hz1 : ¬ ((m : Int) = 0) := by omega
  have hz2 : ¬ ((i : Int) = (n : Int)) := by omega
  have hw1 : IntKind.i64.wrap ((i : Int) + (m : Int)) = (i : Int) + (m : Int) := by rw [IntKind.wrap_i64]; omega
  have hw2 : IntKind.i64.wrap ((n : Int) + (m : Int)) = (n : Int) + (m : Int) := by rw [IntKind.wrap_i64]; omega
  have hb1 : (0 : Int) ≤ (i : Int) + (m : Int) := by omega
  have hin : i ≤ n := by omega
  have htn : ((i : Int) + (m : Int)).toNat = i + m := by omega
  have htn2 : ((n : Int) + (m : Int)).toNat = n + m := by omega
  have hb2 : ¬ (cap = i + m) := by omega
  have hb3 : (i : Int) ≤ (n : Int) + (m : Int) := by omega
  have hb4 : ¬ (cap = i) := by omega
  have hb5 : ¬ ((cap : Int) < (n : Int) + (m : Int)) := by omega
  have HD := hide hdone
  have HC1 := hide (hcp1 w.drew rfl)
  have mixed : Tryd.prog.follows .mixedOrders = true := by kernel_rfl
  have HC2 := hide (hcp2 (w.drew.setRow g c1.toArray) rfl)
  have HOV := hide hov
  clear hdone hcp1 hcp2 hfin hc1 hcell hD hclen hRl hnl hov hc1l htk hcs hg hrow hvb hr1 hmx hsz hi0 hz0 hzs hzb hm hnp
  go_enter Tryd.func110, Tryd.ntmps110
  go_wp2_with (simp only [HOV.out])
  go_region_law_o (refine step_copy_runI rfl _ _ 23 23 rfl (.slice (some ⟨g, (i + m) * 4, none⟩) (n + m - (i + m)) (cap - (i + m))) (.slice (some ⟨g, i * 4, none⟩) (n + m - i) (cap - i)) (by simp [Act.eval, Act.put]) (by simp [Act.eval, Act.put]) (HC1.out 3 (cap - (i + m)) (cap - i)) ?_)
  go_wp2_with (refine wpList_copy_runI _ rfl _ _ 23 23 rfl (.slice (some ⟨g, i * 4, none⟩) (n + m - i) (cap - i)) (.slice (some ⟨vb, 0, none⟩) m 1) rfl rfl (HC2.out 3 (cap - i)) ?_)
  go_ret
  exact ⟨_, rfl, HD.out _ (by rw [← List.append_assoc]; rfl) rfl rfl rfl⟩

theorem runT_append_end (base n m vb : Nat) (v : Value) (ps : List Th) (r : Th) (w : World) (hnp : n = ps.length) (hm : m = 1) (hbase : base ≤ w.heap.size) (hn : n ≤ 1048576) (hrow : w.ownsRow base 81 4 v n (flat thE ps))
    (hvb : w.heap[vb]? = some (.cells (thE r).toArray 81 (0, 0))) (hr1 : ∀ u ∈ thE r, u.oneCell' = true) : ∃ v' w', (∀ ty, (Builtin.append_ #[23, 23] ty #[v, .slice (some ⟨vb, 0, none⟩) m 1]).run Tryd.prog w = .ok v' w') ∧ w'.ownsRow base 81 4 v' (n + m) (flat thE (ps.take n ++ [r] ++ ps.drop n)) ∧ w.grownBy w' v.ownBlock ∧ (v'.ownBlock = v.ownBlock ∨ v'.ownBlock = some w.heap.size) := by
  obtain ⟨i0, hi0, hz0, hzs, hzb⟩ := info_parts Tryd.infoTh
  obtain ⟨a, c, hv⟩ := owns_lenS hrow
  obtain ⟨v', w', h1, h2, h3, _, h4⟩ := run_append_own_at (P := Tryd.prog) w base 23 23 81 i0 _ 4 i0.bytes Tryd.underlying23 hi0 hz0 hzs rfl rfl (by omega) v n (flat thE ps) hrow ⟨vb, 0, none⟩ m 1 (thE r) (by rw [thE_len, hm]) (fun j u hj => by
    rw [add8, Nat.zero_add, cells_at hvb]
    simpa using hj) hr1 (by unfold maxLen; omega) (by rw [hzb]; omega) hbase
  refine ⟨v', w', fun ty => ?_, ?_, h3, h4⟩
  · rw [hv, append_types w 23 23 ty 81 i0 Tryd.underlying23 Tryd.underlying23 hi0, ← hv]
    exact h1
  · rw [flatT_ins, hnp, List.take_length, List.drop_length]
    rw [hnp] at h2
    simpa [flat] using h2

set_option maxRecDepth 100000 in
set_option maxHeartbeats 4000000 in
theorem insT_end (base n m vb : Nat) (v : Value) (ps : List Th) (r : Th) (w : World) (hnp : n = ps.length) (hm : m = 1) (hbase : base ≤ w.heap.size) (hn : n ≤ 1048576) (hrow : w.ownsRow base 81 4 v n (flat thE ps))
    (hvb : w.heap[vb]? = some (.cells (thE r).toArray 81 (0, 0))) (hr1 : ∀ u ∈ thE r, u.oneCell' = true) :
    Calls Tryd.prog 110 #[v, .int .i64 (n : Int), .slice (some ⟨vb, 0, none⟩) m 1] w fun e w' => ∃ v', e = .returned v' ∧ w'.ownsRow base 81 4 v' (n + m) (flat thE (ps.take n ++ [r] ++ ps.drop n)) ∧ w.grownBy w' v.ownBlock ∧ (v'.ownBlock = v.ownBlock ∨ v'.ownBlock = some w.heap.size) := by
  obtain ⟨v', w', h1, h2, h3, h4⟩ := runT_append_end base n m vb v ps r w hnp hm hbase hn hrow hvb hr1
  obtain ⟨va, vc, hve⟩ := owns_lenS h2
  subst hve
  have HR := hide h1
  generalize ps.take n ++ [r] ++ ps.drop n = l at *
  have H2 := hide h2
  have H3 := hide h3
  have H4 := hide h4
  have hz1 : ¬ ((m : Int) = 0) := by omega
  clear h1 h2 h3 h4 hvb hr1 hm hnp
  rcases hrow.2 with ⟨h0, hn0⟩ | ⟨g, cap, cur, hv, hbg, hg, hnc, hcm, hcs, htk⟩
  · subst h0
    clear hrow
    subst hn0
    go_enter Tryd.func110, Tryd.ntmps110
    go_wp2_with (at_builtin; refine Lib.wpList_append_run _ rfl _ _ _ _ rfl _ _ rfl rfl _ _ (HR.out _) ?_)
    go_ret
    exact ⟨_, rfl, (by simpa using H2.out), H3.out, (by simpa [Value.ownBlock] using H4.out)⟩
  · subst hv
    have hc63 : cap ≤ 9223372036854775807 := by unfold maxLen at hcm; omega
    clear hrow hg hcs htk
    go_enter Tryd.func110, Tryd.ntmps110
    go_wp2_with (at_builtin; refine Lib.wpList_append_run _ rfl _ _ _ _ rfl _ _ rfl rfl _ _ (HR.out _) ?_)
    all_goals (go_ret; exact ⟨_, rfl, H2.out, H3.out, H4.out⟩)

set_option maxRecDepth 100000 in
set_option maxHeartbeats 4000000 in
theorem insT_grow (base g cap n m i vb : Nat) (ps : List Th) (r : Th) (w : World) (hnp : n = ps.length) (hm : m = 1) (hbase : base ≤ w.heap.size) (hn : n ≤ 1048576) (hrow : w.ownsRow base 81 4 (.slice (some ⟨g, 0, none⟩) n cap) n (flat thE ps)) (hi : i < n) (hroom : cap < n + m)
    (hvb : w.heap[vb]? = some (.cells (thE r).toArray 81 (0, 0))) (hr1 : ∀ u ∈ thE r, u.oneCell' = true) :
    Calls Tryd.prog 110 #[.slice (some ⟨g, 0, none⟩) n cap, .int .i64 (i : Int), .slice (some ⟨vb, 0, none⟩) m 1] w fun e w' => ∃ v, e = .returned v ∧ w'.ownsRow base 81 4 v (n + m) (flat thE (ps.take i ++ [r] ++ ps.drop i)) ∧ w.grownBy w' (some g) ∧ (v.ownBlock = some g ∨ v.ownBlock = some w.heap.size) := by
  have hnl : (flat thE ps).length = n * 4 := hrow.1
  have hui := Tryd.underlying23
  have hus := Tryd.underlying23
  obtain ⟨i0, hi0, hz0, hzs, hzb⟩ := info_parts Tryd.infoTh
  have hsz : (Tryd.prog.info? 81).map (·.size) = some 4 := by rw [hi0]; simp [hzs]

  rcases hrow.2 with ⟨h0, _⟩ | ⟨g', cap', cur, hv, hbg, hg, hnc, hcm, hcs, htk⟩
  · simp at h0
  simp at hv
  obtain ⟨rfl, rfl⟩ := hv
  have hc63 : cap ≤ 9223372036854775807 := by unfold maxLen at hcm; omega
  have hgw := lt_of_heap hg
  have hvw := lt_of_heap hvb
  have hD : (flat thE (ps.drop i)).length = (n - i) * 4 := by rw [flat_len thE_len, List.length_drop, ← hnp]
  have hAl : (flat thE (ps.take i)).length = i * 4 := by rw [flat_len thE_len, List.length_take, Nat.min_eq_left (by omega)]
  have hRl : (thE r).length = 4 := thE_len r
  have hkk : (n : Int) + (m : Int) - (i : Int) = ((n + m - i : Nat) : Int) := by omega
  have hik : i + (n + m - i) = n + m := by omega
  have hcellw : ∀ (j : Nat) (u : Value), (flat thE ps)[j]? = some u → w.cell? ⟨g, j, none⟩ = some u := fun j u hj => by
    have h2 : j < n * 4 := by rw [← hnl]; exact (List.getElem?_eq_some_iff.1 hj).1
    rw [← htk, List.getElem?_take_of_lt h2] at hj
    rw [cells_at hg]
    simpa using hj
  have hold : (Builtin.firstCells i0.size i (.slice (some ⟨g, 0, none⟩) i cap)).run Tryd.prog w.drew = .ok (flat thE (ps.take i)).toArray w.drew := by
    rw [hzs]
    exact run_firstCells_some w.drew 4 i ⟨g, 0, none⟩ i cap (flat thE (ps.take i)) hAl (fun j v hj => by
      rw [add8, Nat.zero_add]
      refine hcellw j v ?_
      rw [← flatT_take ps i (by omega), List.getElem?_take] at hj
      split at hj
      · exact hj
      · cases hj)
  have hrz0 := Lib.run_append_grow_zeros (P := Tryd.prog) w 23 3 23 81 i0 _ .i64 .i64 hui Tryd.underlying3 hi0 hz0 (some ⟨g, 0, none⟩) i cap (flat thE (ps.take i)) hold (n + m - i) (by omega) (by rw [hzs]; omega) (by omega) (by omega) (by rw [hzb]; omega) (by rw [hzb, hik]; exact growslice_fits hroom (by omega))
  rw [hik] at hrz0
  have hGn := grownCap_ge w (n + m) cap 81
  have hGm := grownCap_le_maxLen w (n + m) cap 81 (by unfold maxLen; omega)
  obtain ⟨G, hG⟩ : ∃ G, G = grownCap w (n + m) cap 81 := ⟨_, rfl⟩
  rw [← hG] at hrz0 hGn hGm
  obtain ⟨ROW, hROW⟩ : ∃ ROW : Array Value, ROW = (flat thE (ps.take i)).toArray ++ Builtin.zeroCells (thV th0).cells (n + m - i) ++ Builtin.zeroCells (thV th0).cells (G - (n + m)) := ⟨_, rfl⟩
  rw [← hROW] at hrz0
  have hRs : ROW.size = G * 4 := by
    rw [hROW]
    simp only [Array.size_append, List.size_toArray, size_zeroCells, hAl, show (thV th0).cells.size = 4 from rfl]
    omega
  have hRt : ROW.toList.take (i * 4) = flat thE (ps.take i) := by
    rw [hROW]
    simp only [Array.toList_append, List.append_assoc]
    rw [← hAl]
    exact List.take_left
  obtain ⟨N, hN⟩ : ∃ N, N = w.heap.size := ⟨_, rfl⟩
  obtain ⟨W1, hW1⟩ : ∃ W1, W1 = w.drew.alloc (.cells ROW 81) := ⟨_, rfl⟩
  rw [← hW1, ← hN] at hrz0
  have hrz : ∀ ty, (Builtin.append_ #[23, 3] ty #[.slice (some ⟨g, 0, none⟩) i cap, .int .i64 ((n : Int) + (m : Int) - (i : Int))]).run Tryd.prog w = .ok (.slice (some ⟨N, 0, none⟩) (n + m) G) W1 := fun ty => by
    rw [hkk]
    exact hrz0
  have g1 : W1.heap[N]? = some (.cells ROW 81 (0, 0)) := by rw [hW1, hN]; exact heap_alloc_new w.drew _
  have b1 : ∀ k, k < N → W1.heap[k]? = w.heap[k]? := fun k hk => by rw [hW1]; exact Below.heap_alloc _ _ _ (by rw [hN] at hk; exact hk)
  have s1 : W1.heap.size = N + 1 := by rw [hW1, hN]; simp
  have hcpA : ∀ ty dc, (Builtin.copy_ #[23, 23] ty #[.slice (some ⟨N, i * 4, none⟩) (n + m - i) dc, .slice (some ⟨vb, 0, none⟩) m 1]).run Tryd.prog W1 = .ok (goInt (Nat.min m (n + m - i))) (W1.setRow N (ROW.toList.take (i * 4) ++ thE r ++ ROW.toList.drop (i * 4 + (thE r).length)).toArray) := fun ty dc =>
    run_copy_rowS W1 23 23 ty 81 N (i * 4) (n + m - i) dc ⟨vb, 0, none⟩ m 1 4 ROW 81 (thE r) hui hsz g1
      (by rw [hRl]; have : Nat.min m (n + m - i) = m := Nat.min_eq_left (by omega); omega) (fun j u hj => by
        rw [add8, Nat.zero_add]
        simp only [World.cell?]
        rw [b1 vb (by omega), hvb]
        simpa using hj) (by rw [hRl, hRs]; omega) hr1
  obtain ⟨c1, hc1⟩ : ∃ c1, c1 = ROW.toList.take (i * 4) ++ thE r ++ ROW.toList.drop (i * 4 + (thE r).length) := ⟨_, rfl⟩
  rw [← hc1] at hcpA
  have hc1l : c1.length = G * 4 := by
    rw [hc1]
    simp only [List.length_append, List.length_take, List.length_drop, Array.length_toList, hRs, hRl]
    omega
  have hc1t : c1.take ((i + m) * 4) = flat thE (ps.take i) ++ thE r := by
    rw [hc1, hRt]
    rw [List.take_append_of_le_length (by simp only [List.length_append, hAl, hRl]; omega), List.take_of_length_le (by simp only [List.length_append, hAl, hRl]; omega)]
  obtain ⟨W2, hW2⟩ : ∃ W2, W2 = W1.setRow N c1.toArray := ⟨_, rfl⟩
  rw [← hW2] at hcpA
  have g2 : W2.heap[N]? = some (.cells c1.toArray 81 (0, 0)) := by rw [hW2]; exact setRow_heap W1 N ROW _ 81 _ g1
  have b2 : ∀ k, k < N → W2.heap[k]? = w.heap[k]? := fun k hk => by rw [hW2, setRow_other W1 N k _ (by omega)]; exact b1 k hk
  have s2 : W2.heap.size = N + 1 := by rw [hW2]; simpa using s1
  have hcpB0 := fun dc sc => run_copy_rowS (P := Tryd.prog) W2.drew 23 23 4 81 N ((i + m) * 4) (n + m - (i + m)) dc ⟨g, i * 4, none⟩ (n - i) sc 4 c1.toArray 81 (flat thE (ps.drop i)) hui hsz g2
      (by rw [hD]; congr 1; have : Nat.min (n - i) (n + m - (i + m)) = n - i := Nat.min_eq_left (by omega); omega) (fun j u hj => by
        rw [add8]
        have h2 := hcellw (i * 4 + j) u (by rw [← flatT_drop ps i (by omega), List.getElem?_drop] at hj; exact hj)
        simp only [World.cell?] at h2 ⊢
        rw [show W2.drew.heap[g]? = w.heap[g]? from b2 g (by omega)]
        exact h2) (by rw [hD]; simp only [List.size_toArray, hc1l]; omega) (flatT_oneCell _)
  obtain ⟨c2, hc2⟩ : ∃ c2, c2 = c1.take ((i + m) * 4) ++ flat thE (ps.drop i) ++ c1.drop ((i + m) * 4 + (flat thE (ps.drop i)).length) := ⟨_, rfl⟩
  simp only [← hc2] at hcpB0
  obtain ⟨W3, hW3⟩ : ∃ W3, W3 = W2.drew.setRow N c2.toArray := ⟨_, rfl⟩
  rw [← hW3] at hcpB0
  have g3 : W3.heap[N]? = some (.cells c2.toArray 81 (0, 0)) := by rw [hW3]; exact setRow_heap W2.drew N c1.toArray _ 81 _ g2
  have b3 : ∀ k, k < N → W3.heap[k]? = w.heap[k]? := fun k hk => by rw [hW3, setRow_other W2.drew N k _ (by omega)]; exact b2 k hk
  have s3 : W3.heap.size = N + 1 := by rw [hW3]; simpa using s2
  have hfin : W3.ownsRow base 81 4 (.slice (some ⟨N, 0, none⟩) (n + m) G) (n + m) (flat thE (ps.take i ++ [r] ++ ps.drop i)) ∧ w.grownBy W3 (some g) := by
    refine ⟨⟨?_, .inr ⟨N, G, c2.toArray, rfl, by rw [hN]; exact hbase, g3, hGn, hGm, ?_, ?_⟩⟩, ⟨?_, ?_, ?_, by omega, fun k hk _ => b3 k (by omega)⟩⟩
    · rw [flat_len thE_len, insT_len ps r i (by omega)]; omega
    · rw [hc2, hc1t]
      simp only [List.size_toArray, List.length_append, List.length_drop, hc1l, hD, hRl, hAl]
      omega
    · rw [flatT_ins, hc2, hc1t]
      exact take_of_parts (by rw [hAl, hRl, hD]; omega)
    · rw [hW3, hW2, hW1]; rfl
    · rw [hW3, hW2, hW1]; rfl
    · rw [hW3, hW2, hW1]; rfl
  have hz1 : ¬ ((m : Int) = 0) := by omega
  have hz2 : ¬ ((i : Int) = (n : Int)) := by omega
  have hz3 : (cap : Int) < (n : Int) + (m : Int) := by omega
  have hw1 : IntKind.i64.wrap ((i : Int) + (m : Int)) = (i : Int) + (m : Int) := by rw [IntKind.wrap_i64]; omega
  have hw2 : IntKind.i64.wrap ((n : Int) + (m : Int)) = (n : Int) + (m : Int) := by rw [IntKind.wrap_i64]; omega
  have hw3 : IntKind.i64.wrap ((n : Int) + (m : Int) - (i : Int)) = (n : Int) + (m : Int) - (i : Int) := by rw [IntKind.wrap_i64]; omega
  have hb1 : (0 : Int) ≤ (i : Int) + (m : Int) := by omega
  have hin : i ≤ n := by omega
  have htn : ((i : Int) + (m : Int)).toNat = i + m := by omega
  have hb3 : (i : Int) ≤ (n : Int) := by omega
  have hGi : ¬ (G = i) := by omega
  have hGim : ¬ (G = i + m) := by omega
  have hci : ¬ (cap = i) := by omega
  have hG63 : G ≤ 9223372036854775807 := by unfold maxLen at hGm; omega
  have HD := hide hfin
  have HNW := hide hN
  have HA := hide hrz
  have HC1 := hide hcpA
  have HC2 := hide hcpB0
  have mixed : Tryd.prog.follows .mixedOrders = true := by kernel_rfl
  clear hfin hrz hcpA hcpB0 hrz0 g1 g2 g3 b1 b2 b3 s1 s2 s3 hW1 hW2 hW3 hc1 hc2 hc1l hc1t hROW hRs hRt hold hcellw hkk hik hN hG hGm hD hAl hRl hnl htk hcs hg hrow hvb hr1 hsz hi0 hz0 hzs hzb hm hnp
  go_enter Tryd.func110, Tryd.ntmps110
  go_wp2_with (first
    | (at_builtin; refine Lib.wpList_append_run _ rfl _ _ _ _ rfl _ _ rfl rfl _ _ (HA.out _) ?_)
    | (refine wpList_copy_runI _ rfl _ _ 23 23 rfl (.slice (some ⟨N, i * 4, none⟩) (n + m - i) (G - i)) (.slice (some ⟨vb, 0, none⟩) m 1) rfl rfl (HC1.out 3 (G - i)) ?_))
  go_region_law_o (refine step_copy_runI rfl _ _ 23 23 rfl (.slice (some ⟨N, (i + m) * 4, none⟩) (n + m - (i + m)) (G - (i + m))) (.slice (some ⟨g, i * 4, none⟩) (n - i) (cap - i)) (by simp [Act.eval, Act.put]) (by simp [Act.eval, Act.put]) (HC2.out (G - (i + m)) (cap - i)) ?_)
  go_wp2
  go_ret
  exact ⟨_, rfl, HD.out.1, HD.out.2, .inr (by rw [← HNW.out]; rfl)⟩

theorem insertT_any (lo i vb : Nat) (v : Value) (ps : List Th) (r : Th) (w : World) (hv : w.ownsRow lo 81 4 v ps.length (flat thE ps)) (hlo : lo ≤ w.heap.size) (hi : i ≤ ps.length) (hn : ps.length ≤ 1048576) (hvb : w.heap[vb]? = some (.cells (thE r).toArray 81 (0, 0))) (hne : some vb ≠ v.ownBlock) :
    Calls Tryd.prog 110 #[v, .int .i64 (i : Int), .slice (some ⟨vb, 0, none⟩) 1 1] w fun e w' => ∃ v', e = .returned v' ∧ w'.ownsRow lo 81 4 v' (ps.length + 1) (flat thE (ps.take i ++ [r] ++ ps.drop i)) ∧ w.grownBy w' v.ownBlock ∧ (v'.ownBlock = v.ownBlock ∨ v'.ownBlock = some w.heap.size) := by
  by_cases he : i = ps.length
  · rw [he]
    exact insT_end lo ps.length 1 vb v ps r w rfl rfl hlo hn hv hvb (thE_one r)
  · rcases hv.2 with ⟨_, h0⟩ | ⟨g, cap, cur, hve, _⟩
    · omega
    · subst hve
      have hne2 : vb ≠ g := fun e => hne (by rw [e]; rfl)
      by_cases hroom : ps.length + 1 ≤ cap
      · exact insT_shift lo g cap ps.length 1 i vb ps r w rfl rfl hv (by omega) hroom hvb hne2 (thE_one r)
      · exact insT_grow lo g cap ps.length 1 i vb ps r w rfl rfl hlo hn hv (by omega) (by omega) hvb (thE_one r)
end Go.Proofs.YtpiookjdeopmgaaDoor
