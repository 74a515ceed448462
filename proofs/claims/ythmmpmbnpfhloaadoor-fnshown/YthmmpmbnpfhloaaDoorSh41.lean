/-
  spec.TrueRoutes: its contract, over a right net and from a node that is up.
-/
import Derived.Test.YthmmpmbnpfhloaaDoorSh37
import Derived.Test.YthmmpmbnpfhloaaDoorSh40
namespace Go.Proofs.YthmmpmbnpfhloaaDoor
open Go.RowKit
set_option linter.unusedSimpArgs false
set_option linter.unusedVariables false

set_option maxRecDepth 100000 in
set_option maxHeartbeats 4000000 in
theorem strue_any (v1 v2 y z : Value) (N m : Nat) (ls : List Lk) (ts : List Th) (bs zs : List Bool) (w : World) (hok : netOkI ⟨(N : Int), ls, ts⟩ = true) (hN : 1 ≤ N) (hN6 : N ≤ 6) (hls : ls.length ≤ 12) (hts : ts.length ≤ 4)
    (htho : ∀ t ∈ ts, 1 ≤ t.o ∧ t.o ≤ (N : Int)) (h1 : LinksAt w v1 ls w.heap.size) (h2 : ThingsAt w v2 ts w.heap.size) (h3 : BoolsAt w y bs w.heap.size) (h4 : BoolsAt w z zs w.heap.size) (hbs : bs.length = ls.length) (hzs : zs.length = N) (hm : m < N) (hup : zs[m]? = some true) :
    Calls Tryd.prog 19 #[.agg #[.int .i64 (N : Int), v1, v2], y, z, .int .i64 ((m : Int) + 1)] w fun e w' => ∃ x qs, e = .returned x ∧ Hid (IsRoutes (idealD ls ts bs zs N) (areasL ls ((m : Int) + 1)) (bordB ls ((m : Int) + 1)) ((m : Int) + 1) (fstsQ qs)) ∧ RtsOwn w' w.heap.size w'.heap.size x qs ∧ Below w.heap.size w w' := by
  obtain ⟨a1, c1, rfl⟩ := h1.shape
  obtain ⟨a2, c2, rfl⟩ := h2.shape
  obtain ⟨a3, c3, rfl⟩ := h3.shape
  obtain ⟨a4, c4, rfl⟩ := h4.shape
  obtain ⟨ug, uo, uc0, huv, hug, ucell⟩ := h4.cell m true hup
  obtain ⟨rfl, rfl⟩ : a4 = some ⟨ug, uo, none⟩ ∧ c4 = uc0 := by cases huv; exact ⟨rfl, rfl⟩
  clear huv
  have hw0 := heap_alloc_new w (.cells #[.int .i64 (N : Int), .slice a1 ls.length c1, .slice a2 ts.length c2] 45)
  have bw := (Below.refl w.heap.size w).alloc (Nat.le_refl _) (.cells #[.int .i64 (N : Int), .slice a1 ls.length c1, .slice a2 ts.length c2] 45)
  obtain ⟨W1, hW1⟩ : ∃ W1, W1 = w.alloc (.cells #[.int .i64 (N : Int), .slice a1 ls.length c1, .slice a2 ts.length c2] 45) := ⟨_, rfl⟩
  rw [← hW1] at hw0 bw
  have HW1 := hide hW1
  clear hW1
  have HST := hide (ideal_store (bs := bs) (zs := zs) hok)
  have HID := hide (sideal_any (.slice a1 ls.length c1) (.slice a2 ts.length c2) (.slice a3 bs.length c3) (.slice (some ⟨ug, uo, none⟩) zs.length c4) N ls ts bs zs W1 hok hN hN6 hls hts htho (RowAt.then h1 bw) (RowAt.then h2 bw) (RowAt.then h3 bw) (RowAt.then h4 bw) hbs hzs)
  have HAL := hide (show (areasL ls ((m : Int) + 1)).length ≤ 1048576 from Nat.le_trans (areasL_len ls _) (by omega))
  have HL1 := hide (RowAt.then h1 bw)
  have hz := lt_of_heap hw0
  have hwg := bw.size
  have HW0 := hide hw0
  have BW := hide bw
  have UC := hide ucell
  have hmN : (m : Int) < (N : Int) := by omega
  have hml : (m : Int) < (zs.length : Int) := by omega
  have hinb : inB ((m : Int) + 1) 1 (N : Int) = true := by simp [inB]; omega
  have HIN := hide (fun W => in_any ((m : Int) + 1) 1 (N : Int) W)
  rw [hinb] at HIN
  clear h1 h2 h3 h4 bw hw0 ucell hup htho hok hinb hbs hzs
  go_enter Tryd.func19, Tryd.ntmps19
  go_wp2_with fail
  rw [← HW1.out]
  refine HID.out.mono ?_
  rintro e w2 ⟨o, qs, rfl, hf, ht, hown, b2⟩
  obtain ⟨oa, oc, rfl⟩ := owns_lenS hown.row
  rw [← hf] at HST
  have HF := hide hf
  have HO2 := hide hown
  have hs2 := b2.size
  have G2 := hide ((b2.block _ hz).trans HW0.out)
  have B2 := hide (BW.out.trans (b2.mono hwg))
  have u2 : w2.cell? ⟨ug, uo + m, none⟩ = some (.bool true) := by rw [B2.out.cell (p := ⟨ug, uo + m, none⟩) hug]; exact UC.out
  have HL2' := hide (RowAt.then HL1.out b2)
  have HL2 := hide (RowAt.then HL2'.out (Below.refl w2.heap.size w2).drew)
  have hz2 := lt_of_heap G2.out
  have s0 := cells_at G2.out 0
  have s1 := cells_at G2.out 1
  have s2 := cells_at G2.out 2
  simp only [List.getElem?_toArray, List.getElem?_cons_succ, List.getElem?_cons_zero] at s0 s1 s2
  clear hf hown b2 HW0 HW1 HL1 UC HID hz
  have hz := hz2
  go_wp2_with fail
  refine (HIN.out _).mono ?_
  rintro e w3 ⟨rfl, rfl⟩
  go_wp2_with fail
  refine wp_region_start (S := (fun (W : World) => W.cell? ⟨w.heap.size, 0, none⟩ = some (.int .i64 (N : Int)) ∧ W.cell? ⟨w.heap.size, 1, none⟩ = some (.slice a1 ls.length c1) ∧ W.cell? ⟨w.heap.size, 2, none⟩ = some (.slice a2 ts.length c2))) (by kernel_rfl) 10 rfl ⟨s0, s1, s2⟩ (fun ops hops hHeld => ?_)
  refine take_do 0 (oi := ?_) (v := ?_) ?_ (by rw [hops.out]; kernel_rfl) ?_ ?_ ?_ (by assumption) ?_
  rotate_left 2
  · rw [hops.out]; simp only [List.getElem?_toArray, List.getElem?_cons_succ, List.getElem?_cons_zero]; rfl
  · rw [hops.out]; kernel_rfl
  · intro W hW; (try dsimp only at hW); go_simp <;> with_reducible rfl
  · exact fun _ _ _ h => h
  try simp only [Act.put, List.setIfInBounds_toArray, List.set_cons_zero, List.set_cons_succ]
  refine take_do 1 (oi := ?_) (v := ?_) ?_ (by rw [hops.out]; kernel_rfl) ?_ ?_ ?_ (by assumption) ?_
  rotate_left 2
  · rw [hops.out]; simp only [List.getElem?_toArray, List.getElem?_cons_succ, List.getElem?_cons_zero]; rfl
  · rw [hops.out]; kernel_rfl
  · intro W hW; (try dsimp only at hW); go_simp <;> with_reducible rfl
  · exact fun _ _ _ h => h
  try simp only [Act.put, List.setIfInBounds_toArray, List.set_cons_zero, List.set_cons_succ]
  refine take_do 2 (oi := ?_) (v := ?_) ?_ (by rw [hops.out]; kernel_rfl) ?_ ?_ ?_ (by assumption) ?_
  rotate_left 2
  · rw [hops.out]; simp only [List.getElem?_toArray, List.getElem?_cons_succ, List.getElem?_cons_zero]; rfl
  · rw [hops.out]; kernel_rfl
  · intro W hW; (try dsimp only at hW); go_simp <;> with_reducible rfl
  · exact fun _ _ _ h => h
  try simp only [Act.put, List.setIfInBounds_toArray, List.set_cons_zero, List.set_cons_succ]
  refine take_do 4 (oi := ?_) (v := ?_) ?_ (by rw [hops.out]; kernel_rfl) ?_ ?_ ?_ (by assumption) ?_
  rotate_left 2
  · rw [hops.out]; simp only [List.getElem?_toArray, List.getElem?_cons_succ, List.getElem?_cons_zero]; rfl
  · rw [hops.out]; kernel_rfl
  · intro W hW; (try dsimp only at hW); go_simp <;> with_reducible rfl
  · exact fun _ _ _ h => h
  try simp only [Act.put, List.setIfInBounds_toArray, List.set_cons_zero, List.set_cons_succ]
  refine take_do 5 (oi := ?_) (v := ?_) ?_ (by rw [hops.out]; kernel_rfl) ?_ ?_ ?_ (by assumption) ?_
  rotate_left 2
  · rw [hops.out]; simp only [List.getElem?_toArray, List.getElem?_cons_succ, List.getElem?_cons_zero]; rfl
  · rw [hops.out]; kernel_rfl
  · intro W hW; (try dsimp only at hW); go_simp <;> with_reducible rfl
  · exact fun _ _ _ h => h
  try simp only [Act.put, List.setIfInBounds_toArray, List.set_cons_zero, List.set_cons_succ]
  refine take_do 7 (oi := ?_) (v := ?_) ?_ (by rw [hops.out]; kernel_rfl) ?_ ?_ ?_ (by assumption) ?_
  rotate_left 2
  · rw [hops.out]; simp only [List.getElem?_toArray, List.getElem?_cons_succ, List.getElem?_cons_zero]; rfl
  · rw [hops.out]; kernel_rfl
  · intro W hW; (try dsimp only at hW); go_simp <;> with_reducible rfl
  · exact fun _ _ _ h => h
  try simp only [Act.put, List.setIfInBounds_toArray, List.set_cons_zero, List.set_cons_succ]
  refine take_call 3 (oi := ?_) ?_ (by rw [hops.out]; kernel_rfl) ?_ ?_
  rotate_left 1
  · rw [hops.out]; simp only [List.getElem?_toArray, List.getElem?_cons_succ, List.getElem?_cons_zero]; rfl
  · rw [hops.out]; kernel_rfl
  intro K hK
  go_simp
  refine (sareas_any (.int .i64 (N : Int)) (.slice a1 ls.length c1) (.slice a2 ts.length c2) ls ((m : Int) + 1) _ (by omega) HL2.out).mono ?_
  rintro e wa ⟨u, rfl, hu, ba⟩
  obtain ⟨ua, uc, rfl⟩ := owns_lenS hu
  rw [← flat_int] at hu
  have HU := hide hu
  have hsa := ba.size
  clear hu
  refine hK.out _ _ ?_ (fun hHeld => ?_)
  · obtain ⟨m0, m1, m2⟩ := hHeld
    exact ⟨(ba.cell hz).trans m0, (ba.cell hz).trans m1, (ba.cell hz).trans m2⟩
  clear hK K
  try simp only [Act.put, List.setIfInBounds_toArray, List.set_cons_zero, List.set_cons_succ]
  have HLA := hide (RowAt.then HL2.out ba)
  refine take_call 6 (oi := ?_) ?_ (by rw [hops.out]; kernel_rfl) ?_ ?_
  rotate_left 1
  · rw [hops.out]; simp only [List.getElem?_toArray, List.getElem?_cons_succ, List.getElem?_cons_zero]; rfl
  · rw [hops.out]; kernel_rfl
  intro K hK
  go_simp
  refine (sborder_any (.int .i64 (N : Int)) (.slice a1 ls.length c1) (.slice a2 ts.length c2) ls ((m : Int) + 1) _ (by omega) HLA.out).mono ?_
  rintro e wb ⟨rfl, bb⟩
  have hsb := bb.size
  refine hK.out _ _ ?_ (fun hHeld => ?_)
  · obtain ⟨m0, m1, m2⟩ := hHeld
    exact ⟨(bb.cell (Nat.lt_of_lt_of_le hz ba.size)).trans m0, (bb.cell (Nat.lt_of_lt_of_le hz ba.size)).trans m1, (bb.cell (Nat.lt_of_lt_of_le hz ba.size)).trans m2⟩
  clear hK K
  try simp only [Act.put, List.setIfInBounds_toArray, List.set_cons_zero, List.set_cons_succ]
  have HUB := hide (hops_of (owns_below HU.out bb (Nat.le_refl _)))
  have HOB := hide (HO2.out.below ((Below.refl w2.heap.size w2).drew.trans (ba.trans (bb.mono ba.size))) (Nat.le_refl _))
  refine take_call 8 (oi := ?_) ?_ (by rw [hops.out]; kernel_rfl) ?_ ?_
  rotate_left 1
  · rw [hops.out]; simp only [List.getElem?_toArray, List.getElem?_cons_succ, List.getElem?_cons_zero]; rfl
  · rw [hops.out]; kernel_rfl
  intro K hK
  go_simp
  refine (sroutes_any (.slice oa qs.length oc) (.slice ua (areasL ls ((m : Int) + 1)).length uc) qs (areasL ls ((m : Int) + 1)) wb.heap.size (bordB ls ((m : Int) + 1)) ((m : Int) + 1) wb (HOB.out.wide (Nat.zero_le _) (by have : w2.drew.heap.size = w2.heap.size := rfl; omega)).in HUB.out (Nat.le_refl _) (by omega) HAL.out HST.out).mono ?_
  rintro e wc ⟨x, rs, rfl, hir, hrs, bc⟩
  obtain ⟨xa, xc, rfl⟩ := owns_lenS hrs.row
  have HIR := hide hir
  have HRS := hide hrs
  clear hir hrs
  refine hK.out _ _ ?_ (fun hHeld => ?_)
  · obtain ⟨m0, m1, m2⟩ := hHeld
    exact ⟨(bc.cell (Nat.lt_of_lt_of_le hz (Nat.le_trans ba.size bb.size))).trans m0, (bc.cell (Nat.lt_of_lt_of_le hz (Nat.le_trans ba.size bb.size))).trans m1, (bc.cell (Nat.lt_of_lt_of_le hz (Nat.le_trans ba.size bb.size))).trans m2⟩
  clear hK K
  try simp only [Act.put, List.setIfInBounds_toArray, List.set_cons_zero, List.set_cons_succ]
  refine take_do 9 (oi := ?_) (v := ?_) ?_ (by rw [hops.out]; kernel_rfl) ?_ ?_ ?_ (by assumption) ?_
  rotate_left 2
  · rw [hops.out]; simp only [List.getElem?_toArray, List.getElem?_cons_succ, List.getElem?_cons_zero]; rfl
  · rw [hops.out]; kernel_rfl
  · intro W hW; (try dsimp only at hW); go_simp <;> with_reducible rfl
  · exact fun _ _ _ h => h
  try simp only [Act.put, List.setIfInBounds_toArray, List.set_cons_zero, List.set_cons_succ]
  refine wpAnyH_done (by rw [hops.out]; kernel_rfl) ?_ _
  clear hops ops
  have B9 := hide (B2.out.drew.trans ((ba.trans ((bb.mono ba.size).trans (bc.mono (Nat.le_trans ba.size bb.size)))).mono B2.out.size))
  have hfin : w.heap.size ≤ wb.heap.size := by have := B2.out.size; have h1 := ba.size; have h2 : w2.drew.heap.size = w2.heap.size := rfl; omega
  clear s0 s1 s2 u2 ba bb bc
  go_wp2
  go_ret
  rw [HF.out] at HIR
  exact ⟨_, rs, rfl, HIR, HRS.out.wide hfin (Nat.le_refl _), B9.out⟩
end Go.Proofs.YthmmpmbnpfhloaaDoor
