/-
  spec.l14Event: its contract.
-/
import Derived.Test.YtpiookjdeopmgaaDoorRd14
namespace Go.Proofs.YtpiookjdeopmgaaDoor
open Go.RowKit
set_option linter.unusedSimpArgs false
set_option linter.unusedVariables false

/-- the event of the k-th word -/
def evW (k : Nat) (z : Int) : EvD := if 1 ≤ k ∧ k ≤ 5 then ⟨(k : Int) + 1, 1, z, ⟨#[]⟩⟩ else ⟨(k : Int) + 1, z, 0, ⟨#[]⟩⟩
noncomputable def evF (p : List (List UInt8)) : Option EvD :=
  if p.getD 0 [] = wBytes ∧ p.length = 3 then
    (if okN (p.getD 1 []) && unB (bs (p.getD 2 [])) then some ⟨9, numI (p.getD 1 []), 0, unX (bs (p.getD 2 []))⟩ else none)
  else if wds.findIdx (· == p.getD 0 []) < 8 ∧ numsN 1 (p.drop 1) = true then some (evW (wds.findIdx (· == p.getD 0 [])) (numI ((p.drop 1).getD 0 [])))
  else none

theorem StrsAt.cellD {W : World} {v : Value} {l : List (List UInt8)} {B : Nat} (h : StrsAt W v l B) (i : Nat) (hi : i < l.length) : ∃ b off cap, v = .slice (some ⟨b, off, none⟩) l.length cap ∧ b < B ∧ W.cell? ⟨b, off + i, none⟩ = some (.string (bs (l.getD i []))) := by
  obtain ⟨b, off, cap, h1, h2, h3⟩ := h.cell i _ (List.getElem?_eq_getElem hi)
  refine ⟨b, off, cap, h1, h2, ?_⟩
  rw [h3]
  simp [List.getD, List.getElem?_eq_getElem hi]

theorem set_ev {w : World} {p : Nat} {u0 u1 u2 u3 v0 v1 v2 v3 : Value} {T : TypeId} (h : w.heap[p]? = some (.cells #[u0, u1, u2, u3] T)) :
    ((((w.setCell ⟨p, 0, none⟩ v0).setCell ⟨p, 1, none⟩ v1).setCell ⟨p, 2, none⟩ v2).setCell ⟨p, 3, none⟩ v3).heap[p]? = some (.cells #[v0, v1, v2, v3] T) :=
  heap_setCell_same _ _ 3 _ _ v3 (heap_setCell_same _ _ 2 _ _ v2 (heap_setCell_same _ _ 1 _ _ v1 (heap_setCell_same _ _ 0 _ _ v0 h)))

set_option maxRecDepth 100000 in
set_option maxHeartbeats 4000000 in
theorem sevent_any (v : Value) (ls : List (List UInt8)) (w : World) (hv : StrsAt w v ls w.heap.size) (h0 : 0 < ls.length) (hn : ls.length ≤ 1048576) (hl : ∀ l ∈ ls, l.length ≤ 1048576) (hcp : ∀ a n c, v = .slice a n c → n ≤ c) :
    Calls Tryd.prog 24 #[v] w fun e w' => ∃ u : EvD, e = .returned (.tuple #[evV u, .bool (evF ls).isSome]) ∧ (∀ x, evF ls = some x → u = x) ∧ Below w.heap.size w w' := by
  obtain ⟨b, off, cap, rfl, hb, hc0⟩ := hv.cellD 0 h0
  have hcp1 := hcp _ _ _ rfl
  clear hcp
  have HV := hide hv
  have HL := hide hl
  clear hv hl
  obtain ⟨G, hG⟩ : ∃ G, G = evF ls := ⟨_, rfl⟩
  rw [← hG]
  have GL : Hid (G = evF ls) := hG
  clear hG
  obtain ⟨t0, ht0⟩ : ∃ t, t = bs (ls.getD 0 []) := ⟨_, rfl⟩
  rw [← ht0] at hc0
  have hl0 : t0.toList = ls.getD 0 [] := by rw [ht0, bs_toL]
  have T0 := hide ht0
  clear ht0
  simp only [Nat.add_zero] at hc0
  have hki : (0 : Int) < (ls.length : Int) := by omega
  by_cases hbt : t0.toList = wBytes ∧ ls.length = 3
  · obtain ⟨hw, h3⟩ := hbt
    obtain ⟨b', off', cap', hvv, -, hc1⟩ := HV.out.cellD 1 (by omega)
    obtain ⟨rfl, rfl, rfl⟩ : b = b' ∧ off = off' ∧ cap = cap' := by cases hvv; exact ⟨rfl, rfl, rfl⟩
    obtain ⟨b', off', cap', hvv2, -, hc2⟩ := HV.out.cellD 2 (by omega)
    obtain ⟨rfl, rfl, rfl⟩ : b = b' ∧ off = off' ∧ cap = cap' := by cases hvv2; exact ⟨rfl, rfl, rfl⟩
    clear hvv hvv2
    obtain ⟨l1, hl1⟩ : ∃ l, l = ls.getD 1 [] := ⟨_, rfl⟩
    obtain ⟨l2, hl2⟩ : ∃ l, l = ls.getD 2 [] := ⟨_, rfl⟩
    obtain ⟨t1, ht1⟩ : ∃ t, t = bs l1 := ⟨_, rfl⟩
    obtain ⟨t2, ht2⟩ : ∃ t, t = bs l2 := ⟨_, rfl⟩
    rw [← hl1, ← ht1] at hc1
    rw [← hl2, ← ht2] at hc2
    have hs1 : t1.size ≤ 1048576 := by
      rw [ht1, hl1]
      exact HL.out _ (getD_mem (by omega))
    have hs2 : t2.size ≤ 1048576 := by
      rw [ht2, hl2]
      exact HL.out _ (getD_mem (by omega))
    have hr1 : rdDV t1 = .tuple #[.int .i64 (rdN l1), .bool (okN l1)] := by rw [ht1, rd_of]
    have hr2 := unW_of t2
    have TT := hide (And.intro ht1 ht2)
    have LL := hide (And.intro hl1 hl2)
    have hG := hide (show G = if okN l1 && unB t2 then some ⟨9, numI l1, 0, unX t2⟩ else none by
      rw [GL.out, evF, if_pos ⟨by rw [← hl0]; exact hw, h3⟩, ← hl1, ← hl2, ← ht2])
    clear ht1 ht2 hl1 hl2
    obtain ⟨n1, hn1⟩ : ∃ n, n = ls.length := ⟨_, rfl⟩
    rw [h3] at hki ⊢
    clear hn1 n1
    generalize hq1 : okN l1 = q1 at hr1 hG
    generalize hq2 : unB t2 = q2 at hr2 hG
    have Q1 := hide hq1
    clear hq1 hq2 h3 hl0
    go_enter Tryd.func24, Tryd.ntmps24
    have hw' := hide hw
    have hwb : (t0.toList == [98, 121, 116, 101, 115]) = true := by rw [hw]; rfl
    go_wp2_with (first
      | (go_at_call 44; refine (srd_any t1 _ hs1).mono ?_; rintro e w1 ⟨he, b1⟩; rw [hr1] at he; subst he
         have h1s := b1.size
         simp at h1s
         have hx1 : w1.heap[w.heap.size]? = some (.cells #[.int .i64 0, .int .i64 0, .int .i64 0, .string ⟨#[]⟩] 53) := by
           rw [b1.block _ (by simp; omega), Below.heap_alloc _ _ _ (by simp), heap_alloc_new]
         have n1 : Below w.heap.size w w1 := (below_two _ _).trans (b1.mono (by simp; omega))
         have hd2 : w1.cell? ⟨b, off + 2, none⟩ = some (.string t2) := by rw [n1.cell (p := ⟨b, off + 2, none⟩) hb]; exact hc2
         clear b1)
      | (go_at_call 48; refine (suh_any t2 _ hs2).mono ?_; rintro e w2 ⟨he, b2⟩; rw [hr2] at he; subst he
         have hx2 := (b2.block _ (lt_of_heap hx1)).trans hx1
         have n2 := n1.trans (b2.mono n1.size)
         have fz2 := fun j => frozen_at hx2 j
         have d0 : w2.cell? ⟨w.heap.size, 0, none⟩ = some (.int .i64 0) := by simp [World.cell?, hx2]
         have d1 : w2.cell? ⟨w.heap.size, 1, none⟩ = some (.int .i64 0) := by simp [World.cell?, hx2]
         have d2 : w2.cell? ⟨w.heap.size, 2, none⟩ = some (.int .i64 0) := by simp [World.cell?, hx2]
         have d3 : w2.cell? ⟨w.heap.size, 3, none⟩ = some (.string ⟨#[]⟩) := by simp [World.cell?, hx2]
         clear b2 hx1 n1 hd2))
    · rename_i hq
      have y4 := set_ev (v0 := .int .i64 9) (v1 := .int .i64 (rdN l1)) (v2 := .int .i64 0) (v3 := .string (unX t2)) hx2
      have n3 := (((n2.setCell (p := ⟨w.heap.size, 0, none⟩) (Nat.le_refl _) (.int .i64 9)).setCell (p := ⟨w.heap.size, 1, none⟩) (Nat.le_refl _) (.int .i64 (rdN l1))).setCell (p := ⟨w.heap.size, 2, none⟩) (Nat.le_refl _) (.int .i64 0)).setCell (p := ⟨w.heap.size, 3, none⟩) (Nat.le_refl _) (.string (unX t2))
      generalize ((((w2.setCell ⟨w.heap.size, 0, none⟩ (.int .i64 9)).setCell ⟨w.heap.size, 1, none⟩ (.int .i64 (rdN l1))).setCell ⟨w.heap.size, 2, none⟩ (.int .i64 0)).setCell ⟨w.heap.size, 3, none⟩ (.string (unX t2))) = W at y4 n3 ⊢
      clear d0 d1 d2 d3 fz2 hx2 n2
      have e2 := hide (show rdN l1 = numI l1 by rw [rdN, Q1.out, hq]; rfl)
      cases q2
      · have g := hide (show G = none by rw [hG.out, hq]; rfl)
        refine bodyPost_ret (results_cell_row_tmp14 rfl _ _ w.heap.size 53 #[.int .i64 9, .int .i64 (rdN l1), .int .i64 0, .string (unX t2)] (0, 0) _ rfl y4 Tryd.underlying53 rfl (by kernel_rfl)) rfl ?_
        exact ⟨⟨9, (rdN l1), 0, (unX t2)⟩, by rw [g.out]; rfl, (fun x h => by rw [g.out] at h; cases h), n3⟩
      · have g := hide (show G = some ⟨9, numI l1, 0, unX t2⟩ by rw [hG.out, hq]; rfl)
        refine bodyPost_ret (results_cell_row_tmp14 rfl _ _ w.heap.size 53 #[.int .i64 9, .int .i64 (rdN l1), .int .i64 0, .string (unX t2)] (0, 0) _ rfl y4 Tryd.underlying53 rfl (by kernel_rfl)) rfl ?_
        exact ⟨⟨9, (rdN l1), 0, (unX t2)⟩, by rw [g.out]; rfl, (fun x h => by rw [g.out] at h; cases h; rw [e2.out]), n3⟩
    · rename_i hq
      have y4 := set_ev (v0 := .int .i64 9) (v1 := .int .i64 (rdN l1)) (v2 := .int .i64 0) (v3 := .string (unX t2)) hx2
      have n3 := (((n2.setCell (p := ⟨w.heap.size, 0, none⟩) (Nat.le_refl _) (.int .i64 9)).setCell (p := ⟨w.heap.size, 1, none⟩) (Nat.le_refl _) (.int .i64 (rdN l1))).setCell (p := ⟨w.heap.size, 2, none⟩) (Nat.le_refl _) (.int .i64 0)).setCell (p := ⟨w.heap.size, 3, none⟩) (Nat.le_refl _) (.string (unX t2))
      generalize ((((w2.setCell ⟨w.heap.size, 0, none⟩ (.int .i64 9)).setCell ⟨w.heap.size, 1, none⟩ (.int .i64 (rdN l1))).setCell ⟨w.heap.size, 2, none⟩ (.int .i64 0)).setCell ⟨w.heap.size, 3, none⟩ (.string (unX t2))) = W at y4 n3 ⊢
      clear d0 d1 d2 d3 fz2 hx2 n2
      have e1 : q1 = false := by simpa using hq
      have g := hide (show G = none by rw [hG.out, e1]; rfl)
      refine bodyPost_ret (results_cell_row_tmp14 rfl _ _ w.heap.size 53 #[.int .i64 9, .int .i64 (rdN l1), .int .i64 0, .string (unX t2)] (0, 0) _ rfl y4 Tryd.underlying53 rfl (by kernel_rfl)) rfl ?_
      exact ⟨⟨9, (rdN l1), 0, (unX t2)⟩, by rw [g.out]; rfl, (fun x h => by rw [g.out] at h; cases h), n3⟩
  · clear hl0
    have hcase : ((t0.toList == [98, 121, 116, 101, 115]) = true ∧ ((ls.length : Int) == 3) = false) ∨ (t0.toList == [98, 121, 116, 101, 115]) = false := by
      by_cases h : t0.toList = wBytes
      · left
        have : ¬ ls.length = 3 := fun h3 => hbt ⟨h, h3⟩
        exact ⟨by rw [h]; rfl, by simp; omega⟩
      · right
        simpa using h
    have NB := hide hbt
    clear hbt
    go_enter Tryd.func24, Tryd.ntmps24
    rcases hcase with ⟨hca, hcb⟩ | hca
    all_goals
      go_wp2
      go_loopw [9] (fun i wr => ∃ k : Nat, k ≤ 8 ∧ i = .int .i64 k ∧ Hid (∀ j, j < k → wds.getD j [] ≠ ls.getD 0 []) ∧ wr.heap[w.heap.size]? = some (.cells #[.int .i64 0, .int .i64 0, .int .i64 0, .string ⟨#[]⟩] 53) ∧ wr.heap[w.heap.size + 1]? = some (.cells wdsV 9) ∧ Below w.heap.size w wr) (fun i _ => 8 - (intOf i).toNat)
      case atStart =>
        refine ⟨0, by omega, rfl, (fun j hj => by omega), ?_, ?_, below_two _ _⟩
        · rw [Below.heap_alloc _ _ _ (by simp), heap_alloc_new]
        · have h := heap_alloc_new (w.alloc (.cells #[.int .i64 0, .int .i64 0, .int .i64 0, .string ⟨#[]⟩] 53)) (.cells wdsV 9)
          simpa using h
      case round =>
        obtain ⟨k, hk, rfl, HN, hx, hr, hnx⟩ := hrel
        have hsz := hnx.size
        have hr1 := lt_of_heap hr
        by_cases hlt : k < 8
        · obtain ⟨tk, htk⟩ : ∃ t, t = bs (wds.getD k []) := ⟨_, rfl⟩
          have dk : wr.cell? ⟨w.heap.size + 1, k, none⟩ = some (.string tk) := by rw [cells_at hr, wdsV_at k hlt, htk]
          have e0 : wr.cell? ⟨b, off, none⟩ = some (.string t0) := by rw [hnx.cell (p := ⟨b, off, none⟩) hb]; exact hc0
          have hk1 : (0 : Int) ≤ (k : Int) := by omega
          have hk2 : (k : Int) < 8 := by omega
          have TK := hide htk
          clear htk
          by_cases hm : tk = t0
          · subst hm
            have hki2 : (1 : Int) ≤ (ls.length : Int) := by omega
            have hcp2 : (ls.length : Int) ≤ (cap : Int) := by omega
            go_wp2_with (first | go_quiet (fail))
            all_goals
              have hdr := below_drewN hnx nq
              have hxd : (wr.drewN nq).heap[w.heap.size]? = some (.cells #[.int .i64 0, .int .i64 0, .int .i64 0, .string ⟨#[]⟩] 53) := hx
              refine (snums_any _ (ls.drop 1) (wr.drewN nq) (by first | exact strs_nil1 (by omega) | exact (StrsAt.tail (RowAt.then HV.out hdr) h0 _)) (by simp; omega) (fun l h => HL.out l (List.mem_of_mem_drop h))).mono ?_
              rintro e w3 ⟨u, rfl, hou, b3⟩
              have hs3 := b3.size
              have hx3 : w3.heap[w.heap.size]? = some (.cells #[.int .i64 0, .int .i64 0, .int .i64 0, .string ⟨#[]⟩] 53) := (b3.block _ (lt_of_heap hxd)).trans hxd
              have n3 := hdr.trans (b3.mono hdr.size)
              obtain ⟨ua, uc, rfl⟩ := owns_len hou
              have hkx : wds.findIdx (· == ls.getD 0 []) = k := by
                have hw8 : k < wds.length := hlt
                rw [List.findIdx_eq hw8]
                refine ⟨?_, fun j hj => ?_⟩
                · have h1 := TK.out
                  have h2 := T0.out
                  have h3 : wds.getD k [] = ls.getD 0 [] := by
                    have := congrArg ByteArray.toList (h1.symm.trans h2)
                    rwa [bs_toL, bs_toL] at this
                  rw [← h3]
                  simp [List.getD_eq_getElem?_getD, List.getElem?_eq_getElem hw8]
                · have h4 := HN.out j hj
                  have hj8 : j < wds.length := by omega
                  rw [List.getD_eq_getElem?_getD, List.getElem?_eq_getElem hj8] at h4
                  simpa using h4
              have hev := hide (show G = if numsN 1 (ls.drop 1) = true then some (evW k (numI ((ls.drop 1).getD 0 []))) else none by
                rw [GL.out, evF, if_neg (fun h => NB.out ⟨by rw [T0.out, bs_toL]; exact h.1, h.2⟩), hkx]
                by_cases hnn : numsN 1 (ls.drop 1) = true
                · rw [if_pos ⟨hlt, hnn⟩, if_pos hnn]
                · rw [if_neg (fun h => hnn h.2), if_neg hnn])
              clear hkx b3 hxd hdr hx dk e0 hr hnx
              have fz2 := fun j => frozen_at hx3 j
              have d0 : w3.cell? ⟨w.heap.size, 0, none⟩ = some (.int .i64 0) := by rw [cells_at hx3]; rfl
              have d1 : w3.cell? ⟨w.heap.size, 1, none⟩ = some (.int .i64 0) := by rw [cells_at hx3]; rfl
              have d2 : w3.cell? ⟨w.heap.size, 2, none⟩ = some (.int .i64 0) := by rw [cells_at hx3]; rfl
              have d3 : w3.cell? ⟨w.heap.size, 3, none⟩ = some (.string ⟨#[]⟩) := by rw [cells_at hx3]; rfl
              by_cases hnn : numsN 1 (ls.drop 1) = true
              · have hln : (ls.drop 1).length = 1 ∧ numsB (ls.drop 1) = true := by
                  simp only [numsN, Bool.and_eq_true, decide_eq_true_eq] at hnn
                  exact ⟨by omega, hnn.2⟩
                obtain ⟨Z, hZ⟩ : ∃ Z, Z = numI ((ls.drop 1).getD 0 []) := ⟨_, rfl⟩
                have hnl : numsL (ls.drop 1) = [Z] := by
                  rw [numsL_yes hln.2, hZ]
                  obtain ⟨z, hz⟩ := List.length_eq_one_iff.1 hln.1
                  rw [hz]
                  rfl
                have g := hide (show G = some (evW k Z) by rw [hev.out, if_pos hnn, hZ])
                rw [hnl] at hou ⊢
                rw [hln.2]
                simp only [List.length_cons, List.length_nil, Nat.zero_add] at hou ⊢
                obtain ⟨g1, gc, hsl, hg1, hgl⟩ := owns_shape hou (by omega)
                obtain ⟨rfl, rfl⟩ : ua = some ⟨g1, 0, none⟩ ∧ uc = gc := by cases hsl; exact ⟨rfl, rfl⟩
                have hz0 : w3.cell? ⟨g1, 0, none⟩ = some (.int .i64 Z) := by
                  have := hou.cellAt 0 (by omega)
                  simpa [intsOf] using this
                clear hou hnl hln hnn hZ hsl
                have hw3l : w.heap.size < w3.heap.size := lt_of_heap hx3
                have hne4 : w.heap.size ≠ w3.heap.size := by omega
                have hne5 : (w.heap.size == w3.heap.size) = false := by simp; omega
                have hx4 : ∀ o, (w3.alloc o).heap[w.heap.size]? = some (.cells #[.int .i64 0, .int .i64 0, .int .i64 0, .string ⟨#[]⟩] 53) := fun o => by rw [Below.heap_alloc _ _ _ hw3l]; exact hx3
                have n4o : ∀ o, Below w.heap.size w (w3.alloc o) := fun o => n3.alloc n3.size o
                by_cases h15 : 1 ≤ k ∧ k ≤ 5
                · have hin : inB (1 + (k : Int)) 2 6 = true := by simp [inB]; omega
                  go_wp2_with fail
                  obtain ⟨W5, hW5⟩ : ∃ W5, W5 = w3.alloc (.cells #[.int .i64 (1 + (k : Int)), .int .i64 1, .int .i64 0, .string ⟨#[]⟩] 53) := ⟨_, rfl⟩
                  have bx5 := heap_alloc_new w3 (.cells #[.int .i64 (1 + (k : Int)), .int .i64 1, .int .i64 0, .string ⟨#[]⟩] 53)
                  have rx5 := hx4 (.cells #[.int .i64 (1 + (k : Int)), .int .i64 1, .int .i64 0, .string ⟨#[]⟩] 53)
                  have n5 := n4o (.cells #[.int .i64 (1 + (k : Int)), .int .i64 1, .int .i64 0, .string ⟨#[]⟩] 53)
                  have gz5 : W5.cell? ⟨g1, 0, none⟩ = some (.int .i64 Z) := by
                    rw [hW5, ((Below.refl w3.heap.size w3).alloc (Nat.le_refl _) _).cell (p := ⟨g1, 0, none⟩) hgl]
                    exact hz0
                  rw [← hW5] at bx5 rx5 n5 ⊢
                  have hzw : w.heap.size ≠ w3.heap.size := hne4
                  clear hW5 hx4 n4o hx3 d0 d1 d2 d3 fz2 hz0 n3 hs3 hne5
                  generalize w3.heap.size = z at bx5 hgl hzw hw3l hne4 ⊢
                  have HN5 := hide n5
                  have HRX := hide rx5
                  have e0 := cells_at bx5 0
                  have e1 := cells_at bx5 1
                  have e2 := cells_at bx5 2
                  have e3 := cells_at bx5 3
                  have fe := frozen_at bx5
                  have r0 := cells_at rx5 0
                  have r1 := cells_at rx5 1
                  have r2 := cells_at rx5 2
                  have r3 := cells_at rx5 3
                  have fr := frozen_at rx5
                  simp only [List.getElem?_toArray, List.getElem?_cons_succ, List.getElem?_cons_zero] at e0 e1 e2 e3 r0 r1 r2 r3
                  clear bx5 rx5 n5
                  refine (in_any _ _ _ _).mono ?_
                  rintro e w' ⟨rfl, rfl⟩
                  rw [hin]
                  go_wp2
                  have hy : (W5.setCell ⟨z, 2, none⟩ (.int .i64 Z)).heap[w.heap.size]? = some (.cells #[.int .i64 0, .int .i64 0, .int .i64 0, .string ⟨#[]⟩] 53) := by
                    rw [heap_setCell_other _ ⟨z, 2, none⟩ _ _ hzw]
                    exact HRX.out
                  refine bodyPost_ret (results_cell_row_tmp14 rfl _ _ w.heap.size 53 #[.int .i64 (1 + (k : Int)), .int .i64 1, .int .i64 Z, .string ⟨#[]⟩] (0, 0) _ rfl (set_ev hy) Tryd.underlying53 rfl (by kernel_rfl)) rfl ?_
                  exact ⟨⟨(1 + (k : Int)), 1, Z, ⟨#[]⟩⟩, by rw [g.out]; rfl, (fun x h => by rw [g.out] at h; cases h; simp [evW, h15]; omega), ((((HN5.out.setCell (p := ⟨z, 2, none⟩) (Nat.le_of_lt hw3l) _).setCell (p := ⟨w.heap.size, 0, none⟩) (Nat.le_refl _) _).setCell (p := ⟨w.heap.size, 1, none⟩) (Nat.le_refl _) _).setCell (p := ⟨w.heap.size, 2, none⟩) (Nat.le_refl _) _).setCell (p := ⟨w.heap.size, 3, none⟩) (Nat.le_refl _) _⟩
                · have hin : inB (1 + (k : Int)) 2 6 = false := by simp [inB]; omega
                  go_wp2_with fail
                  obtain ⟨W5, hW5⟩ : ∃ W5, W5 = w3.alloc (.cells #[.int .i64 (1 + (k : Int)), .int .i64 1, .int .i64 0, .string ⟨#[]⟩] 53) := ⟨_, rfl⟩
                  have bx5 := heap_alloc_new w3 (.cells #[.int .i64 (1 + (k : Int)), .int .i64 1, .int .i64 0, .string ⟨#[]⟩] 53)
                  have rx5 := hx4 (.cells #[.int .i64 (1 + (k : Int)), .int .i64 1, .int .i64 0, .string ⟨#[]⟩] 53)
                  have n5 := n4o (.cells #[.int .i64 (1 + (k : Int)), .int .i64 1, .int .i64 0, .string ⟨#[]⟩] 53)
                  have gz5 : W5.cell? ⟨g1, 0, none⟩ = some (.int .i64 Z) := by
                    rw [hW5, ((Below.refl w3.heap.size w3).alloc (Nat.le_refl _) _).cell (p := ⟨g1, 0, none⟩) hgl]
                    exact hz0
                  rw [← hW5] at bx5 rx5 n5 ⊢
                  have hzw : w.heap.size ≠ w3.heap.size := hne4
                  clear hW5 hx4 n4o hx3 d0 d1 d2 d3 fz2 hz0 n3 hs3 hne5
                  generalize w3.heap.size = z at bx5 hgl hzw hw3l hne4 ⊢
                  have HN5 := hide n5
                  have HRX := hide rx5
                  have e0 := cells_at bx5 0
                  have e1 := cells_at bx5 1
                  have e2 := cells_at bx5 2
                  have e3 := cells_at bx5 3
                  have fe := frozen_at bx5
                  have r0 := cells_at rx5 0
                  have r1 := cells_at rx5 1
                  have r2 := cells_at rx5 2
                  have r3 := cells_at rx5 3
                  have fr := frozen_at rx5
                  simp only [List.getElem?_toArray, List.getElem?_cons_succ, List.getElem?_cons_zero] at e0 e1 e2 e3 r0 r1 r2 r3
                  clear bx5 rx5 n5
                  refine (in_any _ _ _ _).mono ?_
                  rintro e w' ⟨rfl, rfl⟩
                  rw [hin]
                  go_wp2
                  have hy : (W5.setCell ⟨z, 1, none⟩ (.int .i64 Z)).heap[w.heap.size]? = some (.cells #[.int .i64 0, .int .i64 0, .int .i64 0, .string ⟨#[]⟩] 53) := by
                    rw [heap_setCell_other _ ⟨z, 1, none⟩ _ _ hzw]
                    exact HRX.out
                  refine bodyPost_ret (results_cell_row_tmp14 rfl _ _ w.heap.size 53 #[.int .i64 (1 + (k : Int)), .int .i64 Z, .int .i64 0, .string ⟨#[]⟩] (0, 0) _ rfl (set_ev hy) Tryd.underlying53 rfl (by kernel_rfl)) rfl ?_
                  exact ⟨⟨(1 + (k : Int)), Z, 0, ⟨#[]⟩⟩, by rw [g.out]; rfl, (fun x h => by rw [g.out] at h; cases h; simp [evW, h15]; omega), ((((HN5.out.setCell (p := ⟨z, 1, none⟩) (Nat.le_of_lt hw3l) _).setCell (p := ⟨w.heap.size, 0, none⟩) (Nat.le_refl _) _).setCell (p := ⟨w.heap.size, 1, none⟩) (Nat.le_refl _) _).setCell (p := ⟨w.heap.size, 2, none⟩) (Nat.le_refl _) _).setCell (p := ⟨w.heap.size, 3, none⟩) (Nat.le_refl _) _⟩
              · have g := hide (show G = none by rw [hev.out, if_neg hnn])
                rcases hB : numsB (ls.drop 1) with _ | _
                · clear hnn hB

                  go_wp2
                  have y4 := set_ev (v0 := .int .i64 0) (v1 := .int .i64 0) (v2 := .int .i64 0) (v3 := .string ⟨#[]⟩) hx3
                  have n4 := (((n3.setCell (p := ⟨w.heap.size, 0, none⟩) (Nat.le_refl _) (.int .i64 0)).setCell (p := ⟨w.heap.size, 1, none⟩) (Nat.le_refl _) (.int .i64 0)).setCell (p := ⟨w.heap.size, 2, none⟩) (Nat.le_refl _) (.int .i64 0)).setCell (p := ⟨w.heap.size, 3, none⟩) (Nat.le_refl _) (.string ⟨#[]⟩)
                  refine bodyPost_ret (results_cell_row_tmp14 rfl _ _ w.heap.size 53 #[.int .i64 0, .int .i64 0, .int .i64 0, .string ⟨#[]⟩] (0, 0) _ rfl y4 Tryd.underlying53 rfl (by kernel_rfl)) rfl ?_
                  exact ⟨⟨0, 0, 0, ⟨#[]⟩⟩, by rw [g.out]; rfl, (fun x h => by rw [g.out] at h; cases h), n4⟩
                · have hlen : (numsL (ls.drop 1)).length = (ls.drop 1).length := by rw [numsL_yes hB]; simp
                  have hl1 : ¬ ((ls.drop 1).length : Int) = 1 := fun h => hnn (by simp only [numsN, hB, Bool.and_true, decide_eq_true_eq]; exact h)
                  generalize (numsL (ls.drop 1)).length = nn at hlen hou ⊢
                  have hl2 : ((nn : Int) != 1) = true := by simp; omega
                  have hl3 : ¬ (nn : Int) = 1 := by omega
                  clear hnn hB hlen hl1

                  go_wp2
                  have y4 := set_ev (v0 := .int .i64 0) (v1 := .int .i64 0) (v2 := .int .i64 0) (v3 := .string ⟨#[]⟩) hx3
                  have n4 := (((n3.setCell (p := ⟨w.heap.size, 0, none⟩) (Nat.le_refl _) (.int .i64 0)).setCell (p := ⟨w.heap.size, 1, none⟩) (Nat.le_refl _) (.int .i64 0)).setCell (p := ⟨w.heap.size, 2, none⟩) (Nat.le_refl _) (.int .i64 0)).setCell (p := ⟨w.heap.size, 3, none⟩) (Nat.le_refl _) (.string ⟨#[]⟩)
                  refine bodyPost_ret (results_cell_row_tmp14 rfl _ _ w.heap.size 53 #[.int .i64 0, .int .i64 0, .int .i64 0, .string ⟨#[]⟩] (0, 0) _ rfl y4 Tryd.underlying53 rfl (by kernel_rfl)) rfl ?_
                  exact ⟨⟨0, 0, 0, ⟨#[]⟩⟩, by rw [g.out]; rfl, (fun x h => by rw [g.out] at h; cases h), n4⟩
          · have hm2 : ¬ tk.toList = t0.toList := fun h => hm (by have h1 := TK.out; have h2 := T0.out; rw [h1, h2, bs_toL, bs_toL] at h; rw [h1, h2, h])
            have hm3 : (tk.toList == t0.toList) = false := by simpa using hm2
            have HN2 := hide (show ∀ j, j < k + 1 → wds.getD j [] ≠ ls.getD 0 [] from fun j hj => by
              rcases Nat.lt_or_ge j k with h | h
              · exact HN.out j h
              · have : j = k := by omega
                subst this
                intro he
                exact hm (by rw [TK.out, T0.out, he]))
            clear hm hm2
            go_wp2_with (first | go_quiet (fail))
            go_roundw
            case rel => exact ⟨k + 1, by omega, by go_num, HN2, hx, hr, below_drewN hnx _⟩
            case measure => simp [intOf]; omega
        · have hk8 : k = 8 := by omega
          have g := hide (show G = none by
            rw [GL.out, evF, if_neg (fun h => NB.out ⟨by rw [T0.out, bs_toL]; exact h.1, h.2⟩), if_neg]
            rintro ⟨h1, _⟩
            have h2 : (wds.findIdx (· == ls.getD 0 [])) < wds.length := by simpa [wds] using h1
            have h3 := List.findIdx_getElem (w := h2)
            have h4 := HN.out _ (by rw [hk8]; exact h1)
            apply h4
            rw [List.getD_eq_getElem?_getD, List.getElem?_eq_getElem h2]
            simpa using h3)
          have fz2 := fun j => frozen_at hx j
          have d0 : wr.cell? ⟨w.heap.size, 0, none⟩ = some (.int .i64 0) := by rw [cells_at hx]; rfl
          have d1 : wr.cell? ⟨w.heap.size, 1, none⟩ = some (.int .i64 0) := by rw [cells_at hx]; rfl
          have d2 : wr.cell? ⟨w.heap.size, 2, none⟩ = some (.int .i64 0) := by rw [cells_at hx]; rfl
          have d3 : wr.cell? ⟨w.heap.size, 3, none⟩ = some (.string ⟨#[]⟩) := by rw [cells_at hx]; rfl
          go_wp2
          have y4 := set_ev (v0 := .int .i64 0) (v1 := .int .i64 0) (v2 := .int .i64 0) (v3 := .string ⟨#[]⟩) hx
          have n3 := (((hnx.setCell (p := ⟨w.heap.size, 0, none⟩) (Nat.le_refl _) (.int .i64 0)).setCell (p := ⟨w.heap.size, 1, none⟩) (Nat.le_refl _) (.int .i64 0)).setCell (p := ⟨w.heap.size, 2, none⟩) (Nat.le_refl _) (.int .i64 0)).setCell (p := ⟨w.heap.size, 3, none⟩) (Nat.le_refl _) (.string ⟨#[]⟩)
          refine bodyPost_ret (results_cell_row_tmp14 rfl _ _ w.heap.size 53 #[.int .i64 0, .int .i64 0, .int .i64 0, .string ⟨#[]⟩] (0, 0) _ rfl y4 Tryd.underlying53 rfl (by kernel_rfl)) rfl ?_
          exact ⟨⟨0, 0, 0, ⟨#[]⟩⟩, by rw [g.out]; rfl, (fun x h => by rw [g.out] at h; cases h), n3⟩
end Go.Proofs.YtpiookjdeopmgaaDoor
