/-
  spec.ReadScript: its contract.
-/
import Derived.Test.YtpiookjdeopmgaaDoorRd36
namespace Go.Proofs.YtpiookjdeopmgaaDoor
open Go.RowKit
set_option linter.unusedSimpArgs false
set_option linter.unusedVariables false

/-- what the specification tells of a text: net and events to be read -/
structure RsAt (w : World) (v1 v2 v3 : Value) (s : SD) : Prop where
  r1 : LinksAt w v1 s.ls w.heap.size
  r2 : ThingsAt w v2 s.ts w.heap.size
  r3 : StructsAt evE 4 w v3 s.es w.heap.size

theorem fin0 (w : World) (a : Option Addr) (c : Nat) : RsAt w (.slice none 0 0) (.slice none 0 0) (.slice a 0 c) sd0 :=
  ⟨⟨none, 0, rfl, .inl rfl⟩, ⟨none, 0, rfl, .inl rfl⟩, ⟨a, c, rfl, .inl rfl⟩⟩

theorem lineF_bad {s : SD} {t : ByteArray} (h : goodS t = false) : lineF s t = none := by unfold lineF; rw [h]; rfl
theorem lineF_nil {s : SD} {t : ByteArray} (h : goodS t = true) (h2 : prL t = []) : lineF s t = some s := by unfold lineF; rw [if_pos h, h2]; rfl
theorem lineF_rem {s : SD} {t : ByteArray} {p : List UInt8} {ps : List (List UInt8)} (h : goodS t = true) (h2 : prL t = p :: ps) (h3 : Lib.hasPrefix p [35] = true) : lineF s t = some s := by unfold lineF; rw [if_pos h, h2, lineP, if_pos h3]
theorem lineF_step {s : SD} {t : ByteArray} {p : List UInt8} {ps : List (List UInt8)} (hi : SInv s) (h : goodS t = true) (h2 : prL t = p :: ps) (h3 : Lib.hasPrefix p [35] = false) : lineF s t = sStep s p ps := by
  unfold lineF
  have h4 : ¬ Lib.hasPrefix p [35] = true := by rw [h3]; decide
  rw [if_pos h, h2, lineP, if_neg h4, step_eq s hi]

set_option maxRecDepth 100000 in
set_option maxHeartbeats 8000000 in
theorem sread_any (t : ByteArray) (w : World) (ht : t.size ≤ 1048576) :
    Calls Tryd.prog 5 #[.string t] w fun e w' => ∃ v1 v2 v3, e = .returned (.tuple #[.agg #[.int .i64 (resD (scrF t)).n, v1, v2], v3, .int .i64 (retZ (scrF t))]) ∧ RsAt w' v1 v2 v3 (resD (scrF t)) ∧ Below w.heap.size w w' := by
  obtain ⟨G, hG⟩ : ∃ G, G = scrF t := ⟨_, rfl⟩
  rw [← hG]
  have G0 := hide hG
  clear hG
  obtain ⟨L, hL⟩ : ∃ L, L = lnsOf t.data.toList := ⟨_, rfl⟩
  have hLs : ∀ l ∈ L, l.length ≤ 1048576 := by
    rw [hL]
    intro l hl
    have := lnsOf_size _ l hl
    have e : t.data.toList.length = t.size := by simp
    omega
  have HL := hide (fun W => slines_any t W ht)
  rw [← hL] at HL
  have GL := hide (show G = if 4000 < t.size ∨ 100 < L.length then .inr (-1) else endF (linesF sd0 0 L) by rw [G0.out, scrF, hL])
  have HLS := hide hLs
  clear hL G0 hLs
  -- the two blocks that are made first
  obtain ⟨w1, hw1⟩ : ∃ w1, w1 = (w.alloc (.cells #[.int .i64 0, .slice none 0 0, .slice none 0 0] 25)).alloc (.cells #[] 53) := ⟨_, rfl⟩
  have b1 : Below w.heap.size w w1 := by rw [hw1]; exact below_two _ _
  have q1 : w1.heap[w.heap.size]? = some (.cells #[.int .i64 0, .slice none 0 0, .slice none 0 0] 25) := by rw [hw1, Below.heap_alloc _ _ _ (by simp), heap_alloc_new]
  have s1 : w1.heap.size = w.heap.size + 2 := by rw [hw1]; simp
  have HW1 := hide hw1
  have HB1 := hide b1
  have HQ1 := hide q1
  have HS1 := hide s1
  clear hw1 b1 q1 s1
  by_cases h4 : 4000 < t.size
  · have g := hide (show G = .inr (-1) by rw [GL.out, if_pos (.inl h4)])
    have h4i : (4000 : Int) < (t.size : Int) := by omega
    have y0 := cells_at HQ1.out 0
    have y1 := cells_at HQ1.out 1
    have y2 := cells_at HQ1.out 2
    have fy := frozen_at HQ1.out
    simp only [List.getElem?_toArray, List.getElem?_cons_succ, List.getElem?_cons_zero] at y0 y1 y2
    have HYR := HQ1
    have HYB := HB1
    go_enter Tryd.func5, Tryd.ntmps5
    go_upto_region 2 with fail
    rw [← HW1.out]
    go_wp2
    refine bodyPost_ret (results_cell_row_two rfl _ _ w.heap.size 25 #[.int .i64 0, .slice none 0 0, .slice none 0 0] (0, 0) _ rfl (s3_same (.int .i64 0) (.slice none 0 0) (.slice none 0 0) HYR.out) Tryd.underlying25 rfl (by kernel_rfl)) rfl ?_
    exact ⟨_, _, _, by rw [g.out]; rfl, by rw [g.out]; exact fin0 _ _ _, ((HYB.out.setCell (p := ⟨w.heap.size, 0, none⟩) (Nat.le_refl _) _).setCell (p := ⟨w.heap.size, 1, none⟩) (Nat.le_refl _) _).setCell (p := ⟨w.heap.size, 2, none⟩) (Nat.le_refl _) _⟩
  have h4i : ¬ (4000 : Int) < (t.size : Int) := by omega
  go_enter Tryd.func5, Tryd.ntmps5
  go_wp2_with fail
  rw [← HW1.out]
  refine (HL.out _).mono ?_
  rintro e w2 ⟨v, rfl, hou, b2⟩
  obtain ⟨va, vc, rfl⟩ := owns_len hou
  have HB2 := hide (HB1.out.trans (b2.mono HB1.out.size))
  have HQ2 := hide ((b2.block _ (lt_of_heap HQ1.out)).trans HQ1.out)
  have s2 := b2.size
  have s1 := HS1.out
  clear b2 hou
  by_cases h1 : 100 < L.length
  · have g := hide (show G = .inr (-1) by rw [GL.out, if_pos (.inr h1)])
    have h1i : (100 : Int) < (L.length : Int) := by omega
    have y0 := cells_at HQ2.out 0
    have y1 := cells_at HQ2.out 1
    have y2 := cells_at HQ2.out 2
    have fy := frozen_at HQ2.out
    simp only [List.getElem?_toArray, List.getElem?_cons_succ, List.getElem?_cons_zero] at y0 y1 y2
    have HYR := HQ2
    have HYB := HB2
    go_wp2
    refine bodyPost_ret (results_cell_row_two rfl _ _ w.heap.size 25 #[.int .i64 0, .slice none 0 0, .slice none 0 0] (0, 0) _ rfl (s3_same (.int .i64 0) (.slice none 0 0) (.slice none 0 0) HYR.out) Tryd.underlying25 rfl (by kernel_rfl)) rfl ?_
    exact ⟨_, _, _, by rw [g.out]; rfl, by rw [g.out]; exact fin0 _ _ _, ((HYB.out.setCell (p := ⟨w.heap.size, 0, none⟩) (Nat.le_refl _) _).setCell (p := ⟨w.heap.size, 1, none⟩) (Nat.le_refl _) _).setCell (p := ⟨w.heap.size, 2, none⟩) (Nat.le_refl _) _⟩
  have h1i : ¬ (100 : Int) < (L.length : Int) := by omega
  have GM := hide (show G = endF (linesF sd0 0 L) by rw [GL.out, if_neg (fun h => by rcases h with h | h <;> omega)])
  clear GL
  go_wp2_with fail
  refine (HL.out _).mono ?_
  rintro e w3 ⟨v, rfl, hou, b3⟩
  obtain ⟨la, lc, rfl⟩ := owns_len hou
  have HB3 := hide (HB2.out.trans (b3.mono HB2.out.size))
  have HQ3 := hide ((b3.block _ (lt_of_heap HQ2.out)).trans HQ2.out)
  have s3 := b3.size
  have HLA := hide (strsAt_of hou)
  clear b3 hou
  obtain ⟨B, hB⟩ : ∃ B, B = w3.heap.size := ⟨_, rfl⟩
  obtain ⟨w4, hw4⟩ : ∃ w4, w4 = (w3.alloc (.cells #[.int .i64 0, .slice none 0 0, .slice none 0 0] 25)).alloc (.cells #[] 53) := ⟨_, rfl⟩
  have b4 : Below B w3 w4 := by rw [hw4, hB]; exact below_two _ _
  have q4 : w4.heap[B]? = some (.cells #[.int .i64 0, .slice none 0 0, .slice none 0 0] 25) := by rw [hw4, hB, Below.heap_alloc _ _ _ (by simp), heap_alloc_new]
  have e4 : w4.heap[B + 1]? = some (.cells #[] 53) := by
    have h := heap_alloc_new (w3.alloc (.cells #[.int .i64 0, .slice none 0 0, .slice none 0 0] 25)) (.cells #[] 53)
    rw [hw4, hB]
    simpa using h
  have s4 : w4.heap.size = B + 2 := by rw [hw4, hB]; simp
  have hB2 : w.heap.size + 2 ≤ B := by omega
  have HLB := hide (show StrsAt w4 (.slice la L.length lc) L B from RowAt.later (B := B) (by rw [hB]; exact HLA.out) b4 (Nat.le_refl _))
  have HB4 := hide (HB3.out.trans (b4.mono (by omega)))
  have HQ4 := hide ((b4.block _ (by omega)).trans HQ3.out)
  have HX4 := hide q4
  have HE4 := hide (show w4.ownsRow (B + 1) 53 4 (.slice (some ⟨B + 1, 0, none⟩) 0 0) 0 (flat evE []) from ⟨rfl, .inr ⟨B + 1, 0, #[], rfl, Nat.le_refl _, e4, by simp, by simp, by simp, by simp [flat]⟩⟩)
  have HS4 := hide s4
  have HBB := hide hB
  have HW4 := hide hw4
  clear b4 q4 e4 s4 hB hw4
  go_wp2
  rw [← HW4.out]
  simp only [← HBB.out]
  go_loopw [8, 9] (fun v8 i wr => ∃ (k : Nat) (s : SD) (v1 v2 : Value), k ≤ L.length ∧ i = .int .i64 k ∧ Hid (linesF sd0 0 L = linesF s k (L.drop k)) ∧ Hid (SInv s) ∧ Hid (wr.heap[B]? = some (.cells #[.int .i64 s.n, v1, v2] 25)) ∧ Hid (RsOwn wr (B + 1) v1 v2 v8 s) ∧ Hid (Below B w4 wr)) (fun _ i _ => L.length - (intOf i).toNat)
  case atStart => exact ⟨0, sd0, .slice none 0 0, .slice none 0 0, by omega, rfl, hide rfl, hide sd0_inv, HX4, hide ⟨World.ownsRow_nil _ _ _ _, World.ownsRow_nil _ _ _ _, HE4.out⟩, hide (Below.refl _ _)⟩
  case round =>
    obtain ⟨k, s, v1, v2, hk, rfl, HE, HIV, HX, HR, HBL⟩ := hrel
    have s4 := HS4.out
    have hbr := HBL.out.size
    have HYB0 := hide (HB4.out.trans (HBL.out.mono (by omega)))
    have HYR0 := hide ((HBL.out.block _ (by omega)).trans HQ4.out)
    obtain ⟨a1, c1, rfl⟩ := owns_lenS HR.out.r1
    obtain ⟨a2, c2, rfl⟩ := owns_lenS HR.out.r2
    obtain ⟨a3, c3, rfl⟩ := owns_lenS HR.out.r3
    by_cases hlt : k < L.length
    · obtain ⟨l, hl⟩ : ∃ l, L[k]? = some l := ⟨_, List.getElem?_eq_getElem hlt⟩
      obtain ⟨b, off, cap', hvv, hb, hc⟩ := StrsAt.cell (RowAt.later HLB.out HBL.out (Nat.le_refl _)) k l hl
      obtain ⟨rfl, rfl⟩ : la = some ⟨b, off, none⟩ ∧ lc = cap' := by cases hvv; exact ⟨rfl, rfl⟩
      obtain ⟨T, hT⟩ : ∃ T, T = bs l := ⟨_, rfl⟩
      have hTs : T.size ≤ 1048576 := by rw [hT]; exact HLS.out l (List.mem_of_getElem? hl)
      rw [← hT] at hc
      have HPA := hide (spt_any T wr hTs)
      have hPw := prL_word T hTs
      have hPn := prL_ne T
      obtain ⟨q, hq⟩ : ∃ q, q = goodS T := ⟨_, rfl⟩
      obtain ⟨P, hP⟩ : ∃ P, P = prL T := ⟨_, rfl⟩
      have hPl : P.length ≤ 10 := by rw [hP]; exact prL_len T
      rw [← hq, ← hP] at HPA
      rw [← hP] at hPw hPn
      have HT := hide hT
      have HLK := hide hl
      have HQQ := hide hq
      have HPP := hide hP
      have hki : (0 : Int) ≤ (k : Int) := by omega
      have hkj : (k : Int) < (L.length : Int) := by omega
      have hw1 : IntKind.i64.wrap ((k : Int) + 1) = (k : Int) + 1 := by rw [IntKind.wrap_i64]; omega
      have hL100 : (L.length : Int) ≤ 100 := by omega
      have HNO := hide (show lineF s T = none → G = .inr ((k : Int) + 1) from fun h => by
        rw [GM.out, HE.out, linesF_no HLK.out (by rw [← HT.out]; exact h)]
        rfl)
      have HGO := hide (show ∀ s', lineF s T = some s' → linesF sd0 0 L = linesF s' (k + 1) (L.drop (k + 1)) ∧ SInv s' from fun s' h => ⟨HE.out.trans (linesF_at HLK.out (by rw [← HT.out]; exact h)), lineF_inv HIV.out h⟩)
      clear hl hT hq hP hvv
      go_wp2_with fail
      refine HPA.out.mono ?_
      rintro e w5 ⟨u, rfl, hou, b5⟩
      obtain ⟨ua, uc, rfl⟩ := owns_len hou
      have s5 := b5.size
      have HX5 := hide ((b5.block _ (lt_of_heap HX.out)).trans HX.out)
      have HR5 := hide (show RsOwn w5 (B + 1) (.slice a1 s.ls.length c1) (.slice a2 s.ts.length c2) (.slice a3 s.es.length c3) s from ⟨owns_below HR.out.r1 b5 (Nat.le_refl _), owns_below HR.out.r2 b5 (Nat.le_refl _), owns_below HR.out.r3 b5 (Nat.le_refl _)⟩)
      have HB5 := hide (HBL.out.trans (b5.mono (by omega)))
      have HYB := hide (HYB0.out.trans (b5.mono HYB0.out.size))
      have HYR := hide ((b5.block _ (lt_of_heap HYR0.out)).trans HYR0.out)
      have HOU := hide hou
      have y0 := cells_at HYR.out 0
      have y1 := cells_at HYR.out 1
      have y2 := cells_at HYR.out 2
      have fy := frozen_at HYR.out
      simp only [List.getElem?_toArray, List.getElem?_cons_succ, List.getElem?_cons_zero] at y0 y1 y2
      clear b5 hou
      cases q
      · have g := hide (HNO.out (lineF_bad HQQ.out.symm))
        go_wp2
        refine bodyPost_ret (results_cell_row_two rfl _ _ w.heap.size 25 #[.int .i64 0, .slice none 0 0, .slice none 0 0] (0, 0) _ rfl (s3_same (.int .i64 0) (.slice none 0 0) (.slice none 0 0) HYR.out) Tryd.underlying25 rfl (by kernel_rfl)) rfl ?_
        exact ⟨_, _, _, by rw [g.out]; rfl, by rw [g.out]; exact fin0 _ _ _, ((HYB.out.setCell (p := ⟨w.heap.size, 0, none⟩) (Nat.le_refl _) _).setCell (p := ⟨w.heap.size, 1, none⟩) (Nat.le_refl _) _).setCell (p := ⟨w.heap.size, 2, none⟩) (Nat.le_refl _) _⟩
      rcases P with _ | ⟨p, ps⟩
      · have HG2 := hide (HGO.out s (lineF_nil HQQ.out.symm HPP.out.symm))
        go_wp2
        go_roundw
        case rel => exact ⟨k + 1, s, _, _, by omega, by go_num, hide HG2.out.1, hide HG2.out.2, HX5, HR5, HB5⟩
        case measure => simp [intOf]; omega
      obtain ⟨pb, cap, hsl, hgb, hgl⟩ := owns_shape HOU.out (by simp)
      obtain ⟨rfl, rfl⟩ : ua = some ⟨pb, 0, none⟩ ∧ uc = cap := by cases hsl; exact ⟨rfl, rfl⟩
      have hc0 : w5.cell? ⟨pb, 0, none⟩ = some (.string (bs p)) := by
        have := HOU.out.cellAt 0 (by simp)
        simpa [strs] using this
      have hpw := hPw p (by simp)
      have hpne := hPn p (by simp)
      have hps : ∀ l ∈ ps, l.length ≤ 1048576 := fun l hl => hPw l (by simp [hl])
      obtain ⟨n, hn⟩ : ∃ n, n = ps.length := ⟨_, rfl⟩
      have hn1 : (p :: ps).length = n + 1 := by simp [hn]
      have hn10 : n ≤ 10 := by simp at hPl; omega
      have hcap : n + 1 ≤ uc := by
        rcases HOU.out.2 with ⟨h0, _⟩ | ⟨g, cap, cur, he, _, _, hnc, _⟩
        · cases h0
        · cases he; simpa [hn] using hnc
      have hcap2 : ((n + 1 : Nat) : Int) ≤ (uc : Int) := by omega
      obtain ⟨p0, pr, rfl⟩ : ∃ p0 pr, p = p0 :: pr := by
        cases p with
        | nil => exact absurd rfl hpne
        | cons a b => exact ⟨a, b, rfl⟩
      obtain ⟨T0, hT0⟩ : ∃ T0, T0 = bs (p0 :: pr) := ⟨_, rfl⟩
      have hTz : 0 < T0.size := by rw [hT0]; show 0 < (p0 :: pr).toArray.size; simp
      have hTg : T0.size ≤ 1048576 := by rw [hT0]; exact hpw
      rw [← hT0] at hc0
      have HTT := hide hT0
      have HN := hide hn
      have HPSS := hide hps
      rw [hn1]
      clear hn1 hT0 hn hPl hPw hPn hps hsl hpne
      obtain ⟨c, hc⟩ : ∃ c : Nat, c = p0.toNat := ⟨_, rfl⟩
      have hcb : c < 256 := by have := p0.toNat_lt; omega
      have hix := idx_str Tryd.underlying9 T0 0 c hTz (by rw [hc]; have := HTT.out; subst this; rfl)
      rw [show ((0 : Nat) : Int) = 0 from rfl] at hix
      have HTW := hide (show ∀ (W : World) c2, Below w5.heap.size w5 W → StrsAt W (.slice (some ⟨pb, 1, none⟩) n c2) ps W.heap.size from fun W c2 hbW => by
        have hh : StrsAt w5 (.slice (some ⟨pb, 0, none⟩) ((p0 :: pr) :: ps).length uc) ((p0 :: pr) :: ps) w5.heap.size := strsAt_of HOU.out
        have h2 := StrsAt.then (StrsAt.tail hh (by simp) c2) hbW
        simpa [HN.out] using h2)
      have x0 := cells_at HX5.out 0
      have x1 := cells_at HX5.out 1
      have x2 := cells_at HX5.out 2
      have fx := frozen_at HX5.out
      simp only [List.getElem?_toArray, List.getElem?_cons_succ, List.getElem?_cons_zero] at x0 x1 x2
      by_cases h35 : p0 = 35
      · have HG2 := hide (HGO.out s (lineF_rem HQQ.out.symm HPP.out.symm (by rw [h35]; simp [Lib.hasPrefix, List.isPrefixOf])))
        have hc35 : ((c : Int) == 35) = true := by rw [hc, h35]; rfl
        have hc35a : 35 ≤ c := by rw [hc, h35]; decide
        have hc35b : c ≤ 35 := by rw [hc, h35]; decide
        clear hc h35
        go_wp2
        go_roundw
        case rel => exact ⟨k + 1, s, _, _, by omega, by go_num, hide HG2.out.1, hide HG2.out.2, HX5, HR5, HB5⟩
        case measure => simp [intOf]; omega
      have hne35 : ¬ c = 35 := fun e => h35 (UInt8.toNat_inj.1 (by rw [← hc, e]; rfl))
      have hc35 : ((c : Int) == 35) = false := by simp; omega
      have HLF := hide (show lineF s T = sStep s (p0 :: pr) ps from lineF_step HIV.out HQQ.out.symm HPP.out.symm (by
        have : ¬ (35 : UInt8) = p0 := fun e => h35 e.symm
        simp [Lib.hasPrefix, List.isPrefixOf, this]))
      clear hc h35
      by_cases h0 : s.n = 0
      · have h0b : (s.n == 0) = true := by simpa using h0
        have hez : sStep s (p0 :: pr) ps = if (p0 :: pr) = wNet ∧ numsN 1 ps = true ∧ inB (numI (ps.getD 0 [])) 1 6 = true then some { s with n := numI (ps.getD 0 []) } else none := by unfold sStep; rw [if_pos h0]
        have HEZ := hide (HLF.out.trans hez)
        have hTl : T0.toList = p0 :: pr := by rw [HTT.out, bs_toL]
        clear hez
        rw [h0] at x0
        obtain ⟨zs, hzs⟩ : ∃ zs, zs = numsL ps := ⟨_, rfl⟩
        obtain ⟨B6, hB6⟩ : ∃ b, b = numsB ps := ⟨_, rfl⟩
        have HNU := hide (show ∀ (a : Option Addr) (c : Nat), StrsAt w5 (.slice a n c) ps w5.heap.size → Calls Tryd.prog 20 #[.slice a n c] w5 fun e w' => ∃ u1 u2, e = .returned (.tuple #[.slice u1 zs.length u2, .bool B6]) ∧ w'.ownsRow w5.heap.size 3 1 (.slice u1 zs.length u2) zs.length (intsOf zs) ∧ Below w5.heap.size w5 w' from fun a c hh => by
          refine (snums_any (.slice a n c) ps w5 hh (by have := HN.out; omega) HPSS.out).mono ?_
          rintro e w' ⟨u, rfl, ho, hb⟩
          rw [← hzs] at ho
          obtain ⟨u1, u2, rfl⟩ := owns_len ho
          exact ⟨u1, u2, by rw [hB6], ho, hb⟩)
        have HT0W := hide (show ∀ (a : Option Addr) (c2 : Nat), n = 0 → StrsAt w5 (.slice a n c2) ps w5.heap.size from fun a c2 hz => by
          have : ps = [] := List.length_eq_zero_iff.1 (by rw [← HN.out]; exact hz)
          subst this
          exact ⟨a, c2, by simp [hz], .inl rfl⟩)
        have HZ := hide (And.intro hzs hB6)
        clear hzs hB6
        by_cases hA : (p0 :: pr) = wNet
        · have hwn : (T0.toList == [110, 101, 116]) = true := by rw [hTl, hA]; rfl
          have hwn2 : T0.toList = [110, 101, 116] := by rw [hTl, hA]
          rcases B6 with _ | _
          · have g := hide (HNO.out (by rw [HEZ.out, if_neg]; rintro ⟨_, h2, _⟩; simp only [numsN, ← HZ.out.2] at h2; simp at h2))
            clear hTl hA
            go_wp2_with (first
              | (go_at_call 20; refine (HNU.out _ _ (by first | exact HTW.out w5 _ (Below.refl _ _) | exact HT0W.out _ _ (by omega))).mono ?_; rintro e w6 ⟨u1, u2, rfl, hou6, b6⟩
                 have HYB6 := hide (HYB.out.trans (b6.mono HYB.out.size))
                 have HYR6 := hide ((b6.block _ (lt_of_heap HYR.out)).trans HYR.out)
                 have hc6 : w6.cell? ⟨pb, 0, none⟩ = some (.string T0) := by rw [b6.cell (p := ⟨pb, 0, none⟩) hgl]; exact hc0
                 have z0 := cells_at HYR6.out 0
                 have z1 := cells_at HYR6.out 1
                 have z2 := cells_at HYR6.out 2
                 have fz := frozen_at HYR6.out
                 simp only [List.getElem?_toArray, List.getElem?_cons_succ, List.getElem?_cons_zero] at z0 z1 z2
                 clear b6 hou6))
            all_goals
              refine bodyPost_ret (results_cell_row_two rfl _ _ w.heap.size 25 #[.int .i64 0, .slice none 0 0, .slice none 0 0] (0, 0) _ rfl (s3_same (.int .i64 0) (.slice none 0 0) (.slice none 0 0) HYR6.out) Tryd.underlying25 rfl (by kernel_rfl)) rfl ?_
              exact ⟨_, _, _, by rw [g.out]; rfl, by rw [g.out]; exact fin0 _ _ _, ((HYB6.out.setCell (p := ⟨w.heap.size, 0, none⟩) (Nat.le_refl _) _).setCell (p := ⟨w.heap.size, 1, none⟩) (Nat.le_refl _) _).setCell (p := ⟨w.heap.size, 2, none⟩) (Nat.le_refl _) _⟩
          by_cases hz1 : zs.length = 1
          · have hn1 : n = 1 := by
              have := HZ.out.1
              rw [numsL_yes HZ.out.2.symm] at this
              rw [HN.out]
              rw [this] at hz1
              simpa using hz1
            obtain ⟨y, hy⟩ : ∃ y, ps = [y] := List.length_eq_one_iff.1 (by rw [← HN.out]; exact hn1)
            obtain ⟨z, hz⟩ : ∃ z, z = numI y := ⟨_, rfl⟩
            have hzz : zs = [z] := by rw [HZ.out.1, numsL_yes HZ.out.2.symm, hy, hz]; rfl
            have hnn : numsN 1 ps = true := by rw [numsN, ← HZ.out.2, hy]; rfl
            obtain ⟨q9, hq9⟩ : ∃ q, q = inB z 1 6 := ⟨_, rfl⟩
            have HEZ2 := hide (show lineF s T = if q9 = true then some { s with n := z } else none by
              rw [HEZ.out, hy]
              simp only [List.getD_cons_zero, ← hz]
              by_cases hr : inB z 1 6 = true
              · rw [if_pos ⟨hA, by rw [← hy]; exact hnn, hr⟩, hq9, if_pos hr]
              · rw [if_neg (fun h => hr h.2.2), hq9, if_neg hr])
            have HQ9 := hide hq9
            subst hn1
            have huc1 : ¬ (uc : Int) = 1 := by omega
            have huc2 : 1 < uc := by omega
            rw [hzz] at HNU
            clear hTl hA hy hz hzz hnn hz1 hq9
            simp only [List.length_cons, List.length_nil, Nat.zero_add] at HNU
            go_wp2_with fail
            refine (HNU.out _ _ (HTW.out w5 _ (Below.refl _ _))).mono ?_
            rintro e w6 ⟨u1, u2, rfl, hou6, b6⟩
            obtain ⟨g6, gc, hsl6, hg1, hg2⟩ := owns_shape hou6 (by omega)
            obtain ⟨rfl, rfl⟩ : u1 = some ⟨g6, 0, none⟩ ∧ u2 = gc := by cases hsl6; exact ⟨rfl, rfl⟩
            have hz0 := hou6.cellAt 0 (by omega)
            simp [intsOf] at hz0
            have HYB6 := hide (HYB.out.trans (b6.mono HYB.out.size))
            have HYR6 := hide ((b6.block _ (lt_of_heap HYR.out)).trans HYR.out)
            have HX6 := hide ((b6.block _ (lt_of_heap HX5.out)).trans HX5.out)
            have HR6 := hide (show RsOwn w6 (B + 1) (.slice a1 s.ls.length c1) (.slice a2 s.ts.length c2) (.slice a3 s.es.length c3) s from ⟨owns_below HR5.out.r1 b6 (Nat.le_refl _), owns_below HR5.out.r2 b6 (Nat.le_refl _), owns_below HR5.out.r3 b6 (Nat.le_refl _)⟩)
            have HB6 := hide (HB5.out.trans (b6.mono (by omega)))
            have hc6 : w6.cell? ⟨pb, 0, none⟩ = some (.string T0) := by rw [b6.cell (p := ⟨pb, 0, none⟩) hgl]; exact hc0
            have s6 := b6.size
            have y0 := cells_at HYR6.out 0
            have y1 := cells_at HYR6.out 1
            have y2 := cells_at HYR6.out 2
            have fy := frozen_at HYR6.out
            have x0 := cells_at HX6.out 0
            have fx := frozen_at HX6.out
            simp only [List.getElem?_toArray, List.getElem?_cons_succ, List.getElem?_cons_zero] at y0 y1 y2 x0
            clear b6 hou6 hsl6
            cases q9
            · have g := hide (HNO.out (by rw [HEZ2.out]; rfl))
              have hin : inB z 1 6 = false := HQ9.out.symm
              go_wp2_with (first | (go_at_call 21; refine (in_any _ _ _ _).mono ?_; rintro e w' ⟨rfl, rfl⟩; rw [hin]))
              refine bodyPost_ret (results_cell_row_two rfl _ _ w.heap.size 25 #[.int .i64 0, .slice none 0 0, .slice none 0 0] (0, 0) _ rfl (s3_same (.int .i64 0) (.slice none 0 0) (.slice none 0 0) HYR6.out) Tryd.underlying25 rfl (by kernel_rfl)) rfl ?_
              exact ⟨_, _, _, by rw [g.out]; rfl, by rw [g.out]; exact fin0 _ _ _, ((HYB6.out.setCell (p := ⟨w.heap.size, 0, none⟩) (Nat.le_refl _) _).setCell (p := ⟨w.heap.size, 1, none⟩) (Nat.le_refl _) _).setCell (p := ⟨w.heap.size, 2, none⟩) (Nat.le_refl _) _⟩
            · have HG2 := hide (HGO.out _ (by rw [HEZ2.out]; rfl))
              have hin : inB z 1 6 = true := HQ9.out.symm
              have yx := heap_setCell_same _ _ 0 _ _ (Value.int .i64 z) HX6.out
              simp only [List.setIfInBounds_toArray, List.set_cons_zero, List.set_cons_succ] at yx
              have HYX := hide yx
              have HR7 := hide (show RsOwn (w6.setCell ⟨B, 0, none⟩ (.int .i64 z)) (B + 1) (.slice a1 s.ls.length c1) (.slice a2 s.ts.length c2) (.slice a3 s.es.length c3) { s with n := z } from ⟨owns_set HR6.out.r1 (by omega), owns_set HR6.out.r2 (by omega), owns_set HR6.out.r3 (by omega)⟩)
              have HB7 := hide (HB6.out.setCell (p := ⟨B, 0, none⟩) (Nat.le_refl _) (.int .i64 z))
              clear yx
              go_wp2_with (first | (go_at_call 21; refine (in_any _ _ _ _).mono ?_; rintro e w' ⟨rfl, rfl⟩; rw [hin]))
              go_roundw
              case rel => exact ⟨k + 1, { s with n := z }, _, _, by omega, by go_num, hide HG2.out.1, hide HG2.out.2, HYX, HR7, HB7⟩
              case measure => simp [intOf]; omega
          · have g := hide (HNO.out (by
              rw [HEZ.out, if_neg]
              rintro ⟨_, h2, _⟩
              simp only [numsN, Bool.and_eq_true, decide_eq_true_eq] at h2
              apply hz1
              rw [HZ.out.1, numsL_yes HZ.out.2.symm]
              simp
              omega))
            have hz1i : ¬ (zs.length : Int) = 1 := by omega
            have hz1b : ((zs.length : Int) != 1) = true := by simp; omega
            clear hTl hA
            go_wp2_with (first
              | (go_at_call 20; refine (HNU.out _ _ (by first | exact HTW.out w5 _ (Below.refl _ _) | exact HT0W.out _ _ (by omega))).mono ?_; rintro e w6 ⟨u1, u2, rfl, hou6, b6⟩
                 have HYB6 := hide (HYB.out.trans (b6.mono HYB.out.size))
                 have HYR6 := hide ((b6.block _ (lt_of_heap HYR.out)).trans HYR.out)
                 have hc6 : w6.cell? ⟨pb, 0, none⟩ = some (.string T0) := by rw [b6.cell (p := ⟨pb, 0, none⟩) hgl]; exact hc0
                 have z0 := cells_at HYR6.out 0
                 have z1 := cells_at HYR6.out 1
                 have z2 := cells_at HYR6.out 2
                 have fz := frozen_at HYR6.out
                 simp only [List.getElem?_toArray, List.getElem?_cons_succ, List.getElem?_cons_zero] at z0 z1 z2
                 clear b6 hou6))
            all_goals
              refine bodyPost_ret (results_cell_row_two rfl _ _ w.heap.size 25 #[.int .i64 0, .slice none 0 0, .slice none 0 0] (0, 0) _ rfl (s3_same (.int .i64 0) (.slice none 0 0) (.slice none 0 0) HYR6.out) Tryd.underlying25 rfl (by kernel_rfl)) rfl ?_
              exact ⟨_, _, _, by rw [g.out]; rfl, by rw [g.out]; exact fin0 _ _ _, ((HYB6.out.setCell (p := ⟨w.heap.size, 0, none⟩) (Nat.le_refl _) _).setCell (p := ⟨w.heap.size, 1, none⟩) (Nat.le_refl _) _).setCell (p := ⟨w.heap.size, 2, none⟩) (Nat.le_refl _) _⟩
        · have hwn : (T0.toList == [110, 101, 116]) = false := by rw [hTl]; simpa using hA
          have hwn2 : ¬ T0.toList = [110, 101, 116] := by rw [hTl]; exact hA
          have g := hide (HNO.out (by rw [HEZ.out, if_neg (fun h => hA h.1)]))
          clear hTl hA
          go_wp2_with (first
              | (go_at_call 20; refine (HNU.out _ _ (by first | exact HTW.out w5 _ (Below.refl _ _) | exact HT0W.out _ _ (by omega))).mono ?_; rintro e w6 ⟨u1, u2, rfl, hou6, b6⟩
                 have HYB6 := hide (HYB.out.trans (b6.mono HYB.out.size))
                 have HYR6 := hide ((b6.block _ (lt_of_heap HYR.out)).trans HYR.out)
                 have hc6 : w6.cell? ⟨pb, 0, none⟩ = some (.string T0) := by rw [b6.cell (p := ⟨pb, 0, none⟩) hgl]; exact hc0
                 have z0 := cells_at HYR6.out 0
                 have z1 := cells_at HYR6.out 1
                 have z2 := cells_at HYR6.out 2
                 have fz := frozen_at HYR6.out
                 simp only [List.getElem?_toArray, List.getElem?_cons_succ, List.getElem?_cons_zero] at z0 z1 z2
                 clear b6 hou6))
          all_goals
            refine bodyPost_ret (results_cell_row_two rfl _ _ w.heap.size 25 #[.int .i64 0, .slice none 0 0, .slice none 0 0] (0, 0) _ rfl (s3_same (.int .i64 0) (.slice none 0 0) (.slice none 0 0) HYR6.out) Tryd.underlying25 rfl (by kernel_rfl)) rfl ?_
            exact ⟨_, _, _, by rw [g.out]; rfl, by rw [g.out]; exact fin0 _ _ _, ((HYB6.out.setCell (p := ⟨w.heap.size, 0, none⟩) (Nat.le_refl _) _).setCell (p := ⟨w.heap.size, 1, none⟩) (Nat.le_refl _) _).setCell (p := ⟨w.heap.size, 2, none⟩) (Nat.le_refl _) _⟩
      have h0n : 1 ≤ s.n := by
        rcases HIV.out with ⟨h, _⟩ | ⟨h, _⟩
        · exact absurd h h0
        · exact (netI_parts h).1.1
      have h0b : (s.n == 0) = false := by simpa using h0
      have hTl : T0.toList = p0 :: pr := by rw [HTT.out, bs_toL]
      have HPSA := hide (show StrsAt w5 (.slice (some ⟨pb, 0, none⟩) (n + 1) uc) ((p0 :: pr) :: ps) w5.heap.size by
        have h := strsAt_of HOU.out
        simpa [HN.out] using h)
      have hfew := HIV.out.few
      by_cases hprt : (p0 :: pr) = wLink ∨ (p0 :: pr) = wThing ∨ (p0 :: pr) = wFar
      · have hip : isPartB T0 = true := by
          unfold isPartB
          rw [hTl]
          rcases hprt with h | h | h <;> rw [h] <;> rfl
        obtain ⟨Rp, hRp⟩ : ∃ R, R = partF s.n s.ls s.ts (p0 :: pr) ps := ⟨_, rfl⟩
        have HST := hide (show lineF s T = if s.es.length = 0 then Rp.map (fun r => { s with ls := r.1, ts := r.2 }) else none by rw [HLF.out, sStep_p h0n hprt, hRp])
        have HSP := hide (fun W (hb : Below w5.heap.size w5 W) => spart_any s.n (.slice a1 s.ls.length c1) (.slice a2 s.ts.length c2) (.slice (some ⟨pb, 0, none⟩) (n + 1) uc) s.ls s.ts (p0 :: pr) ps W (owns_rowAt (owns_below HR5.out.r1 hb (Nat.le_refl _))) (owns_rowAt (owns_below HR5.out.r2 hb (Nat.le_refl _))) (by omega) (by omega) (StrsAt.then HPSA.out hb) (by have := HN.out; omega) HPSS.out (fun a m c e => by cases e; omega))
        rw [← hRp] at HSP
        have HIP := hide (isPart_any T0)
        rw [hip] at HIP
        clear hRp hip hTl hprt
        go_wp2_with fail
        refine (HIP.out _).mono ?_
        rintro e w6 ⟨rfl, b6⟩
        have x0 := cells_at ((b6.block _ (lt_of_heap HX5.out)).trans HX5.out) 0
        have x1 := cells_at ((b6.block _ (lt_of_heap HX5.out)).trans HX5.out) 1
        have x2 := cells_at ((b6.block _ (lt_of_heap HX5.out)).trans HX5.out) 2
        simp only [List.getElem?_toArray, List.getElem?_cons_succ, List.getElem?_cons_zero] at x0 x1 x2
        have s6 := b6.size
        have HB6 := hide b6
        clear b6
        go_wp2_with fail
        refine (HSP.out w6 HB6.out).mono ?_
        rintro e w7 ⟨nx, u1, u2, rfl, hpo, b7, hs1, hs2⟩
        have HPO := hide hpo
        have HSL := hide (And.intro hs1 hs2)
        have HB7 := hide (HB6.out.trans (b7.mono s6))
        have s7 := b7.size
        clear b7 hpo x0 x1 x2 hs1 hs2
        have HYB7 := hide (HYB.out.trans (HB7.out.mono HYB.out.size))
        have HYR7 := hide ((HB7.out.block _ (lt_of_heap HYR.out)).trans HYR.out)
        have HX7 := hide ((HB7.out.block _ (lt_of_heap HX5.out)).trans HX5.out)
        have HR7 := hide (show RsOwn w7 (B + 1) (.slice a1 s.ls.length c1) (.slice a2 s.ts.length c2) (.slice a3 s.es.length c3) s from ⟨owns_below HR5.out.r1 HB7.out (Nat.le_refl _), owns_below HR5.out.r2 HB7.out (Nat.le_refl _), owns_below HR5.out.r3 HB7.out (Nat.le_refl _)⟩)
        have HBL7 := hide (HB5.out.trans (HB7.out.mono (by omega)))
        have y0 := cells_at HYR7.out 0
        have y1 := cells_at HYR7.out 1
        have y2 := cells_at HYR7.out 2
        have fy := frozen_at HYR7.out
        have x0 := cells_at HX7.out 0
        have x1 := cells_at HX7.out 1
        have x2 := cells_at HX7.out 2
        have fx := frozen_at HX7.out
        simp only [List.getElem?_toArray, List.getElem?_cons_succ, List.getElem?_cons_zero] at y0 y1 y2 x0 x1 x2
        have hyl : w.heap.size < w7.heap.size := by omega
        have hxl : B < w7.heap.size := by omega
        rcases Rp with _ | r
        · have g := hide (HNO.out (by rw [HST.out]; split <;> rfl))
          simp only [Option.isSome_none]
          obtain ⟨⟨ua7, un7, uc7, rfl⟩, ⟨ud7, um7, ue7, rfl⟩⟩ := HSL.out
          go_wp2
          have yz := s3_same (.int .i64 0) (.slice none 0 0) (.slice none 0 0) HYR7.out
          have nz := ((HYB7.out.setCell (p := ⟨w.heap.size, 0, none⟩) (Nat.le_refl _) (.int .i64 0)).setCell (p := ⟨w.heap.size, 1, none⟩) (Nat.le_refl _) (.slice none 0 0)).setCell (p := ⟨w.heap.size, 2, none⟩) (Nat.le_refl _) (.slice none 0 0)
          refine bodyPost_ret (results_cell_row_two rfl _ _ w.heap.size 25 #[.int .i64 0, .slice none 0 0, .slice none 0 0] (0, 0) _ rfl ((Below.heap_alloc _ _ _ (lt_of_heap yz)).trans yz) Tryd.underlying25 rfl (by kernel_rfl)) rfl ?_
          exact ⟨_, _, _, by rw [g.out]; rfl, by rw [g.out]; exact fin0 _ _ _, nz.alloc (by have := nz.size; omega) _⟩
        by_cases hes : s.es.length = 0
        · have HG2 := hide (HGO.out _ (by rw [HST.out, if_pos hes]; rfl))
          obtain ⟨rl, rt⟩ := r
          obtain ⟨rfl, hown⟩ := HPO.out _ rfl
          have hes2 : ¬ (0 : Int) < (s.es.length : Int) := by omega
          unfold PartOwn at hown
          clear hes
          rcases hown with ⟨rfl, hr, ho⟩ | ⟨rfl, hr, ho⟩
          · simp only [] at hr ho
            subst hr
            obtain ⟨ua9, uc9, rfl⟩ := owns_lenS ho
            have yx := s3_same (.int .i64 s.n) (.slice ua9 rl.length uc9) (.slice a2 s.ts.length c2) HX7.out
            have HX8 := hide (show ∀ o : Obj, ((((w7.setCell ⟨B, 0, none⟩ (.int .i64 s.n)).setCell ⟨B, 1, none⟩ (.slice ua9 rl.length uc9)).setCell ⟨B, 2, none⟩ (.slice a2 s.ts.length c2)).alloc o).heap[B]? = some (.cells #[.int .i64 s.n, .slice ua9 rl.length uc9, .slice a2 s.ts.length c2] 25) from fun o => by rw [Below.heap_alloc _ _ _ (lt_of_heap yx)]; exact yx)
            have HR8 := hide (show ∀ o : Obj, RsOwn ((((w7.setCell ⟨B, 0, none⟩ (.int .i64 s.n)).setCell ⟨B, 1, none⟩ (.slice ua9 rl.length uc9)).setCell ⟨B, 2, none⟩ (.slice a2 s.ts.length c2)).alloc o) (B + 1) (.slice ua9 rl.length uc9) (.slice a2 s.ts.length c2) (.slice a3 s.es.length c3) { s with ls := rl, ts := s.ts } from fun o => ⟨(owns_set (owns_set (owns_set (owns_baseS ho (by omega)) (Nat.lt_succ_self _)) (Nat.lt_succ_self _)) (Nat.lt_succ_self _)).alloc _, (owns_set (owns_set (owns_set HR7.out.r2 (Nat.lt_succ_self _)) (Nat.lt_succ_self _)) (Nat.lt_succ_self _)).alloc _, (owns_set (owns_set (owns_set HR7.out.r3 (Nat.lt_succ_self _)) (Nat.lt_succ_self _)) (Nat.lt_succ_self _)).alloc _⟩)
            have n8 := ((HBL7.out.setCell (p := ⟨B, 0, none⟩) (Nat.le_refl _) (.int .i64 s.n)).setCell (p := ⟨B, 1, none⟩) (Nat.le_refl _) (.slice ua9 rl.length uc9)).setCell (p := ⟨B, 2, none⟩) (Nat.le_refl _) (.slice a2 s.ts.length c2)
            have HBL8 := hide (show ∀ o : Obj, Below B w4 ((((w7.setCell ⟨B, 0, none⟩ (.int .i64 s.n)).setCell ⟨B, 1, none⟩ (.slice ua9 rl.length uc9)).setCell ⟨B, 2, none⟩ (.slice a2 s.ts.length c2)).alloc o) from fun o => n8.alloc (by have := n8.size; omega) o)
            clear yx n8 ho
            go_wp2
            go_roundw
            case rel => exact ⟨k + 1, { s with ls := rl, ts := s.ts }, _, _, by omega, by go_num, hide HG2.out.1, hide HG2.out.2, hide (HX8.out _), hide (HR8.out _), hide (HBL8.out _)⟩
            case measure => simp [intOf]; omega
          · simp only [] at hr ho
            subst hr
            obtain ⟨ua9, uc9, rfl⟩ := owns_lenS ho
            have yx := s3_same (.int .i64 s.n) (.slice a1 s.ls.length c1) (.slice ua9 rt.length uc9) HX7.out
            have HX8 := hide (show ∀ o : Obj, ((((w7.setCell ⟨B, 0, none⟩ (.int .i64 s.n)).setCell ⟨B, 1, none⟩ (.slice a1 s.ls.length c1)).setCell ⟨B, 2, none⟩ (.slice ua9 rt.length uc9)).alloc o).heap[B]? = some (.cells #[.int .i64 s.n, .slice a1 s.ls.length c1, .slice ua9 rt.length uc9] 25) from fun o => by rw [Below.heap_alloc _ _ _ (lt_of_heap yx)]; exact yx)
            have HR8 := hide (show ∀ o : Obj, RsOwn ((((w7.setCell ⟨B, 0, none⟩ (.int .i64 s.n)).setCell ⟨B, 1, none⟩ (.slice a1 s.ls.length c1)).setCell ⟨B, 2, none⟩ (.slice ua9 rt.length uc9)).alloc o) (B + 1) (.slice a1 s.ls.length c1) (.slice ua9 rt.length uc9) (.slice a3 s.es.length c3) { s with ls := s.ls, ts := rt } from fun o => ⟨(owns_set (owns_set (owns_set HR7.out.r1 (Nat.lt_succ_self _)) (Nat.lt_succ_self _)) (Nat.lt_succ_self _)).alloc _, (owns_set (owns_set (owns_set (owns_baseS ho (by omega)) (Nat.lt_succ_self _)) (Nat.lt_succ_self _)) (Nat.lt_succ_self _)).alloc _, (owns_set (owns_set (owns_set HR7.out.r3 (Nat.lt_succ_self _)) (Nat.lt_succ_self _)) (Nat.lt_succ_self _)).alloc _⟩)
            have n8 := ((HBL7.out.setCell (p := ⟨B, 0, none⟩) (Nat.le_refl _) (.int .i64 s.n)).setCell (p := ⟨B, 1, none⟩) (Nat.le_refl _) (.slice a1 s.ls.length c1)).setCell (p := ⟨B, 2, none⟩) (Nat.le_refl _) (.slice ua9 rt.length uc9)
            have HBL8 := hide (show ∀ o : Obj, Below B w4 ((((w7.setCell ⟨B, 0, none⟩ (.int .i64 s.n)).setCell ⟨B, 1, none⟩ (.slice a1 s.ls.length c1)).setCell ⟨B, 2, none⟩ (.slice ua9 rt.length uc9)).alloc o) from fun o => n8.alloc (by have := n8.size; omega) o)
            clear yx n8 ho
            go_wp2
            go_roundw
            case rel => exact ⟨k + 1, { s with ls := s.ls, ts := rt }, _, _, by omega, by go_num, hide HG2.out.1, hide HG2.out.2, hide (HX8.out _), hide (HR8.out _), hide (HBL8.out _)⟩
            case measure => simp [intOf]; omega
        · have g := hide (HNO.out (by rw [HST.out, if_neg hes]))
          have hes2 : (0 : Int) < (s.es.length : Int) := by omega
          simp only [Option.isSome_some]
          obtain ⟨⟨ua7, un7, uc7, rfl⟩, ⟨ud7, um7, ue7, rfl⟩⟩ := HSL.out
          go_wp2
          have yz := s3_same (.int .i64 0) (.slice none 0 0) (.slice none 0 0) HYR7.out
          have nz := ((HYB7.out.setCell (p := ⟨w.heap.size, 0, none⟩) (Nat.le_refl _) (.int .i64 0)).setCell (p := ⟨w.heap.size, 1, none⟩) (Nat.le_refl _) (.slice none 0 0)).setCell (p := ⟨w.heap.size, 2, none⟩) (Nat.le_refl _) (.slice none 0 0)
          refine bodyPost_ret (results_cell_row_two rfl _ _ w.heap.size 25 #[.int .i64 0, .slice none 0 0, .slice none 0 0] (0, 0) _ rfl ((Below.heap_alloc _ _ _ (lt_of_heap yz)).trans yz) Tryd.underlying25 rfl (by kernel_rfl)) rfl ?_
          exact ⟨_, _, _, by rw [g.out]; rfl, by rw [g.out]; exact fin0 _ _ _, nz.alloc (by have := nz.size; omega) _⟩
      · have hip : isPartB T0 = false := by
          unfold isPartB
          rw [hTl]
          cases hc9 : ((p0 :: pr) == wLink || (p0 :: pr) == wThing || (p0 :: pr) == wFar) with
          | false => rfl
          | true =>
            exfalso
            apply hprt
            simp only [Bool.or_eq_true, beq_iff_eq] at hc9
            rcases hc9 with (h | h) | h
            · exact .inl h
            · exact .inr (.inl h)
            · exact .inr (.inr h)
        obtain ⟨Re, hRe⟩ : ∃ R, R = evF ((p0 :: pr) :: ps) := ⟨_, rfl⟩
        have HST := hide (show lineF s T = Re.bind (fun e => if eventOkB s.n e = true ∧ s.es.length ≠ 60 then some { s with es := s.es ++ [e] } else none) by rw [HLF.out, sStep_e h0n hprt, hRe])
        have HEV := hide (fun W (hb : Below w5.heap.size w5 W) => sevent_any (.slice (some ⟨pb, 0, none⟩) (n + 1) uc) ((p0 :: pr) :: ps) W (StrsAt.then HPSA.out hb) (by simp) (by have := HN.out; simp; omega) (fun l hl => by
          rcases List.mem_cons.1 hl with e | e
          · rw [e]; exact hpw
          · exact HPSS.out l e) (fun a m c e => by cases e; omega))
        rw [← hRe] at HEV
        have HIP := hide (isPart_any T0)
        rw [hip] at HIP
        clear hRe hip hTl hprt
        go_wp2_with fail
        refine (HIP.out _).mono ?_
        rintro e w6 ⟨rfl, b6⟩
        have s6 := b6.size
        have HB6 := hide b6
        clear b6
        go_wp2_with fail
        refine (HEV.out w6 HB6.out).mono ?_
        rintro e w7 ⟨ev, rfl, hev, b7⟩
        have HEE := hide hev
        have HB7 := hide (HB6.out.trans (b7.mono s6))
        have s7 := b7.size
        clear b7 hev x0 x1 x2 fx
        have HYB7 := hide (HYB.out.trans (HB7.out.mono HYB.out.size))
        have HYR7 := hide ((HB7.out.block _ (lt_of_heap HYR.out)).trans HYR.out)
        have HX7 := hide ((HB7.out.block _ (lt_of_heap HX5.out)).trans HX5.out)
        have HR7 := hide (show RsOwn w7 (B + 1) (.slice a1 s.ls.length c1) (.slice a2 s.ts.length c2) (.slice a3 s.es.length c3) s from ⟨owns_below HR5.out.r1 HB7.out (Nat.le_refl _), owns_below HR5.out.r2 HB7.out (Nat.le_refl _), owns_below HR5.out.r3 HB7.out (Nat.le_refl _)⟩)
        have HBL7 := hide (HB5.out.trans (HB7.out.mono (by omega)))
        have y0 := cells_at HYR7.out 0
        have y1 := cells_at HYR7.out 1
        have y2 := cells_at HYR7.out 2
        have fy := frozen_at HYR7.out
        have x0 := cells_at HX7.out 0
        have x1 := cells_at HX7.out 1
        have x2 := cells_at HX7.out 2
        simp only [List.getElem?_toArray, List.getElem?_cons_succ, List.getElem?_cons_zero] at y0 y1 y2 x0 x1 x2
        have hyl : w.heap.size < w7.heap.size := by omega
        have hxl : B < w7.heap.size := by omega
        unfold evV
        rcases Re with _ | x
        · have g := hide (HNO.out (by rw [HST.out]; rfl))
          simp only [Option.isSome_none]
          go_wp2
          have yz := s3_same (.int .i64 0) (.slice none 0 0) (.slice none 0 0) HYR7.out
          have nz := ((HYB7.out.setCell (p := ⟨w.heap.size, 0, none⟩) (Nat.le_refl _) (.int .i64 0)).setCell (p := ⟨w.heap.size, 1, none⟩) (Nat.le_refl _) (.slice none 0 0)).setCell (p := ⟨w.heap.size, 2, none⟩) (Nat.le_refl _) (.slice none 0 0)
          refine bodyPost_ret (results_cell_row_two rfl _ _ w.heap.size 25 #[.int .i64 0, .slice none 0 0, .slice none 0 0] (0, 0) _ rfl ((Below.heap_alloc _ _ _ (lt_of_heap yz)).trans yz) Tryd.underlying25 rfl (by kernel_rfl)) rfl ?_
          exact ⟨_, _, _, by rw [g.out]; rfl, by rw [g.out]; exact fin0 _ _ _, nz.alloc (by have := nz.size; omega) _⟩
        obtain rfl := HEE.out x rfl
        obtain ⟨q9, hq9⟩ : ∃ q, q = eventOkB s.n ev := ⟨_, rfl⟩
        have HEO := hide (show ∀ W, Calls Tryd.prog 25 #[.agg #[.int .i64 s.n, .slice a1 s.ls.length c1, .slice a2 s.ts.length c2], evV ev] W fun e w' => e = .returned (.bool q9) ∧ Below W.heap.size W w' from fun W => by
          rw [hq9]
          exact seventOk_any (.int .i64 s.n) (.slice a1 s.ls.length c1) (.slice a2 s.ts.length c2) s.n rfl ev W)
        have HSE := hide (show lineF s T = if q9 = true ∧ s.es.length ≠ 60 then some { s with es := s.es ++ [ev] } else none by rw [HST.out, hq9]; rfl)
        clear hq9
        unfold evV at HEO
        go_wp2_with fail
        refine (HEO.out _).mono ?_
        rintro e w8 ⟨rfl, b8⟩
        have l8 := heap_alloc_new w7 (.cells #[.int .i64 ev.k, .int .i64 ev.n, .int .i64 ev.a, .string ev.s] 53)
        have l9 := (b8.block _ (lt_of_heap l8)).trans l8
        have b78 : Below w7.heap.size w7 w8 := ((Below.refl w7.heap.size w7).alloc (Nat.le_refl _) _).trans (b8.mono (by simp))
        have s8 := b78.size
        have HYB8 := hide (HYB7.out.trans (b78.mono HYB7.out.size))
        have HYR8 := hide ((b78.block _ (lt_of_heap HYR7.out)).trans HYR7.out)
        have HX8 := hide ((b78.block _ (lt_of_heap HX7.out)).trans HX7.out)
        have HR8 := hide (show RsOwn w8 (B + 1) (.slice a1 s.ls.length c1) (.slice a2 s.ts.length c2) (.slice a3 s.es.length c3) s from ⟨owns_below HR7.out.r1 b78 (Nat.le_refl _), owns_below HR7.out.r2 b78 (Nat.le_refl _), owns_below HR7.out.r3 b78 (Nat.le_refl _)⟩)
        have HBL8 := hide (HBL7.out.trans (b78.mono (by omega)))
        have y0 := cells_at HYR8.out 0
        have y1 := cells_at HYR8.out 1
        have y2 := cells_at HYR8.out 2
        have fy := frozen_at HYR8.out
        have e0 := cells_at l9 0
        have e1 := cells_at l9 1
        have e2 := cells_at l9 2
        have e3 := cells_at l9 3
        simp only [List.getElem?_toArray, List.getElem?_cons_succ, List.getElem?_cons_zero] at y0 y1 y2 e0 e1 e2 e3
        clear l8 l9 b78 b8
        by_cases hes : s.es.length = 60
        · have g := hide (HNO.out (by rw [HSE.out, if_neg (fun h => h.2 hes)]))
          have hes2 : (s.es.length : Int) = 60 := by omega
          have hes3 : ((s.es.length : Int) == 60) = true := by simp [hes]
          clear hes
          cases q9
          all_goals
            go_wp2
            refine bodyPost_ret (results_cell_row_two rfl _ _ w.heap.size 25 #[.int .i64 0, .slice none 0 0, .slice none 0 0] (0, 0) _ rfl (s3_same (.int .i64 0) (.slice none 0 0) (.slice none 0 0) HYR8.out) Tryd.underlying25 rfl (by kernel_rfl)) rfl ?_
            exact ⟨_, _, _, by rw [g.out]; rfl, by rw [g.out]; exact fin0 _ _ _, ((HYB8.out.setCell (p := ⟨w.heap.size, 0, none⟩) (Nat.le_refl _) _).setCell (p := ⟨w.heap.size, 1, none⟩) (Nat.le_refl _) _).setCell (p := ⟨w.heap.size, 2, none⟩) (Nat.le_refl _) _⟩
        have hes2 : ¬ (s.es.length : Int) = 60 := by omega
        have hes3 : ((s.es.length : Int) == 60) = false := by simp; omega
        cases q9
        · have g := hide (HNO.out (by rw [HSE.out, if_neg (fun h => by simp at h)]))
          go_wp2
          refine bodyPost_ret (results_cell_row_two rfl _ _ w.heap.size 25 #[.int .i64 0, .slice none 0 0, .slice none 0 0] (0, 0) _ rfl (s3_same (.int .i64 0) (.slice none 0 0) (.slice none 0 0) HYR8.out) Tryd.underlying25 rfl (by kernel_rfl)) rfl ?_
          exact ⟨_, _, _, by rw [g.out]; rfl, by rw [g.out]; exact fin0 _ _ _, ((HYB8.out.setCell (p := ⟨w.heap.size, 0, none⟩) (Nat.le_refl _) _).setCell (p := ⟨w.heap.size, 1, none⟩) (Nat.le_refl _) _).setCell (p := ⟨w.heap.size, 2, none⟩) (Nat.le_refl _) _⟩
        · have HG2 := hide (HGO.out _ (by rw [HSE.out, if_pos ⟨rfl, hes⟩]))
          have hes60 : s.es.length ≤ 60 := hfew.2.2
          have hlow : B + 1 ≤ w8.heap.size := by omega
          clear hes
          go_wp2_with (first
            | (at_builtin; refine wpList_append_struct evE_len (by omega) evE_one (by omega) _ rfl _ _ 26 rfl (B + 1) 53 Tryd.underlying26 (evV ⟨0, 0, 0, ⟨#[]⟩⟩) rfl Tryd.infoEv (.slice a3 s.es.length c3) s.es ev rfl (HR8.out.r3.alloc _) ⟨w8.heap.size, 0, none⟩ 1 rfl (news_struct (cs := evE ev)) (by omega) (by simp; omega) ?_))
          intro v' w9 es' hes' hown' hgrow
          have nn : ∀ k, (Value.slice a3 s.es.length c3).ownBlock = some k → B + 1 ≤ k := fun k hk => (HR8.out.r3.lt k hk).1
          have HB9 := hide (show Below B w4 w9 from (HBL8.out.alloc (by omega) _).grown hgrow (by simp; omega) (fun k hk => by have := nn k hk; omega))
          have HX9 := hide ((hgrow.block B (by simp; omega) (fun e => by have := nn _ e.symm; omega)).trans ((Below.heap_alloc _ _ _ (lt_of_heap HX8.out)).trans HX8.out))
          have hr1 := owns_two (HR8.out.r3.alloc _) (HR8.out.r1.alloc _) (by decide) hgrow
          have hr2 := owns_two (HR8.out.r3.alloc _) (HR8.out.r2.alloc _) (by decide) hgrow
          have hes9 : es' = s.es ++ [ev] := hes'.out
          rw [← hes9] at HG2
          obtain ⟨va, vc, rfl⟩ := owns_lenS hown'
          have HR9 := hide (show RsOwn w9 (B + 1) (.slice a1 s.ls.length c1) (.slice a2 s.ts.length c2) (.slice va es'.length vc) { s with es := es' } from ⟨hr1, hr2, hown'⟩)
          clear hgrow hown' hes' hes9 hr1 hr2 nn
          go_wp2
          go_roundw
          case rel => exact ⟨k + 1, { s with es := es' }, _, _, by omega, by go_num, hide HG2.out.1, hide HG2.out.2, HX9, HR9, HB9⟩
          case measure => simp [intOf]; omega
    · have hke : k = L.length := by omega
      have GE := hide (show G = endF (.inl s) by
        rw [GM.out, HE.out, hke, List.drop_length]
        rfl)
      have hkj : ¬ (k : Int) < (L.length : Int) := by omega
      have x0 := cells_at HX.out 0
      have x1 := cells_at HX.out 1
      have x2 := cells_at HX.out 2
      have y0 := cells_at HYR0.out 0
      have y1 := cells_at HYR0.out 1
      have y2 := cells_at HYR0.out 2
      have fy := frozen_at HYR0.out
      simp only [List.getElem?_toArray, List.getElem?_cons_succ, List.getElem?_cons_zero] at x0 x1 x2 y0 y1 y2
      clear hke
      by_cases h0 : s.n = 0
      · have g := hide (show G = .inr 1 by rw [GE.out, endF, if_pos h0])
        rw [h0] at x0
        have HYR := HYR0
        have HYB := HYB0
        go_wp2
        refine bodyPost_ret (results_cell_row_two rfl _ _ w.heap.size 25 #[.int .i64 0, .slice none 0 0, .slice none 0 0] (0, 0) _ rfl (s3_same (.int .i64 0) (.slice none 0 0) (.slice none 0 0) HYR.out) Tryd.underlying25 rfl (by kernel_rfl)) rfl ?_
        exact ⟨_, _, _, by rw [g.out]; rfl, by rw [g.out]; exact fin0 _ _ _, ((HYB.out.setCell (p := ⟨w.heap.size, 0, none⟩) (Nat.le_refl _) _).setCell (p := ⟨w.heap.size, 1, none⟩) (Nat.le_refl _) _).setCell (p := ⟨w.heap.size, 2, none⟩) (Nat.le_refl _) _⟩
      · have g := hide (show G = .inl s by rw [GE.out, endF, if_neg h0])
        have h0b : (s.n == 0) = false := by simpa using h0
        have hfewE := HIV.out.few
        have hxl : B < wr.heap.size := by omega
        have hyl : w.heap.size < wr.heap.size := by omega
        go_wp2_with fail
        refine wp_region_noPanic ?_
        have kk0 : wr.drew.cell? ⟨B, 0, none⟩ = some (.int .i64 s.n) := x0
        have kk1 : wr.drew.cell? ⟨B, 1, none⟩ = some (.slice a1 s.ls.length c1) := x1
        have kk2 : wr.drew.cell? ⟨B, 2, none⟩ = some (.slice a2 s.ts.length c2) := x2
        refine wp_region_start (S := (fun W => W.cell? ⟨B, 0, none⟩ = some (.int .i64 s.n) ∧ W.cell? ⟨B, 1, none⟩ = some (.slice a1 s.ls.length c1) ∧ W.cell? ⟨B, 2, none⟩ = some (.slice a2 s.ts.length c2))) (by kernel_rfl) 15 rfl ⟨kk0, kk1, kk2⟩ (fun ops hops hHeld => ?_)
        refine take_do 0 (oi := ?_) (v := ?_) ?_ (by rw [hops.out]; kernel_rfl) ?_ ?_ ?_ (by assumption) ?_
        rotate_left 2
        · rw [hops.out]; simp only [List.getElem?_toArray, List.getElem?_cons_succ, List.getElem?_cons_zero]; rfl
        · rw [hops.out]; kernel_rfl
        · intro W hW; (try dsimp only at hW); go_simp <;> with_reducible rfl
        · exact fun _ _ _ h => h
        try simp only [Act.put, List.setIfInBounds_toArray, List.set_cons_zero, List.set_cons_succ]
        refine take_do 1 (oi := ?_) (v := ?_) ?_ (by rw [hops.out]; kernel_rfl) ?_ ?_ ?_ (by assumption) ?_
        rotate_left 2
        · rw [hops.out]; simp only [List.getElem?_toArray, List.getElem?_cons_succ, List.getElem?_cons_zero]; rfl
        · rw [hops.out]; kernel_rfl
        · intro W hW; (try dsimp only at hW); go_simp <;> with_reducible rfl
        · exact fun _ _ _ h => h
        try simp only [Act.put, List.setIfInBounds_toArray, List.set_cons_zero, List.set_cons_succ]
        refine take_do 3 (oi := ?_) (v := ?_) ?_ (by rw [hops.out]; kernel_rfl) ?_ ?_ ?_ (by assumption) ?_
        rotate_left 2
        · rw [hops.out]; simp only [List.getElem?_toArray, List.getElem?_cons_succ, List.getElem?_cons_zero]; rfl
        · rw [hops.out]; kernel_rfl
        · intro W hW; (try dsimp only at hW); go_simp <;> with_reducible rfl
        · exact fun _ _ _ h => h
        try simp only [Act.put, List.setIfInBounds_toArray, List.set_cons_zero, List.set_cons_succ]
        refine take_do 4 (oi := ?_) (v := ?_) ?_ (by rw [hops.out]; kernel_rfl) ?_ ?_ ?_ (by assumption) ?_
        rotate_left 2
        · rw [hops.out]; simp only [List.getElem?_toArray, List.getElem?_cons_succ, List.getElem?_cons_zero]; rfl
        · rw [hops.out]; kernel_rfl
        · intro W hW; (try dsimp only at hW); go_simp <;> with_reducible rfl
        · exact fun _ _ _ h => h
        try simp only [Act.put, List.setIfInBounds_toArray, List.set_cons_zero, List.set_cons_succ]
        refine take_do 7 (oi := ?_) (v := ?_) ?_ (by rw [hops.out]; kernel_rfl) ?_ ?_ ?_ (by assumption) ?_
        rotate_left 2
        · rw [hops.out]; simp only [List.getElem?_toArray, List.getElem?_cons_succ, List.getElem?_cons_zero]; rfl
        · rw [hops.out]; kernel_rfl
        · intro W hW; (try dsimp only at hW); go_simp <;> with_reducible rfl
        · exact fun _ _ _ h => h
        try simp only [Act.put, List.setIfInBounds_toArray, List.set_cons_zero, List.set_cons_succ]
        refine take_do 8 (oi := ?_) (v := ?_) ?_ (by rw [hops.out]; kernel_rfl) ?_ ?_ ?_ (by assumption) ?_
        rotate_left 2
        · rw [hops.out]; simp only [List.getElem?_toArray, List.getElem?_cons_succ, List.getElem?_cons_zero]; rfl
        · rw [hops.out]; kernel_rfl
        · intro W hW; (try dsimp only at hW); go_simp <;> with_reducible rfl
        · exact fun _ _ _ h => h
        try simp only [Act.put, List.setIfInBounds_toArray, List.set_cons_zero, List.set_cons_succ]
        refine take_do 11 (oi := ?_) (v := ?_) ?_ (by rw [hops.out]; kernel_rfl) ?_ ?_ ?_ (by assumption) ?_
        rotate_left 2
        · rw [hops.out]; simp only [List.getElem?_toArray, List.getElem?_cons_succ, List.getElem?_cons_zero]; rfl
        · rw [hops.out]; kernel_rfl
        · intro W hW; (try dsimp only at hW); go_simp <;> with_reducible rfl
        · exact fun _ _ _ h => h
        try simp only [Act.put, List.setIfInBounds_toArray, List.set_cons_zero, List.set_cons_succ]
        have BD : Below wr.heap.size wr wr.drew := (Below.refl _ _).drew
        refine rs_dag s.n s.ls s.ts a1 a2 a3 c1 c2 c3 s.es.length B w.heap.size (B + 1) wr.heap.size #[.int .i64 0, .slice none 0 0, .slice none 0 0] ⟨_, _, _, rfl⟩ wr.drew _ _ ops hops (Nat.le_refl _) (by omega) (by omega) ?_ ?_ ?_ ?_ ?_ ?_
        · intro W hb
          exact ⟨(hb.cell (p := ⟨B, 0, none⟩) hxl).trans kk0, (hb.cell (p := ⟨B, 1, none⟩) hxl).trans kk1, (hb.cell (p := ⟨B, 2, none⟩) hxl).trans kk2⟩
        · intro W hb u0 u1 u2
          have hh := (set3_other W w.heap.size B u0 u1 u2 (by omega)).trans ((hb.block B hxl).trans HX.out)
          exact ⟨by simpa using cells_at hh 0, by simpa using cells_at hh 1, by simpa using cells_at hh 2⟩
        · intro W hb
          exact (hb.block _ hyl).trans HYR0.out
        · intro W hb
          exact owns_below HR.out.r1 (BD.trans hb) (Nat.le_refl _)
        · intro W hb
          exact owns_below HR.out.r2 (BD.trans hb) (Nat.le_refl _)
        intro W G1 G2 p1a p2a p1c p2c hb hbs k1 k2
        clear hops ops hHeld kk0 kk1 kk2
        have hyW := (hb.block _ hyl).trans HYR0.out
        have BW : Below w.heap.size w W := HYB0.out.trans ((BD.trans hb).mono (by omega))
        have k3 := owns_below HR.out.r3 (BD.trans hb) (Nat.le_refl _)
        have K1 := hide (show LinksAt (((W.setCell ⟨w.heap.size, 0, none⟩ (.int .i64 s.n)).setCell ⟨w.heap.size, 1, none⟩ (.slice p1a s.ls.length p1c)).setCell ⟨w.heap.size, 2, none⟩ (.slice p2a s.ts.length p2c)) (.slice p1a s.ls.length p1c) s.ls _ from owns_rowAt (xs := s.ls) (owns_set (owns_set (owns_set k1 hyl) hyl) hyl))
        have K2 := hide (show ThingsAt (((W.setCell ⟨w.heap.size, 0, none⟩ (.int .i64 s.n)).setCell ⟨w.heap.size, 1, none⟩ (.slice p1a s.ls.length p1c)).setCell ⟨w.heap.size, 2, none⟩ (.slice p2a s.ts.length p2c)) (.slice p2a s.ts.length p2c) s.ts _ from owns_rowAt (xs := s.ts) (owns_set (owns_set (owns_set k2 hyl) hyl) hyl))
        have K3 := hide (show StructsAt evE 4 (((W.setCell ⟨w.heap.size, 0, none⟩ (.int .i64 s.n)).setCell ⟨w.heap.size, 1, none⟩ (.slice p1a s.ls.length p1c)).setCell ⟨w.heap.size, 2, none⟩ (.slice p2a s.ts.length p2c)) (.slice a3 s.es.length c3) s.es _ from owns_rowAt (xs := s.es) (owns_set (owns_set (owns_set k3 (by omega)) (by omega)) (by omega)))
        have BF := hide (show Below w.heap.size w (((W.setCell ⟨w.heap.size, 0, none⟩ (.int .i64 s.n)).setCell ⟨w.heap.size, 1, none⟩ (.slice p1a s.ls.length p1c)).setCell ⟨w.heap.size, 2, none⟩ (.slice p2a s.ts.length p2c)) from ((BW.setCell (p := ⟨w.heap.size, 0, none⟩) (Nat.le_refl _) _).setCell (p := ⟨w.heap.size, 1, none⟩) (Nat.le_refl _) _).setCell (p := ⟨w.heap.size, 2, none⟩) (Nat.le_refl _) _)
        have FF := hide (s3_same (.int .i64 s.n) (.slice p1a s.ls.length p1c) (.slice p2a s.ts.length p2c) hyW)
        clear k1 k2 k3 BW hyW hb hbs
        go_wp2
        refine bodyPost_ret (results_cell_row_two rfl _ _ w.heap.size 25 #[.int .i64 s.n, .slice p1a s.ls.length p1c, .slice p2a s.ts.length p2c] (0, 0) _ rfl FF.out Tryd.underlying25 rfl (by kernel_rfl)) rfl ?_
        exact ⟨_, _, _, by rw [g.out]; rfl, by rw [g.out]; exact ⟨K1.out, K2.out, K3.out⟩, BF.out⟩
end Go.Proofs.YtpiookjdeopmgaaDoor
