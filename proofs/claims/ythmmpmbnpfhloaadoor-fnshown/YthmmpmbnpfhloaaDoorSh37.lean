/-
  spec.Ideal over a right net.
-/
import Derived.Test.YthmmpmbnpfhloaaDoorSh36
namespace Go.Proofs.YthmmpmbnpfhloaaDoor
open Go.RowKit

theorem nrE_oneI (l : Nr) : ∀ u ∈ nrE l, u.oneCell' = true := by
  intro u hu
  simp only [nrE, List.mem_cons, List.not_mem_nil, or_false] at hu
  rcases hu with h | h <;> subst h <;> rfl

/-- a record under way: its box is block z, its row lies behind -/
def NodSt (wr : World) (z : Nat) (nv : Value) (x : RecD) : Prop := wr.heap[z]? = some (.cells (recC x nv) 81) ∧ wr.ownsRow (z + 1) 84 2 nv x.near.length (flat nrE x.near)

theorem NodSt.start (w : World) (v a : Int) : NodSt (w.alloc (.cells #[.int .i64 a, .int .i64 1, .int .i64 v, .int .i64 0, .int .i64 1, .slice none 0 0, .int .i64 0, .bool false] 81)) w.heap.size (.slice none 0 0) (nodRec v a []) := ⟨heap_alloc_new w _, World.ownsRow_nil _ _ _ _⟩

theorem NodSt.below {w w' : World} {z : Nat} {nv : Value} {x : RecD} (h : NodSt w z nv x) (hb : Below w.heap.size w w') : NodSt w' z nv x := ⟨by rw [hb.block z (lt_of_heap h.1)]; exact h.1, owns_below h.2 hb (Nat.le_refl _)⟩

theorem NodSt.push {w w' : World} {z : Nat} {nv nv' : Value} {x y : RecD} {o : Obj} (h : NodSt w z nv x) (hg : (w.alloc o).grownBy w' nv.ownBlock) (hy : ∀ v, recC y v = recC x v) (ho : w'.ownsRow (z + 1) 84 2 nv' y.near.length (flat nrE y.near)) : NodSt (w'.setCell ⟨z, 5, none⟩ nv') z nv' y := by
  have hz := lt_of_heap h.1
  have h1 : w'.heap[z]? = some (.cells (recC x nv) 81) := by
    rw [hg.block z (by simp; omega) (fun e => by have := (h.2.lt z e.symm).1; omega), Below.heap_alloc _ _ _ hz]; exact h.1
  refine ⟨?_, owns_set ho (by omega)⟩
  rw [heap_setCell_same _ _ 5 _ _ nv' h1, hy]
  rfl

set_option maxRecDepth 100000 in
set_option maxHeartbeats 8000000 in
theorem sideal_any (v1 v2 y z : Value) (N : Nat) (ls : List Lk) (ts : List Th) (bs zs : List Bool) (w : World) (hok : netOkI ⟨(N : Int), ls, ts⟩ = true) (hN : 1 ≤ N) (hN6 : N ≤ 6) (hls : ls.length ≤ 12) (hts : ts.length ≤ 4)
    (htho : ∀ t ∈ ts, 1 ≤ t.o ∧ t.o ≤ (N : Int)) (h1 : LinksAt w v1 ls w.heap.size) (h2 : ThingsAt w v2 ts w.heap.size) (h3 : BoolsAt w y bs w.heap.size) (h4 : BoolsAt w z zs w.heap.size) (hbs : bs.length = ls.length) (hzs : zs.length = N) :
    Calls Tryd.prog 28 #[.agg #[.int .i64 (N : Int), v1, v2], y, z] w fun e w' => ∃ o qs, e = .returned (.tuple #[o, .bool true]) ∧ fsts qs = idealD ls ts bs zs N ∧ tot qs ≤ 500 ∧ RecsOwn w' w.heap.size w'.heap.size o qs ∧ Below w.heap.size w w' := by
  obtain ⟨a1, c1, rfl⟩ := h1.shape
  obtain ⟨a2, c2, rfl⟩ := h2.shape
  obtain ⟨a3, c3, rfl⟩ := h3.shape
  obtain ⟨a4, c4, rfl⟩ := h4.shape
  have HNO := hide (fun W (hb : Below w.heap.size w W) => snetOk_any (.agg #[.int .i64 (N : Int), .slice a1 ls.length c1, .slice a2 ts.length c2]) ⟨(N : Int), ls, ts⟩ W (show ls.length ≤ 1048576 by omega) (show ts.length ≤ 1048576 by omega) ⟨_, _, rfl, RowAt.then h1 hb, RowAt.then h2 hb⟩)
  have HAR := hide (fun (f : Int) W (hb : Below w.heap.size w W) => sareas_any (.int .i64 (N : Int)) (.slice a1 ls.length c1) (.slice a2 ts.length c2) ls f W (show ls.length ≤ 1048576 by omega) (RowAt.then h1 hb))
  have HBO := hide (fun (f : Int) W (hb : Below w.heap.size w W) => sborder_any (.int .i64 (N : Int)) (.slice a1 ls.length c1) (.slice a2 ts.length c2) ls f W (show ls.length ≤ 1048576 by omega) (RowAt.then h1 hb))
  have HOP := hide (fun (f t r : Int) W (hb : Below w.heap.size w W) => sopen_any (.int .i64 (N : Int)) (.slice a1 ls.length c1) (.slice a2 ts.length c2) (.slice a3 bs.length c3) ls bs f t r W (show ls.length ≤ 1048576 by omega) hbs (RowAt.then h1 hb) (RowAt.then h3 hb))
  have HUP := hide (fun (k : Nat) (b : Bool) (hb : zs[k]? = some b) => h4.cell k b hb)
  have HTH := hide (fun (k : Nat) (t : Th) (ht : ts[k]? = some t) => h2.cells k t ht)
  rw [hbs] at HOP ⊢
  rw [hzs] at HUP ⊢
  have HZL := hide hzs
  have HOK := hide hok
  have HTO := hide htho
  clear hok htho h1 h2 h3 h4 hbs hzs
  have BX0 : Below w.heap.size w (w.alloc (.cells #[.int .i64 (N : Int), .slice a1 ls.length c1, .slice a2 ts.length c2] 45)) := (Below.refl _ _).alloc (Nat.le_refl _) _
  have hx0 : (w.alloc (.cells #[.int .i64 (N : Int), .slice a1 ls.length c1, .slice a2 ts.length c2] 45)).heap[w.heap.size]? = some (.cells #[.int .i64 (N : Int), .slice a1 ls.length c1, .slice a2 ts.length c2] 45) := heap_alloc_new w _
  obtain ⟨w0, hw0⟩ : ∃ W, W = w.alloc (.cells #[.int .i64 (N : Int), .slice a1 ls.length c1, .slice a2 ts.length c2] 45) := ⟨_, rfl⟩
  rw [← hw0] at BX0 hx0
  have LIT := recs_lit w0 w.heap.size BX0.size
  have BX1 : Below w.heap.size w (w0.alloc (.cells #[] 81)) := BX0.alloc BX0.size _
  have hx1 : (w0.alloc (.cells #[] 81)).heap[w.heap.size]? = some (.cells #[.int .i64 (N : Int), .slice a1 ls.length c1, .slice a2 ts.length c2] 45) := by rw [Below.heap_alloc _ _ _ (lt_of_heap hx0)]; exact hx0
  have e0 := cells_at hx1 0
  have e1 := cells_at hx1 1
  have e2 := cells_at hx1 2
  simp at e0 e1 e2
  have HLIT := hide LIT
  have HX1 := hide hx1
  clear LIT BX0 hx0 hx1
  subst hw0
  go_enter Tryd.func28, Tryd.ntmps28
  go_wp2_with fail
  refine (HNO.out _ BX1).mono ?_
  rintro e w2 ⟨rfl, b2⟩
  rw [HOK.out]
  have hx2 := (b2.block _ (lt_of_heap HX1.out)).trans HX1.out
  have B2 : Below w.heap.size w w2 := BX1.trans (b2.mono BX1.size)
  have HS2 := hide ((HLIT.out.below b2 (Nat.le_refl _)).in.wide b2.size)
  have e0 := cells_at hx2 0
  have e1 := cells_at hx2 1
  have e2 := cells_at hx2 2
  simp at e0 e1 e2
  have HX2 := hide hx2
  clear b2 HLIT HX1 hx2 BX1 HNO
  go_wp2
  go_loopw [9, 8] (fun i o wr => ∃ (k : Nat) (x : Value) (qs : List RP), k ≤ N ∧ i = .int .i64 ((k : Int) + 1) ∧ o = x ∧ RecsIn wr wr.heap.size x qs ∧ Hid (fsts qs = idA ls bs zs N k) ∧ tot qs ≤ 21 * k ∧ Below w2.heap.size w2 wr) (fun i _ _ => 8 - (intOf i).toNat)
  case atStart => exact ⟨0, _, [], by omega, rfl, rfl, by have h := HS2.out; simpa using h, hide (by simp [fsts, idA]), by simp [tot], Below.refl _ _⟩
  case round =>
    obtain ⟨k, x, qs, hk, rfl, rfl, hin, HF, htq, hnx⟩ := hrel
    clear HS2 e0 e1 e2
    obtain ⟨xa, xc, rfl⟩ := owns_lenS hin.row
    have hsz := hnx.size
    have BR : Below w.heap.size w wr := B2.trans (hnx.mono B2.size)
    have hxr := (hnx.block _ (lt_of_heap HX2.out)).trans HX2.out
    have e0 := cells_at hxr 0
    have e1 := cells_at hxr 1
    have e2 := cells_at hxr 2
    simp at e0 e1 e2
    have HXR := hide hxr
    have HIN := hide hin
    clear hxr hin
    by_cases hlt : k < N
    · obtain ⟨ub, hub⟩ : ∃ b, zs[k]? = some b := ⟨zs[k]'(by have := HZL.out; omega), List.getElem?_eq_getElem _⟩
      have hkn : (k : Int) + 1 ≤ (N : Int) := by omega
      go_wp2_with fail
      refine (HAR.out ((k : Int) + 1) _ BR).mono ?_
      rintro e w3 ⟨ua, rfl, oa, b3⟩
      have hal := areasL_len ls ((k : Int) + 1)
      have HAU := hide (idA_up (ls := ls) (bs := bs) (N := N) (zs := zs) (k := k))
      have HAD := hide (idA_down (ls := ls) (bs := bs) (N := N) (zs := zs) (k := k))
      obtain ⟨al, HAL⟩ : ∃ al, Hid (al = areasL ls ((k : Int) + 1)) := ⟨_, hide rfl⟩
      rw [← HAL.out] at oa hal HAU
      obtain ⟨la, lc, rfl⟩ := owns_lenS oa
      have hop : HopsAt w3 (.slice la al.length lc) al w3.heap.size := owns_rowAt (by rw [flat_int]; exact oa)
      have HHO := hide hop
      have B3 : Below w.heap.size w w3 := BR.trans (b3.mono BR.size)
      have hx3 := (b3.block _ (lt_of_heap HXR.out)).trans HXR.out
      have e0 := cells_at hx3 0
      have e1 := cells_at hx3 1
      have e2 := cells_at hx3 2
      simp at e0 e1 e2
      have HX3 := hide hx3
      have HI3 := hide ((HIN.out.below b3 (Nat.le_refl _)).wide b3.size)
      have B23 : Below w2.heap.size w2 w3 := hnx.trans (b3.mono hsz)
      have HUB := hide hub
      clear oa hop hx3 b3 HXR HIN hub
      go_wp2
      go_loopw [11, 8] (fun i o wr => ∃ (j : Nat) (x : Value) (ps : List RP), j ≤ al.length ∧ i = .int .i64 (j : Int) ∧ o = x ∧ RecsIn wr wr.heap.size x ps ∧ Hid (fsts ps = areaK ls bs zs N ((k : Int) + 1) al (fsts qs) j) ∧ tot ps ≤ 21 * k + 7 * j ∧ Below w3.heap.size w3 wr ∧ (ub = false → j = 0)) (fun i _ _ => 8 - (intOf i).toNat)
      case atStart => exact ⟨0, _, qs, by omega, rfl, rfl, HI3.out, hide (by simp [areaK]), by omega, Below.refl _ _, fun _ => rfl⟩
      case round =>
        rename World => wa
        obtain ⟨j, x, ps, hj, rfl, rfl, hin, HG, htp, hnx2, hj0⟩ := hrel
        clear HI3 e0 e1 e2
        obtain ⟨xa, xc, rfl⟩ := owns_lenS hin.row
        have hsz2 := hnx2.size
        have BW : Below w.heap.size w wa := B3.trans (hnx2.mono B3.size)
        have hxa := (hnx2.block _ (lt_of_heap HX3.out)).trans HX3.out
        have e0 := cells_at hxa 0
        have e1 := cells_at hxa 1
        have e2 := cells_at hxa 2
        simp at e0 e1 e2
        have HXA := hide hxa
        have HIN := hide hin
        clear hxa hin
        obtain ⟨ug, uo, uc, huv, hug, ucell⟩ := HUP.out k ub HUB.out
        cases huv
        rw [← BW.cell (p := ⟨ug, uo + k, none⟩) hug] at ucell
        by_cases hlj : j < al.length
        · obtain ⟨ar, har⟩ : ∃ a, al[j]? = some a := ⟨al[j], List.getElem?_eq_getElem hlj⟩
          obtain ⟨ag, ao, ac, hav, hag, acell⟩ := HHO.out.cell j ar har
          cases hav
          rw [← hnx2.cell (p := ⟨ag, ao + j, none⟩) hag] at acell
          have hji : (j : Int) < (al.length : Int) := by omega
          have hj00 : (0 : Int) ≤ (j : Int) := by omega
          have HAT := hide har
          clear har
          cases ub
          · have hj1 := hj0 rfl
            have HFN := hide (show fsts ps = idA ls bs zs N (k + 1) by
              have h := HG.out; rw [hj1] at h; rw [h, HAD.out HUB.out, ← HF.out]; rfl)
            have htn : tot ps ≤ 21 * (k + 1) := by omega
            have HBN := hide (B23.trans (hnx2.mono B23.size))
            go_wp2
            go_roundw
            case rel => exact ⟨k + 1, _, ps, by omega, by go_num, rfl, HIN.out, HFN, htn, HBN.out⟩
            case measure => simp [intOf]; omega
          · have HST := hide (NodSt.start wa ((k : Int) + 1) ar)
            have BST := (Below.refl wa.heap.size wa).alloc (Nat.le_refl _) (.cells #[.int .i64 ar, .int .i64 1, .int .i64 ((k : Int) + 1), .int .i64 0, .int .i64 1, .slice none 0 0, .int .i64 0, .bool false] 81)
            have HBS := hide BST
            clear BST
            go_wp2
            go_loopw [13] (fun i wr => ∃ (m : Nat) (nv : Value), m ≤ N ∧ i = .int .i64 ((m : Int) + 1) ∧ NodSt wr wa.heap.size nv (nodRec ((k : Int) + 1) ar (nearK ls bs zs ((k : Int) + 1) ar m)) ∧ Below wa.heap.size wa wr) (fun i _ => 8 - (intOf i).toNat)
            case atStart => exact ⟨0, _, by omega, rfl, HST.out, HBS.out⟩
            case round =>
              obtain ⟨m, nv, hm, rfl, hst, hnx3⟩ := hrel
              clear HST HBS e0 e1 e2 ucell
              have hsz3 := hnx3.size
              have BR3 : Below w.heap.size w wr := BW.trans (hnx3.mono BW.size)
              have hxc := (hnx3.block _ (lt_of_heap HXA.out)).trans HXA.out
              have e0 := cells_at hxc 0
              have e1 := cells_at hxc 1
              have e2 := cells_at hxc 2
              simp at e0 e1 e2
              have hxlt := lt_of_heap hxc
              have HXC := hide hxc
              clear hxc
              rw [← hnx3.cell (p := ⟨ag, ao + j, none⟩) (by show ag < wa.heap.size; omega)] at acell
              have hagr : ag < wr.heap.size := by omega
              have hnl := nearK_len ls bs zs ((k : Int) + 1) ar m
              by_cases hlm : m < N
              · obtain ⟨vb, hvb⟩ : ∃ b, zs[m]? = some b := ⟨zs[m]'(by have := HZL.out; omega), List.getElem?_eq_getElem _⟩
                obtain ⟨vg, vo, vc, hvv, hvg, vcell⟩ := HUP.out m vb hvb
                cases hvv
                have hmn : (m : Int) + 1 ≤ (N : Int) := by omega
                have HVB := hide hvb
                have HNS := hide hst
                have BD : Below w.heap.size w wr.drew := BR3.drew
                clear hvb hst
                go_wp2
                go_region_held3 (fun W => W.cell? ⟨w.heap.size, 0, none⟩ = some (.int .i64 (N : Int)) ∧ W.cell? ⟨w.heap.size, 1, none⟩ = some (.slice a1 ls.length c1) ∧ W.cell? ⟨w.heap.size, 2, none⟩ = some (.slice a2 ts.length c2) ∧ W.cell? ⟨ag, ao + j, none⟩ = some (.int .i64 ar)) (first | (refine ⟨?_, ?_, ?_, ?_⟩ <;> (rw [b5.cell (by assumption)]; assumption)) | go_keep) (first | (go_at_call 39; refine (HOP.out ((k : Int) + 1) ((m : Int) + 1) ar _ BD).mono ?_; rintro e w5 ⟨rfl, b5⟩))
                have B5 : Below wr.heap.size wr w5 := (Below.refl wr.heap.size wr).drew.trans b5
                have BW5 : Below w.heap.size w w5 := BR3.trans (B5.mono BR3.size)
                have BA5 : Below wa.heap.size wa w5 := hnx3.trans (B5.mono hsz3)
                have hz5 := B5.size
                have hst5 := HNS.out.below B5
                obtain ⟨na, nc, hnv⟩ := owns_lenS hst5.2
                subst hnv
                have r5 := cells_at hst5.1 5
                simp [recC] at r5
                have hzlt := lt_of_heap hst5.1
                have f5 := frozen_at hst5.1
                rw [← BW5.cell (p := ⟨ug, uo + m, none⟩) hvg] at vcell
                have hvgr : ug < w5.heap.size := by have := BW5.size; omega
                clear b5 e0 e1 e2 acell HNS BD hvg
                obtain ⟨q, HQ⟩ : ∃ q, Hid (q = openN ls bs ((k : Int) + 1) ((m : Int) + 1) ar) := ⟨_, hide rfl⟩
                rw [← HQ.out]
                have HS5 := hide hst5
                have HB5 := hide BA5
                clear hst5 B5 BA5 BW5
                have hrow : (nodRec ((k : Int) + 1) ar (nearK ls bs zs ((k : Int) + 1) ar m)).near.length = (nearK ls bs zs ((k : Int) + 1) ar m).length := rfl
                rw [hrow] at r5
                obtain ⟨L, HL⟩ : ∃ L, Hid (L = nearK ls bs zs ((k : Int) + 1) ar m) := ⟨_, hide rfl⟩
                rw [← HL.out] at r5 hnl HS5 hrow
                by_cases h0 : 0 < q
                · cases vb
                  · have HNN := hide (show nearK ls bs zs ((k : Int) + 1) ar (m + 1) = L by rw [HL.out]; exact nearK_no HQ.out HVB.out (.inr rfl))
                    go_wp2
                    go_roundw
                    case rel => exact ⟨m + 1, _, by omega, by go_num, by rw [HNN.out]; exact HS5.out, HB5.out⟩
                    case measure => simp [intOf]; omega
                  · have HNN := hide (show nearK ls bs zs ((k : Int) + 1) ar (m + 1) = L ++ [⟨(m : Int) + 1, q⟩] by rw [HL.out]; exact nearK_yes HQ.out h0 HVB.out)
                    have OW := hide HS5.out.2
                    have hwb : wa.heap.size + 1 ≤ (w5.alloc (.cells (nrE ⟨(m : Int) + 1, q⟩).toArray 84)).heap.size := by simp; omega
                    go_wp2_with (first
                      | (at_builtin; refine append_struct6 nrE_len (by omega) (by omega) _ rfl _ _ 79 rfl (wa.heap.size + 1) 84 Tryd.underlying79 (nrV nr0) rfl Tryd.infoNr _ L ⟨(m : Int) + 1, q⟩ (nrE_oneI _) rfl (OW.out.alloc _) ⟨w5.heap.size, 0, none⟩ 1 rfl (news_struct (cs := nrE ⟨(m : Int) + 1, q⟩)) (by omega) hwb ?_))
                    intro v' w7 hown' hgrow hblk
                    obtain ⟨va, vc, rfl⟩ := owns_lenS hown'
                    have hzz : wa.heap.size < w5.heap.size := hzlt
                    have hb7 : w7.heap[wa.heap.size]? = some (.cells (recC (nodRec ((k : Int) + 1) ar L) (.slice na L.length nc)) 81) := by
                      rw [hgrow.block _ (by simp; omega) (fun e => by have := (OW.out.lt _ e.symm).1; omega), Below.heap_alloc _ _ _ hzz]; exact HS5.out.1
                    have f7 := frozen_at hb7
                    have s5 := cells_at hb7 5
                    simp [recC] at s5
                    have h7lt := lt_of_heap hb7
                    have PS := hide (HS5.out.push (y := nodRec ((k : Int) + 1) ar (L ++ [⟨(m : Int) + 1, q⟩])) hgrow (fun _ => rfl) (by simpa [nodRec] using hown'))
                    have PB := hide (((HB5.out.alloc HB5.out.size _).grown hgrow (by have := HB5.out.size; simp; omega) (fun i hi => by have := (OW.out.lt i hi).1; omega)).setCell (p := ⟨wa.heap.size, 5, none⟩) (Nat.le_refl _) (.slice va (L.length + 1) vc))
                    clear hown' hgrow hblk HS5 HB5 OW hb7 r5 f5
                    go_wp2
                    go_roundw
                    case rel => exact ⟨m + 1, _, by omega, by go_num, by rw [HNN.out]; exact PS.out, PB.out⟩
                    case measure => simp [intOf]; omega
                · have HNN := hide (show nearK ls bs zs ((k : Int) + 1) ar (m + 1) = L by rw [HL.out]; exact nearK_no HQ.out HVB.out (.inl h0))
                  go_wp2
                  go_roundw
                  case rel => exact ⟨m + 1, _, by omega, by go_num, by rw [HNN.out]; exact HS5.out, HB5.out⟩
                  case measure => simp [intOf]; omega
              · have hmn : ¬ (m : Int) + 1 ≤ (N : Int) := by omega
                have hmN : m = N := by omega
                have HMN := hide (show nearK ls bs zs ((k : Int) + 1) ar m = nearK ls bs zs ((k : Int) + 1) ar N by rw [hmN])
                clear hmN
                obtain ⟨L, HL⟩ : ∃ L, Hid (L = nearK ls bs zs ((k : Int) + 1) ar m) := ⟨_, hide rfl⟩
                rw [← HL.out] at hst hnl
                obtain ⟨na, nc, hnv⟩ := owns_lenS hst.2
                subst hnv
                have r0 := cells_at hst.1 0
                have r1 := cells_at hst.1 1
                have r2 := cells_at hst.1 2
                have r3 := cells_at hst.1 3
                have r4 := cells_at hst.1 4
                have r5 := cells_at hst.1 5
                have r6 := cells_at hst.1 6
                have r7 := cells_at hst.1 7
                simp [recC, nodRec] at r0 r1 r2 r3 r4 r5 r6 r7
                have hno : NearOwn wr 0 wr.heap.size (nodRec ((k : Int) + 1) ar L, .slice na L.length nc) := ⟨owns_baseS hst.2 (Nat.zero_le _), fun i hi => (hst.2.lt i hi).2⟩
                have htt := tot_put ps (nodRec ((k : Int) + 1) ar L, .slice na L.length nc)
                have hne : (nodRec ((k : Int) + 1) ar L).near.length = L.length := rfl
                have HP := hide (put_any (.slice xa ps.length xc) ps wr.heap.size (nodRec ((k : Int) + 1) ar L, .slice na L.length nc) wr ((HIN.out.below hnx3 (Nat.le_refl _)).wide hnx3.size) (Nat.le_refl _) (by omega) hno)
                have HF2 := hide (show fsts (putL ps (nodRec ((k : Int) + 1) ar L, .slice na L.length nc)) = areaK ls bs zs N ((k : Int) + 1) al (fsts qs) (j + 1) by
                  rw [putL_fsts, areaK_step HAT.out, ← HG.out, HL.out, HMN.out])
                have ht2 : tot (putL ps (nodRec ((k : Int) + 1) ar L, .slice na L.length nc)) ≤ 21 * k + 7 * (j + 1) := by simp only [hne] at htt; omega
                obtain ⟨Q, hQ⟩ : ∃ Q, Q = putL ps (nodRec ((k : Int) + 1) ar L, .slice na L.length nc) := ⟨_, rfl⟩
                rw [← hQ] at HP HF2 ht2
                unfold recC nodRec at HP
                simp only [] at HP
                have HB3 := hide (hnx2.trans (hnx3.mono hsz2))
                clear hno hst htt hQ acell
                go_wp2_with fail
                refine HP.out.mono ?_
                rintro e w6 ⟨o, rfl, ho, b6⟩
                obtain ⟨oa, oc, rfl⟩ := owns_lenS ho.row
                have HO := hide ho
                have HB6 := hide (HB3.out.trans (b6.mono HB3.out.size))
                clear ho b6 HP HB3 r0 r1 r2 r3 r4 r5 r6 r7
                go_wp2
                go_roundw
                case rel => exact ⟨j + 1, _, Q, by omega, by go_num, rfl, HO.out, HF2, ht2, HB6.out, fun h => by simp at h⟩
                case measure => simp [intOf]; omega
        · have hji : ¬ (j : Int) < (al.length : Int) := by omega
          have HFN := hide (show fsts ps = idA ls bs zs N (k + 1) by
            have h := HG.out
            have hjl : j = al.length := by omega
            cases ub
            · rw [hj0 rfl] at h; rw [h, HAD.out HUB.out, ← HF.out]; rfl
            · rw [hjl] at h; rw [h, HAU.out HUB.out, ← HF.out, HAL.out])
          have htn : tot ps ≤ 21 * (k + 1) := by omega
          have HBN := hide (B23.trans (hnx2.mono B23.size))
          clear ucell hug
          go_wp2
          go_roundw
          case rel => exact ⟨k + 1, _, ps, by omega, by go_num, rfl, HIN.out, HFN, htn, HBN.out⟩
          case measure => simp [intOf]; omega
    · have hkn : ¬ (k : Int) + 1 ≤ (N : Int) := by omega
      have hkN : k = N := by omega
      have HF1 := hide (show fsts qs = idA ls bs zs N N by rw [HF.out, hkN])
      have htq1 : tot qs ≤ 126 := by omega
      clear HF htq hkN
      rename World => wb
      go_wp2
      go_loopw [15, 8] (fun i o wr => ∃ (j : Nat) (x : Value) (ps : List RP), j ≤ ts.length ∧ i = .int .i64 (j : Int) ∧ o = x ∧ RecsIn wr wr.heap.size x ps ∧ Hid (fsts ps = idB ts zs (idA ls bs zs N N) j) ∧ tot ps ≤ 126 + j ∧ Below wb.heap.size wb wr) (fun i _ _ => 8 - (intOf i).toNat)
      case atStart => exact ⟨0, _, qs, by omega, rfl, rfl, HIN.out, hide (by rw [HF1.out]; rfl), by omega, Below.refl _ _⟩
      case round =>
        obtain ⟨j, x, ps, hj, rfl, rfl, hin, HG, htp, hnx2⟩ := hrel
        clear HIN e0 e1 e2
        obtain ⟨ya, yc, rfl⟩ := owns_lenS hin.row
        have hsz2 := hnx2.size
        have BW : Below w.heap.size w wr := BR.trans (hnx2.mono BR.size)
        have hxa := (hnx2.block _ (lt_of_heap HXR.out)).trans HXR.out
        have e0 := cells_at hxa 0
        have e1 := cells_at hxa 1
        have e2 := cells_at hxa 2
        simp at e0 e1 e2
        have HXA := hide hxa
        have HI2 := hide hin
        clear hxa hin
        by_cases hlj : j < ts.length
        · obtain ⟨th, hth⟩ : ∃ a, ts[j]? = some a := ⟨ts[j], List.getElem?_eq_getElem hlj⟩
          obtain ⟨tg, to', tc, htv, htg, d0, d1, d2, d3⟩ := HTH.out j th hth
          cases htv
          obtain ⟨ho1, ho2⟩ := HTO.out th (List.mem_of_getElem? hth)
          obtain ⟨m, hm⟩ : ∃ m : Nat, th.o = (m : Int) + 1 := ⟨(th.o - 1).toNat, by omega⟩
          obtain ⟨ub, hub⟩ : ∃ b, zs[m]? = some b := ⟨zs[m]'(by have := HZL.out; omega), List.getElem?_eq_getElem _⟩
          obtain ⟨ug, uo, uc, huv, hug, ucell⟩ := HUP.out m ub hub
          cases huv
          rw [← BW.cell (p := ⟨ug, uo + m, none⟩) hug] at ucell
          rw [← BW.cell (p := ⟨tg, to' + j * 4, none⟩) htg, hm] at d0
          rw [← BW.cell (p := ⟨tg, to' + j * 4 + 1, none⟩) htg] at d1
          rw [← BW.cell (p := ⟨tg, to' + j * 4 + 2, none⟩) htg] at d2
          rw [← BW.cell (p := ⟨tg, to' + j * 4 + 3, none⟩) htg] at d3
          have hmN : (m : Int) < (N : Int) := by omega
          have hji : (j : Int) < (ts.length : Int) := by omega
          have hj00 : (0 : Int) ≤ (j : Int) := by omega
          have hugr : ug < wr.heap.size := by have := BW.size; omega
          have HBA := hide ((Below.refl wr.heap.size wr).alloc (Nat.le_refl _) (.cells #[.int .i64 ((m : Int) + 1), .int .i64 th.k, .int .i64 th.c, .bool th.f] 66))
          cases ub
          · have HGN := hide (show fsts ps = idB ts zs (idA ls bs zs N N) (j + 1) by rw [HG.out, idB_down hth hm hub])
            have HI3 := hide ((HI2.out.below HBA.out (Nat.le_refl _)).wide HBA.out.size)
            have HBN := hide (hnx2.trans (HBA.out.mono hsz2))
            clear hub hth hm
            go_wp2
            go_roundw
            case rel => exact ⟨j + 1, _, ps, by omega, by go_num, rfl, HI3.out, HGN, by omega, HBN.out⟩
            case measure => simp [intOf]; omega
          · have htt := tot_put ps (thgRec th, .slice none 0 0)
            have HP := hide (fun W (b : Below wr.heap.size wr W) => put_any (.slice ya ps.length yc) ps W.heap.size (thgRec th, .slice none 0 0) W ((HI2.out.below b (Nat.le_refl _)).wide b.size) (Nat.le_refl _) (by omega) ⟨World.ownsRow_nil _ _ _ _, fun i hi => by simp [Value.ownBlock] at hi⟩)
            have HGN := hide (show fsts (putL ps (thgRec th, .slice none 0 0)) = idB ts zs (idA ls bs zs N N) (j + 1) by rw [putL_fsts, idB_up hth hm hub, ← HG.out])
            have ht2 : tot (putL ps (thgRec th, .slice none 0 0)) ≤ 126 + (j + 1) := by
              have h0 : (thgRec th, Value.slice none 0 0).1.near.length = 0 := rfl
              rw [h0] at htt; omega
            obtain ⟨Q, hQ⟩ : ∃ Q, Q = putL ps (thgRec th, .slice none 0 0) := ⟨_, rfl⟩
            rw [← hQ] at HP HGN ht2
            unfold recC thgRec at HP
            simp only [hm] at HP
            have HP1 := hide (HP.out _ HBA.out)
            clear hub hth hm htt hQ HP
            go_wp2_with fail
            refine HP1.out.mono ?_
            rintro e w6 ⟨o, rfl, ho, b6⟩
            obtain ⟨oa, oc, rfl⟩ := owns_lenS ho.row
            have HO := hide ho
            have HBN0 := hnx2.trans (HBA.out.mono hsz2)
            have HB6 := hide (HBN0.trans (b6.mono HBN0.size))
            clear ho b6 HP1 HBN0
            go_wp2
            go_roundw
            case rel => exact ⟨j + 1, _, Q, by omega, by go_num, rfl, HO.out, HGN, ht2, HB6.out⟩
            case measure => simp [intOf]; omega
        · have hji : ¬ (j : Int) < (ts.length : Int) := by omega
          have hjN : j = ts.length := by omega
          have HG1 := hide (show fsts ps = idB ts zs (idA ls bs zs N N) ts.length by rw [HG.out, hjN])
          have htp1 : tot ps ≤ 130 := by omega
          clear HG htp hjN HTH HTO
          obtain ⟨X, HX⟩ : ∃ X, Hid (X = idB ts zs (idA ls bs zs N N) ts.length) := ⟨_, hide rfl⟩
          rw [← HX.out] at HG1
          rename World => wc
          go_wp2
          go_loopw [17, 8] (fun i o wr => ∃ (r : Nat) (x : Value) (os : List RP), r ≤ 3 ∧ i = .int .i64 (r : Int) ∧ o = x ∧ RecsIn wr wr.heap.size x os ∧ Hid (fsts os = idR ls zs N X r) ∧ tot os ≤ 130 + 108 * r ∧ Below wc.heap.size wc wr) (fun i _ _ => 8 - (intOf i).toNat)
          case atStart => exact ⟨0, _, ps, by omega, rfl, rfl, HI2.out, hide (by rw [HG1.out]; rfl), by omega, Below.refl _ _⟩
          case round =>
            rename World => wd
            obtain ⟨r, x, os, hr, rfl, rfl, hin, HH, hto, hnx3⟩ := hrel
            clear HI2 e0 e1 e2
            obtain ⟨xo, xp, rfl⟩ := owns_lenS hin.row
            have hsz3 := hnx3.size
            have BD : Below w.heap.size w wd := BW.trans (hnx3.mono BW.size)
            have hxd := (hnx3.block _ (lt_of_heap HXA.out)).trans HXA.out
            have e0 := cells_at hxd 0
            have e1 := cells_at hxd 1
            have e2 := cells_at hxd 2
            simp at e0 e1 e2
            have HXD := hide hxd
            have HI3 := hide hin
            clear hxd hin
            by_cases hlr : r < 3
            · have hri : (r : Int) < 3 := by omega
              have HRN := hide (show idR ls zs N X (r + 1) = idC ls zs (idR ls zs N X r) N from rfl)
              rw [← HH.out] at HRN
              clear HH
              go_wp2
              go_loopw [18, 8] (fun i o wr => ∃ (k : Nat) (x : Value) (us : List RP), k ≤ N ∧ i = .int .i64 ((k : Int) + 1) ∧ o = x ∧ RecsIn wr wr.heap.size x us ∧ Hid (fsts us = idC ls zs (fsts os) k) ∧ tot us ≤ 130 + 108 * r + 18 * k ∧ Below wd.heap.size wd wr) (fun i _ _ => 8 - (intOf i).toNat)
              case atStart => exact ⟨0, _, os, by omega, rfl, rfl, HI3.out, hide (by rfl), by omega, Below.refl _ _⟩
              case round =>
                rename World => we
                obtain ⟨kk, x, us, hkk, rfl, rfl, hin, HJ, htu, hnx4⟩ := hrel
                clear HI3 e0 e1 e2
                obtain ⟨xu, xv, rfl⟩ := owns_lenS hin.row
                have hsz4 := hnx4.size
                have BE : Below w.heap.size w we := BD.trans (hnx4.mono BD.size)
                have hxe := (hnx4.block _ (lt_of_heap HXD.out)).trans HXD.out
                have e0 := cells_at hxe 0
                have e1 := cells_at hxe 1
                have e2 := cells_at hxe 2
                simp at e0 e1 e2
                have HXE := hide hxe
                have HI4 := hide hin
                clear hxe hin
                by_cases hlk : kk < N
                · obtain ⟨ub, hub⟩ : ∃ b, zs[kk]? = some b := ⟨zs[kk]'(by have := HZL.out; omega), List.getElem?_eq_getElem _⟩
                  obtain ⟨ug, uo, uc, huv, hug, ucell⟩ := HUP.out kk ub hub
                  cases huv
                  rw [← BE.cell (p := ⟨ug, uo + kk, none⟩) hug] at ucell
                  have hkn2 : (kk : Int) + 1 ≤ (N : Int) := by omega
                  have HUB := hide hub
                  clear hub
                  cases ub
                  · have HJN := hide (show fsts us = idC ls zs (fsts os) (kk + 1) by rw [HJ.out, idC_no HUB.out (.inl rfl)])
                    go_wp2
                    go_roundw
                    case rel => exact ⟨kk + 1, _, us, by omega, by go_num, rfl, HI4.out, HJN, by omega, hnx4⟩
                    case measure => simp [intOf]; omega
                  · go_wp2_with fail
                    refine (HBO.out ((kk : Int) + 1) _ BE).mono ?_
                    rintro e w7 ⟨rfl, b7⟩
                    have hx7 := (b7.block _ (lt_of_heap HXE.out)).trans HXE.out
                    have e0 := cells_at hx7 0
                    have e1 := cells_at hx7 1
                    have e2 := cells_at hx7 2
                    simp at e0 e1 e2
                    have HX7 := hide hx7
                    have B7 : Below w.heap.size w w7 := BE.trans (b7.mono BE.size)
                    have HB7 := hide (hnx4.trans (b7.mono hsz4))
                    have HI7 := hide ((HI4.out.below b7 (Nat.le_refl _)).wide b7.size)
                    clear hx7 b7 HXE HI4 hnx4 BE ucell
                    obtain ⟨bb, HBB⟩ : ∃ b, Hid (b = bordB ls ((kk : Int) + 1)) := ⟨_, hide rfl⟩
                    rw [← HBB.out]
                    cases bb
                    · have HJN := hide (show fsts us = idC ls zs (fsts os) (kk + 1) by rw [HJ.out, idC_no HUB.out (.inr HBB.out.symm)])
                      go_wp2
                      go_roundw
                      case rel => exact ⟨kk + 1, _, us, by omega, by go_num, rfl, HI7.out, HJN, by omega, HB7.out⟩
                      case measure => simp [intOf]; omega
                    · go_wp2_with fail
                      refine (HAR.out ((kk : Int) + 1) _ B7).mono ?_
                      rintro e w8 ⟨ua, rfl, oa, b8⟩
                      have hal := areasL_len ls ((kk : Int) + 1)
                      have HAU := hide (idC_yes (ls := ls) (zs := zs) (xs := fsts os) HUB.out HBB.out.symm)
                      obtain ⟨al, HAL⟩ : ∃ al, Hid (al = areasL ls ((kk : Int) + 1)) := ⟨_, hide rfl⟩
                      rw [← HAL.out] at oa hal HAU
                      obtain ⟨la, lc, rfl⟩ := owns_lenS oa
                      have hop : HopsAt w8 (.slice la al.length lc) al w8.heap.size := owns_rowAt (by rw [flat_int]; exact oa)
                      have HB8 := hide (HB7.out.trans (b8.mono HB7.out.size))
                      have HP := hide (l13b_any (.slice xu us.length xv) (.slice la al.length lc) us al w8.heap.size ((kk : Int) + 1) w8 ((HI7.out.below b8 (Nat.le_refl _)).wide b8.size) hop (Nat.le_refl _) (by omega) (by omega))
                      clear oa hop b8 HI7 HB7 HAL B7
                      go_wp2_with fail
                      refine HP.out.mono ?_
                      rintro e w9 ⟨o, ns, rfl, hns, ho, htn, b9⟩
                      obtain ⟨oa, oc, rfl⟩ := owns_lenS ho.row
                      have HJN := hide (show fsts ns = idC ls zs (fsts os) (kk + 1) by rw [hns, HJ.out, HAU.out])
                      have HO := hide ho
                      have HB9 := hide (HB8.out.trans (b9.mono HB8.out.size))
                      clear ho b9 HP HB8 hns e0 e1 e2
                      go_wp2
                      go_roundw
                      case rel => exact ⟨kk + 1, _, ns, by omega, by go_num, rfl, HO.out, HJN, by omega, HB9.out⟩
                      case measure => simp [intOf]; omega
                · have hkn2 : ¬ (kk : Int) + 1 ≤ (N : Int) := by omega
                  have hkN : kk = N := by omega
                  have HRF := hide (show fsts us = idR ls zs N X (r + 1) by rw [HRN.out, HJ.out, hkN])
                  have htf : tot us ≤ 130 + 108 * (r + 1) := by omega
                  have HBF := hide (hnx3.trans (hnx4.mono hsz3))
                  clear hkN
                  go_wp2
                  go_roundw
                  case rel => exact ⟨r + 1, _, us, by omega, by go_num, rfl, HI4.out, HRF, htf, HBF.out⟩
                  case measure => simp [intOf]; omega
            · have hri : ¬ (r : Int) < 3 := by omega
              have hr3 : r = 3 := by omega
              have HFI := hide (show fsts os = idealD ls ts bs zs N by unfold idealD; rw [HH.out, hr3, HX.out])
              have HC := hide (copyList_any (.slice xo os.length xp) os wd.heap.size wd HI3.out (Nat.le_refl _) (by omega))
              have HBD := hide BD
              clear hr3 HH
              go_wp2_with fail
              refine HC.out.mono ?_
              rintro e w9 ⟨o, ns, rfl, hns, ho, b9⟩
              have HO := hide (ho.wide HBD.out.size (Nat.le_refl _))
              have HNS := hide (hns.trans HFI.out)
              have HNT := hide (show tot ns ≤ 500 by have h : tot ns = tot os := tot_map hns; omega)
              have HB9 := hide (HBD.out.trans (b9.mono HBD.out.size))
              clear ho hns b9 HC e0 e1 e2
              go_wp2
              (try simp only [Exit.inBlock, Exit.then])
              refine bodyPost_ret (v := .tuple #[o, .bool true]) (by simp [results, Tryd.results28, go_sem]) rfl ?_
              first
                | exact ⟨_, ns, rfl, HNS.out, HNT.out, HO.out, HB9.out⟩
                | exact ⟨_, rfl, ns, HNS.out, HNT.out, HO.out, HB9.out⟩
                | exact ⟨_, ⟨rfl, rfl⟩, ns, HNS.out, HNT.out, HO.out, HB9.out⟩
end Go.Proofs.YthmmpmbnpfhloaaDoor
