/-
  The ideal records, as values.
  spec.l13Beyond: its walk.
  impl.bestOffers: what holds while it goes on.
-/
import Derived.Test.YthmmpmbnpfhloaaDoorSh35
namespace Go.Proofs.YthmmpmbnpfhloaaDoor
open Go.RowKit

/-- is node k + 1 up? -/
def upB (zs : List Bool) (k : Nat) : Bool := (zs[k]?).getD false

/-- what node v hears of nodes 1 .. k in an area -/
def nearK (ls : List Lk) (bs zs : List Bool) (v a : Int) : Nat → List Nr
  | 0 => []
  | k + 1 => nearK ls bs zs v a k ++ (if decide (0 < openN ls bs v ((k : Int) + 1) a) && upB zs k then [⟨(k : Int) + 1, openN ls bs v ((k : Int) + 1) a⟩] else [])

theorem nearK_len (ls : List Lk) (bs zs : List Bool) (v a : Int) : ∀ k, (nearK ls bs zs v a k).length ≤ k
  | 0 => by simp [nearK]
  | k + 1 => by
    have := nearK_len ls bs zs v a k
    unfold nearK
    rw [List.length_append]
    split <;> simp <;> omega

def nodRec (v a : Int) (near : List Nr) : RecD := ⟨a, 1, v, 0, 1, near, 0, false⟩

def thgRec (t : Th) : RecD := ⟨9, 3, t.o, t.k, 1, [], t.c, t.f⟩

/-- the records of node v in the first j of the areas al, put into xs -/
def areaK (ls : List Lk) (bs zs : List Bool) (N : Nat) (v : Int) (al : List Int) (xs : List RecD) : Nat → List RecD
  | 0 => xs
  | j + 1 => putD (areaK ls bs zs N v al xs j) (nodRec v (al.getD j 0) (nearK ls bs zs v (al.getD j 0) N))

/-- the records of nodes 1 .. k -/
def idA (ls : List Lk) (bs zs : List Bool) (N : Nat) : Nat → List RecD
  | 0 => []
  | k + 1 => if upB zs k then areaK ls bs zs N ((k : Int) + 1) (areasL ls ((k : Int) + 1)) (idA ls bs zs N k) (areasL ls ((k : Int) + 1)).length else idA ls bs zs N k

/-- and of the first k things -/
def idB (ts : List Th) (zs : List Bool) (xs : List RecD) : Nat → List RecD
  | 0 => xs
  | k + 1 => match ts[k]? with
    | some t => if upB zs (t.o - 1).toNat then putD (idB ts zs xs k) (thgRec t) else idB ts zs xs k
    | none => idB ts zs xs k

/-- what borders of 1 .. k tell of beyond -/
noncomputable def idC (ls : List Lk) (zs : List Bool) (xs : List RecD) : Nat → List RecD
  | 0 => xs
  | k + 1 => if upB zs k && bordB ls ((k : Int) + 1) then beyD (idC ls zs xs k) (areasL ls ((k : Int) + 1)) ((k : Int) + 1) else idC ls zs xs k

noncomputable def idR (ls : List Lk) (zs : List Bool) (N : Nat) (xs : List RecD) : Nat → List RecD
  | 0 => xs
  | r + 1 => idC ls zs (idR ls zs N xs r) N

noncomputable def idealD (ls : List Lk) (ts : List Th) (bs zs : List Bool) (N : Nat) : List RecD := idR ls zs N (idB ts zs (idA ls bs zs N N) ts.length) 3

theorem areasL_len (ls : List Lk) (v : Int) : (areasL ls v).length ≤ 3 := by
  unfold areasL
  exact Nat.le_trans (List.length_filter_le _ _) (by simp)

theorem upB_at {zs : List Bool} {k : Nat} {b : Bool} (h : zs[k]? = some b) : upB zs k = b := by simp [upB, h]

theorem areaK_step {ls : List Lk} {bs zs : List Bool} {N : Nat} {v : Int} {al : List Int} {xs : List RecD} {j : Nat} {a : Int} (h : al[j]? = some a) : areaK ls bs zs N v al xs (j + 1) = putD (areaK ls bs zs N v al xs j) (nodRec v a (nearK ls bs zs v a N)) := by
  have : al.getD j 0 = a := by simp [List.getD, h]
  simp only [areaK, this]

theorem nearK_yes {ls : List Lk} {bs zs : List Bool} {v a q : Int} {k : Nat} (hq : q = openN ls bs v ((k : Int) + 1) a) (h0 : 0 < q) (hz : zs[k]? = some true) : nearK ls bs zs v a (k + 1) = nearK ls bs zs v a k ++ [⟨(k : Int) + 1, q⟩] := by
  subst hq
  simp only [nearK, upB_at hz, decide_eq_true h0, Bool.and_self, if_true]

theorem nearK_no {ls : List Lk} {bs zs : List Bool} {v a q : Int} {k : Nat} {b : Bool} (hq : q = openN ls bs v ((k : Int) + 1) a) (hz : zs[k]? = some b) (h0 : ¬ 0 < q ∨ b = false) : nearK ls bs zs v a (k + 1) = nearK ls bs zs v a k := by
  subst hq
  simp only [nearK, upB_at hz]
  rcases h0 with h | h
  · simp [h]
  · subst h; simp

theorem idA_up {ls : List Lk} {bs zs : List Bool} {N k : Nat} (hz : zs[k]? = some true) : idA ls bs zs N (k + 1) = areaK ls bs zs N ((k : Int) + 1) (areasL ls ((k : Int) + 1)) (idA ls bs zs N k) (areasL ls ((k : Int) + 1)).length := by
  simp only [idA, upB_at hz, if_true]

theorem idA_down {ls : List Lk} {bs zs : List Bool} {N k : Nat} (hz : zs[k]? = some false) : idA ls bs zs N (k + 1) = idA ls bs zs N k := by
  simp [idA, upB_at hz]

theorem idB_up {ts : List Th} {zs : List Bool} {xs : List RecD} {k m : Nat} {t : Th} (ht : ts[k]? = some t) (hm : t.o = (m : Int) + 1) (hz : zs[m]? = some true) : idB ts zs xs (k + 1) = putD (idB ts zs xs k) (thgRec t) := by
  have : (t.o - 1).toNat = m := by omega
  simp only [idB, ht, this, upB_at hz, if_true]

theorem idB_down {ts : List Th} {zs : List Bool} {xs : List RecD} {k m : Nat} {t : Th} (ht : ts[k]? = some t) (hm : t.o = (m : Int) + 1) (hz : zs[m]? = some false) : idB ts zs xs (k + 1) = idB ts zs xs k := by
  have : (t.o - 1).toNat = m := by omega
  simp [idB, ht, this, upB_at hz]

theorem idC_yes {ls : List Lk} {zs : List Bool} {xs : List RecD} {k : Nat} (hz : zs[k]? = some true) (hb : bordB ls ((k : Int) + 1) = true) : idC ls zs xs (k + 1) = beyD (idC ls zs xs k) (areasL ls ((k : Int) + 1)) ((k : Int) + 1) := by
  simp [idC, upB_at hz, hb]

theorem idC_no {ls : List Lk} {zs : List Bool} {xs : List RecD} {k : Nat} {b : Bool} (hz : zs[k]? = some b) (hb : b = false ∨ bordB ls ((k : Int) + 1) = false) : idC ls zs xs (k + 1) = idC ls zs xs k := by
  rcases hb with h | h
  · subst h; simp [idC, upB_at hz]
  · simp [idC, h]
end Go.Proofs.YthmmpmbnpfhloaaDoor
namespace Go.Proofs.YthmmpmbnpfhloaaDoor
open Go.RowKit

set_option linter.unusedSimpArgs false

theorem near_oneP {W : World} {lo hi : Nat} {r : RP} (h : NearOwn W lo hi r) : ∀ u ∈ encP r, u.oneCell' = true := by
  obtain ⟨a, c, e⟩ := owns_lenS h.1
  obtain ⟨x, v⟩ := r
  simp only at e
  subst e
  exact encP_one x a _ c

theorem tot_told {qs : List RP} {xs : List RecD} {al : List Int} {src area : Int} (h : IsTold xs al src area (fsts qs)) : tot qs ≤ 6 := by
  have ht := h.tot
  have : ∀ l : List RP, (∀ r ∈ fsts l, r.near = []) → tot l ≤ l.length := by
    intro l
    induction l with
    | nil => intro _; simp [tot]
    | cons q l ih =>
      intro h
      rw [tot_cons, List.length_cons]
      have h1 := h q.1 (by simp [fsts])
      have h2 := ih (fun r hr => h r (by simp only [fsts, List.map_cons, List.mem_cons] at hr ⊢; exact .inr hr))
      rw [h1]
      simp only [List.length_nil]
      omega
  have h1 := this qs ht.2
  have h2 : qs.length ≤ 6 := by simpa [fsts] using ht.1
  omega

def filtK (ps : List RP) (node : Int) (k : Nat) : List RP := (ps.take k).filter (fun p => notHis node p.1)

theorem filtK_len (ps : List RP) (node : Int) (k : Nat) : (filtK ps node k).length ≤ k := by
  unfold filtK
  exact Nat.le_trans (List.length_filter_le _ _) (by rw [List.length_take]; omega)

theorem tot_filtK (ps : List RP) (node : Int) : tot (filtK ps node ps.length) ≤ tot ps := by
  unfold filtK
  rw [List.take_length]
  exact tot_filt _ ps

theorem filtK_fsts (ps : List RP) (node : Int) : fsts (filtK ps node ps.length) = (fsts ps).filter (notHis node) := by
  unfold filtK fsts
  rw [List.take_length, List.filter_map]
  rfl

set_option maxRecDepth 100000 in
set_option maxHeartbeats 4000000 in
theorem l13b_any (v u : Value) (ps : List RP) (al : List Int) (hi : Nat) (node : Int) (w : World) (hv : RecsIn w hi v ps) (ha : HopsAt w u al hi) (hhi : hi ≤ w.heap.size) (hn : tot ps ≤ 100000) (hal : al.length ≤ 1000) :
    Calls Tryd.prog 41 #[v, u, .int .i64 node] w fun e w' => ∃ x qs, e = .returned x ∧ fsts qs = beyD (fsts ps) al node ∧ RecsIn w' w'.heap.size x qs ∧ tot qs ≤ tot ps + 6 * al.length ∧ Below w.heap.size w w' := by
  have hnl := tot_len ps
  obtain ⟨a1, c1, rfl⟩ := owns_lenS hv.row
  obtain ⟨a2, c2, rfl⟩ := ha.shape
  have LIT := recs_lit w w.heap.size (Nat.le_refl _)
  have BX : Below w.heap.size w (w.alloc (.cells #[] 81)) := (Below.refl _ _).alloc (Nat.le_refl _) _
  obtain ⟨w0, hw0⟩ : ∃ W, W = w.alloc (.cells #[] 81) := ⟨_, rfl⟩
  rw [← hw0] at BX LIT
  have HTL := hide (fun (area : Int) W (hb : Below w.heap.size w W) => stell_any (.slice a1 ps.length c1) (.slice a2 al.length c2) ps al hi node area W (hv.below hb hhi) (RowAt.later ha hb hhi) (Nat.le_trans hhi hb.size) (by omega) (by omega))
  have HV := hide hv
  have HA := hide ha
  have HLIT := hide LIT
  clear hv ha LIT
  go_enter Tryd.func41, Tryd.ntmps41
  go_wp2
  rw [← hw0]
  clear hw0
  go_loopw [8, 7] (fun i o wr => ∃ (k : Nat) (x : Value) (qs : List RP), k ≤ al.length ∧ i = .int .i64 (k : Int) ∧ o = x ∧ RecsOwn wr w.heap.size wr.heap.size x qs ∧ Hid (fsts qs = allTold (fsts ps) al node (al.take k)) ∧ tot qs ≤ 6 * k ∧ Below w.heap.size w wr) (fun i _ _ => al.length - (intOf i).toNat)
  case atStart => exact ⟨0, _, [], by omega, rfl, rfl, HLIT.out, hide (by simp [allTold, fsts]), by simp [tot], BX⟩
  case round =>
    obtain ⟨k, x, qs, hk, rfl, rfl, hown, HF, htq, hnx⟩ := hrel
    clear HLIT BX
    obtain ⟨xa, xc, rfl⟩ := owns_lenS hown.row
    have hsz := hnx.size
    have hql := tot_len qs
    by_cases hlt : k < al.length
    · obtain ⟨area, har⟩ : ∃ a, al[k]? = some a := ⟨al[k], List.getElem?_eq_getElem hlt⟩
      obtain ⟨b, off, cap', hve, hbb, c0⟩ := HA.out.cell k area har
      cases hve
      rw [← hnx.cell (p := ⟨b, off + k, none⟩) (by show b < w.heap.size; omega)] at c0
      have hki : (0 : Int) ≤ (k : Int) := by omega
      have hkj : (k : Int) < (al.length : Int) := by omega
      have HAR := hide har
      have HOW := hide hown
      clear har hown
      go_wp2_with fail
      refine (HTL.out area _ hnx).mono ?_
      rintro e w2 ⟨y, bs, rfl, hbs, hob, b2⟩
      obtain ⟨ya, yc, rfl⟩ := owns_lenS hob.row
      have hb2 := b2.size
      have htb := tot_told hbs
      have hbl := tot_len bs
      have HF2 := hide (show fsts (qs ++ bs) = allTold (fsts ps) al node (al.take (k + 1)) by
        rw [allTold_step HAR.out, ← HF.out, ← hbs.eq]
        simp [fsts])
      have HOB := hide hob
      have HB2 := hide b2
      have OW := hide (owns_below HOW.out.row b2 (Nat.le_refl _))
      clear hbs hob b2
      go_wp2_with (first
        | (at_builtin; refine append_rowM (fun l => flat_len encP_len l) (by omega) (by omega) _ rfl _ _ 67 rfl w.heap.size 81 Tryd.underlying67 (.agg (recC zeroRD (.slice none 0 0))) rfl Tryd.infoRec _ qs rfl OW.out wr.heap.size _ bs (fun q hq => near_oneP (HOB.out.nears q hq)) rfl HOB.out.row (by omega) (by omega) ?_))
      intro v' w3 hown' hgrow
      have N1 := hide (HOW.out.join HB2.out hsz HOB.out (by rw [List.length_append]; exact hown') hgrow)
      have N2 := hide ((hnx.trans (HB2.out.mono hsz)).grown hgrow (by omega) (fun j hj => (HOW.out.row.lt j hj).1))
      have ht2 : tot (qs ++ bs) ≤ 6 * (k + 1) := by rw [tot_append]; omega
      obtain ⟨va, vc, rfl⟩ := owns_lenS hown'
      clear hown' hgrow OW HOB HOW HB2
      go_wp2
      go_roundw
      case rel => exact ⟨k + 1, _, qs ++ bs, by omega, by go_num, rfl, by simpa using N1.out, HF2, ht2, N2.out⟩
      case measure => simp [intOf]; omega
    · have hkn : ¬ (k : Int) < (al.length : Int) := by omega
      have HFA := hide (show fsts qs = allTold (fsts ps) al node al by have h := HF.out; rw [List.take_of_length_le (by omega)] at h; exact h)
      have HOW := hide hown
      have ht6 : tot qs ≤ 6 * al.length := by omega
      rename World => wo
      have OL : (wo.alloc (.cells #[] 81)).ownsRow wo.heap.size 81 8 (.slice (some ⟨wo.heap.size, 0, none⟩) 0 0) 0 (flat encP []) := World.ownsRow_lit wo #[] 0 (Nat.le_refl _) (by unfold maxLen; omega) (by simp)
      have BL : Below wo.heap.size wo (wo.alloc (.cells #[] 81)) := (Below.refl _ _).alloc (Nat.le_refl _) _
      obtain ⟨w4, hw4⟩ : ∃ W, W = wo.alloc (.cells #[] 81) := ⟨_, rfl⟩
      rw [← hw4] at OL BL
      have HOL := hide OL
      clear hown HF OL HTL
      go_wp2
      rw [← hw4]
      clear hw4
      go_loopw [10, 9] (fun i o wr => ∃ (j : Nat) (x : Value), j ≤ ps.length ∧ i = .int .i64 (j : Int) ∧ o = x ∧ wr.ownsRow wo.heap.size 81 8 x (filtK ps node j).length (flat encP (filtK ps node j)) ∧ Below wo.heap.size wo wr) (fun i _ _ => ps.length - (intOf i).toNat)
      case atStart => exact ⟨0, _, by omega, rfl, rfl, HOL.out, BL⟩
      case round =>
        obtain ⟨j, x, hj, rfl, rfl, hown, hnx2⟩ := hrel
        clear HOL BL
        obtain ⟨ya, yc, rfl⟩ := owns_lenS hown
        have hsz2 := hnx2.size
        have BW : Below w.heap.size w wr := hnx.trans (hnx2.mono hsz)
        have hfl := filtK_len ps node j
        have OW := hide hown
        clear hown
        by_cases hjl : j < ps.length
        · obtain ⟨p, hp⟩ : ∃ p, ps[j]? = some p := ⟨ps[j], List.getElem?_eq_getElem hjl⟩
          obtain ⟨bb, off, cap', hve, hbb, c0, c1, c2, c3, c4, c5, c6, c7, hnr⟩ := HV.out.at.cells j p hp
          cases hve
          obtain ⟨pa, pc, hpn⟩ := NearsAt.shape hnr
          rw [hpn] at c5
          rw [← BW.cell (p := ⟨bb, off + j * 8, none⟩) (Nat.lt_of_lt_of_le hbb hhi)] at c0
          rw [← BW.cell (p := ⟨bb, off + j * 8 + 1, none⟩) (Nat.lt_of_lt_of_le hbb hhi)] at c1
          rw [← BW.cell (p := ⟨bb, off + j * 8 + 2, none⟩) (Nat.lt_of_lt_of_le hbb hhi)] at c2
          rw [← BW.cell (p := ⟨bb, off + j * 8 + 3, none⟩) (Nat.lt_of_lt_of_le hbb hhi)] at c3
          rw [← BW.cell (p := ⟨bb, off + j * 8 + 4, none⟩) (Nat.lt_of_lt_of_le hbb hhi)] at c4
          rw [← BW.cell (p := ⟨bb, off + j * 8 + 5, none⟩) (Nat.lt_of_lt_of_le hbb hhi)] at c5
          rw [← BW.cell (p := ⟨bb, off + j * 8 + 6, none⟩) (Nat.lt_of_lt_of_le hbb hhi)] at c6
          rw [← BW.cell (p := ⟨bb, off + j * 8 + 7, none⟩) (Nat.lt_of_lt_of_le hbb hhi)] at c7
          have HP := hide hp
          have HPN := hide hpn
          obtain ⟨C, hC⟩ : ∃ C, C = filtK ps node j := ⟨_, rfl⟩
          rw [← hC] at OW hfl ⊢
          have HC := hide hC
          have hki : (0 : Int) ≤ (j : Int) := by omega
          have hkj : (j : Int) < (ps.length : Int) := by omega
          clear hp hpn hnr hC
          by_cases hK : p.1.kind = 2
          · have hdK : (p.1.kind != 2) = false := by simpa using hK
            clear hK
            by_cases hO : p.1.owner = node
            · have hdO : (p.1.owner != node) = false := by simpa using hO
              have HN := hide (show wr.ownsRow wo.heap.size 81 8 (.slice ya C.length yc) (filtK ps node (j + 1)).length (flat encP (filtK ps node (j + 1))) by
                have e : filtK ps node (j + 1) = C := by
                  rw [HC.out]
                  unfold filtK
                  rw [filt_take (fun p => notHis node p.1) HP.out, show notHis node p.1 = false by simp [notHis, hdK, hdO]]
                  simp
                rw [e]
                exact OW.out)
              clear hO OW
              go_wp2
              go_roundw
              case rel => exact ⟨j + 1, _, by omega, by go_num, rfl, HN.out, hnx2⟩
              case measure => simp [intOf]; omega
            · have hdO : (p.1.owner != node) = true := by simpa using hO
              clear hO
              have HST := hide (show filtK ps node (j + 1) = C ++ [(p.1, .slice pa p.1.near.length pc)] by
                rw [HC.out]
                unfold filtK
                rw [filt_take (fun p => notHis node p.1) HP.out, show notHis node p.1 = true by simp [notHis, hdO]]
                simp [← HPN.out])
              go_wp2_with (first
                | (at_builtin; refine append_struct5 encP_len (by omega) (by omega) _ rfl _ _ 67 rfl wo.heap.size 81 Tryd.underlying67 (.agg (recC zeroRD (.slice none 0 0))) rfl Tryd.infoRec _ C (p.1, .slice pa p.1.near.length pc) (encP_one _ _ _ _) rfl (OW.out.alloc _) ⟨wr.heap.size, 0, none⟩ 1 rfl (news_struct (cs := encP (p.1, .slice pa p.1.near.length pc))) (by omega) (by simp; omega) ?_))
              intro v' w6 hown' hgrow
              have N1 := hide (show w6.ownsRow wo.heap.size 81 8 v' (filtK ps node (j + 1)).length (flat encP (filtK ps node (j + 1))) by rw [HST.out]; simpa using hown')
              have N2 := hide ((hnx2.alloc hsz2 _).grown hgrow (by simp; omega) (fun i hi => (OW.out.lt i hi).1))
              obtain ⟨va, vc, rfl⟩ := owns_lenS hown'
              clear hown' hgrow OW HST
              go_wp2
              go_roundw
              case rel => exact ⟨j + 1, _, by omega, by go_num, rfl, N1.out, N2.out⟩
              case measure => simp [intOf]; omega
          · have hdK : (p.1.kind != 2) = true := by simpa using hK
            clear hK
            have HST := hide (show filtK ps node (j + 1) = C ++ [(p.1, .slice pa p.1.near.length pc)] by
              rw [HC.out]
              unfold filtK
              rw [filt_take (fun p => notHis node p.1) HP.out, show notHis node p.1 = true by simp [notHis, hdK]]
              simp [← HPN.out])
            go_wp2_with (first
              | (at_builtin; refine append_struct5 encP_len (by omega) (by omega) _ rfl _ _ 67 rfl wo.heap.size 81 Tryd.underlying67 (.agg (recC zeroRD (.slice none 0 0))) rfl Tryd.infoRec _ C (p.1, .slice pa p.1.near.length pc) (encP_one _ _ _ _) rfl (OW.out.alloc _) ⟨wr.heap.size, 0, none⟩ 1 rfl (news_struct (cs := encP (p.1, .slice pa p.1.near.length pc))) (by omega) (by simp; omega) ?_))
            intro v' w6 hown' hgrow
            have N1 := hide (show w6.ownsRow wo.heap.size 81 8 v' (filtK ps node (j + 1)).length (flat encP (filtK ps node (j + 1))) by rw [HST.out]; simpa using hown')
            have N2 := hide ((hnx2.alloc hsz2 _).grown hgrow (by simp; omega) (fun i hi => (OW.out.lt i hi).1))
            obtain ⟨va, vc, rfl⟩ := owns_lenS hown'
            clear hown' hgrow OW HST
            go_wp2
            go_roundw
            case rel => exact ⟨j + 1, _, by omega, by go_num, rfl, N1.out, N2.out⟩
            case measure => simp [intOf]; omega
        · have hjn : ¬ (j : Int) < (ps.length : Int) := by omega
          have hje : j = ps.length := by omega
          obtain ⟨C, hC⟩ : ∃ C, C = filtK ps node j := ⟨_, rfl⟩
          rw [← hC] at OW hfl ⊢
          have hCt : tot C ≤ tot ps := by rw [hC, hje]; exact tot_filtK ps node
          have HCF := hide (show fsts C = (fsts ps).filter (notHis node) by rw [hC, hje]; exact filtK_fsts ps node)
          have hCn : ∀ p ∈ C, NearOwn wr 0 wr.heap.size p := fun p hp => by
            have hm : p ∈ ps := by rw [hC] at hp; exact List.mem_of_mem_take (List.mem_filter.1 hp).1
            exact ((HV.out.nears p hm).keep (W' := wr) (fun i _ h2 _ => BW.block i (by omega))).wide (Nat.le_refl _) (by omega)
          have HIN : RecsIn wr wr.heap.size (.slice ya C.length yc) C := ⟨owns_baseS OW.out (Nat.zero_le _), fun i hi => (OW.out.lt i hi).2, hCn⟩
          have HALL : RecsIn wr wr.heap.size (.slice xa qs.length xc) qs := ((HOW.out.below hnx2 (Nat.le_refl _)).wide (Nat.le_refl _) hsz2).in
          have HWW := hide (with_any _ _ C qs wr.heap.size wr HIN HALL (Nat.le_refl _) (by omega))
          rw [HCF.out, HFA.out] at HWW
          have HBW := hide BW
          clear hC hje hCn HIN HALL OW HOW HCF HFA BW
          go_wp2_with fail
          refine HWW.out.mono ?_
          rintro e w7 ⟨y, rs, rfl, hf, hin, htt, b7⟩
          obtain ⟨yya, yyc, rfl⟩ := owns_lenS hin.row
          have HE := hide (show fsts rs = beyD (fsts ps) al node from hf)
          have HI := hide hin
          have HB := hide (HBW.out.trans (b7.mono HBW.out.size))
          have hq : tot rs ≤ tot ps + 6 * al.length := by omega
          clear hf hin b7
          go_wp2
          go_ret
          first
            | exact ⟨_, rs, rfl, HE.out, HI.out, hq, HB.out⟩
            | exact ⟨_, rfl, rs, HE.out, HI.out, hq, HB.out⟩
end Go.Proofs.YthmmpmbnpfhloaaDoor
namespace Go.Proofs.YthmmpmbnpfhloaaDoor
open Go.RowKit

set_option linter.unusedSimpArgs false

/-- one cell of a row of the call's own -/
theorem owns_setC {W : World} {base g cap n sz j : Nat} {e : TypeId} {xs : List Value} {u : Value} (h : W.ownsRow base e sz (.slice (some ⟨g, 0, none⟩) n cap) n xs) (hj : j < n * sz) : (W.setCell ⟨g, j, none⟩ u).ownsRow base e sz (.slice (some ⟨g, 0, none⟩) n cap) n (xs.set j u) := by
  rcases h.2 with ⟨e0, _⟩ | ⟨g', cap', cur, e0, hb, hg, hn, hm, hs, ht⟩
  · cases e0
  · injection e0 with e1 _ e3
    injection e1 with e1
    injection e1 with e1
    subst e1
    subst e3
    refine ⟨by rw [List.length_set]; exact h.1, .inr ⟨g, cap, cur.setIfInBounds j u, rfl, hb, heap_setCell_same W g j _ _ u hg, hn, hm, by simpa using hs, ?_⟩⟩
    rw [← ht]
    apply List.ext_getElem?
    intro i
    rw [List.getElem?_take, List.getElem?_set, Array.toList_setIfInBounds, List.getElem?_set]
    have hcl : n * sz ≤ cur.size := by rw [hs]; exact Nat.mul_le_mul_right sz hn
    by_cases hi : i < n * sz
    · rw [if_pos hi, List.getElem?_take, if_pos hi]
      by_cases hij : j = i
      · subst hij
        have h1 : j < cur.toList.length := by rw [Array.length_toList]; omega
        have h2 : j < (cur.toList.take (n * sz)).length := by rw [List.length_take]; omega
        rw [if_pos rfl, if_pos rfl, if_pos h1, if_pos h2]
      · simp [hij]
    · rw [if_neg hi, List.getElem?_take, if_neg hi]
      have : j ≠ i := by omega
      simp [this]

theorem flat_last {b0 : List QP} {b : QP} {u : Value} {l : List Int} : (flat encQ (b0 ++ [b])).set (b0.length * 6 + 5) u = flat encQ (b0 ++ [({ b.1 with hops := l }, u)]) := by
  rw [flat_append, flat_append, List.set_append_right _ _ (by rw [flat_len encQ_len]; omega), flat_len encQ_len, show b0.length * 6 + 5 - b0.length * 6 = 5 by omega]
  rfl

theorem qhop_row_ne {W : World} {lo lo2 hi n size2 : Nat} {v : Value} {xs : List Value} {q : QP} (hq : RHopOwn W lo hi q) (hr : W.ownsRow lo2 26 size2 v n xs) (j : Nat) (hj : q.2.ownBlock = some j) : some j ≠ v.ownBlock := by
  intro e
  rcases hr.2 with ⟨h0, _⟩ | ⟨g, cap, cur, hv, _, hh, _⟩
  · rw [h0] at e; simp [Value.ownBlock] at e
  · rw [hv] at e
    simp [Value.ownBlock] at e
    subst e
    exact own_type_ne2 hq.1 hh (by decide) hj.symm

/-- one more route -/
theorem RtsOwn.push {W Wa W2 : World} {lo : Nat} {v v' : Value} {qs : List QP} {p : QP} (h : RtsOwn W lo W.heap.size v qs) (hb : Below W.heap.size W Wa) (hp : RHopOwn Wa lo Wa.heap.size p) (hap : ∀ q ∈ qs, ApartQ q p)
    (row : W2.ownsRow lo 26 6 v' (qs ++ [p]).length (flat encQ (qs ++ [p]))) (hg : Wa.grownBy W2 v.ownBlock) : RtsOwn W2 lo W2.heap.size v' (qs ++ [p]) where
  row := row
  top := fun k hk => (row.lt k hk).2
  apart := by
    rw [List.pairwise_append]
    exact ⟨h.apart, by simp, fun a ha b hb => by (have : b = p := by simpa using hb); subst this; exact hap a ha⟩
  nears := by
    have rowa := owns_below h.row hb (Nat.le_refl _)
    have key : ∀ q, RHopOwn Wa lo Wa.heap.size q → RHopOwn W2 lo W2.heap.size q := fun q hq =>
      ⟨owns_keepB hq.1 (fun j hj => hg.block j (hq.2 j hj) (qhop_row_ne hq rowa j hj)), fun k hk => Nat.lt_of_lt_of_le (hq.2 k hk) hg.size⟩
    intro q hq
    rcases List.mem_append.1 hq with h1 | h1
    · exact key q (((h.nears q h1).keep (W' := Wa) (fun j _ h2 _ => hb.block j h2)).wide (Nat.le_refl _) hb.size)
    · have : q = p := by simpa using h1
      subst this
      exact key q hp

/-- the last route's hops anew -/
theorem RtsOwn.last {W Wa : World} {lo g n cap : Nat} {u : Value} {l : List Int} {b0 : List QP} {b : QP} (h : RtsOwn W lo W.heap.size (.slice (some ⟨g, 0, none⟩) n cap) (b0 ++ [b])) (hn : (b0 ++ [b]).length = n) (hb : Below W.heap.size W Wa) (hu : Wa.ownsRow W.heap.size 3 1 u l.length (flat intE l)) (hlo : lo ≤ W.heap.size) :
    RtsOwn (Wa.setCell ⟨g, b0.length * 6 + 5, none⟩ u) lo (Wa.setCell ⟨g, b0.length * 6 + 5, none⟩ u).heap.size (.slice (some ⟨g, 0, none⟩) n cap) (b0 ++ [({ b.1 with hops := l }, u)]) := by
  subst hn
  have rowa := owns_below h.row hb (Nat.le_refl _)
  have hG := grown_set Wa g (b0.length * 6 + 5) u
  have row := owns_setC (u := u) (j := b0.length * 6 + 5) rowa (by simp; omega)
  rw [flat_last (l := l)] at row
  have hsz : (Wa.setCell ⟨g, b0.length * 6 + 5, none⟩ u).heap.size = Wa.heap.size := by simp
  have hlen : (b0 ++ [({ b.1 with hops := l }, u)] : List QP).length = (b0 ++ [b]).length := by simp
  have key : ∀ q, RHopOwn Wa lo Wa.heap.size q → RHopOwn (Wa.setCell ⟨g, b0.length * 6 + 5, none⟩ u) lo (Wa.setCell ⟨g, b0.length * 6 + 5, none⟩ u).heap.size q := fun q hq =>
    ⟨owns_keepB hq.1 (fun j hj => hG.block j (hq.2 j hj) (by have := qhop_row_ne hq rowa j hj; simpa [Value.ownBlock] using this)), fun k hk => by rw [hsz]; exact hq.2 k hk⟩
  refine ⟨by rw [hlen]; exact row, fun k hk => ?_, fun q hq => ?_, ?_⟩
  · rw [hsz]; exact (rowa.lt k hk).2
  · rcases List.mem_append.1 hq with h1 | h1
    · exact key q (((h.nears q (List.mem_append.2 (.inl h1))).keep (W' := Wa) (fun j _ h2 _ => hb.block j h2)).wide (Nat.le_refl _) hb.size)
    · have : q = ({ b.1 with hops := l }, u) := by simpa using h1
      subst this
      exact key _ ⟨owns_baseS hu hlo, fun k hk => (hu.lt k hk).2⟩
  · have ha := h.apart
    rw [List.pairwise_append] at ha ⊢
    refine ⟨ha.1, by simp, fun a hA c hC => ?_⟩
    have : c = ({ b.1 with hops := l }, u) := by simpa using hC
    subst this
    intro k hk e
    have h1 := (h.nears a (List.mem_append.2 (.inl hA))).2 k hk
    have h2 := (hu.lt k e).1
    omega

/-- best offers under way -/
structure BI (W : World) (B : Nat) (w2 : World) (qs : List QP) (k : Nat) (x : Value) (bs : List QP) : Prop where
  own : RtsOwn W B W.heap.size x bs
  new : ∀ j, x.ownBlock = some j → w2.heap.size ≤ j
  best : BestQ (fstsQ (qs.take k)) (fstsQ bs)
  off : ∀ b ∈ bs, OffR b.1
  ord : ∀ b ∈ bs, ∀ q ∈ qs.drop k, ¬ ordQ q.1 b.1 < 0
  apartR : ∀ b ∈ bs, ∀ q ∈ qs.drop k, ApartQ b q
  below : Below w2.heap.size w2 W

theorem drop_step {α : Type} {qs : List α} {k : Nat} {q : α} (h : qs[k]? = some q) : qs.drop k = q :: qs.drop (k + 1) := by
  obtain ⟨hk, e⟩ := List.getElem?_eq_some_iff.1 h
  rw [List.drop_eq_getElem_cons hk, e]

theorem fstsQ_take {qs : List QP} {k : Nat} {q : QP} (h : qs[k]? = some q) : fstsQ (qs.take (k + 1)) = fstsQ (qs.take k) ++ [q.1] := by
  obtain ⟨hk, e⟩ := List.getElem?_eq_some_iff.1 h
  unfold fstsQ
  rw [List.take_succ_eq_append_getElem hk, e]
  simp

theorem fstsQ_append (a b : List QP) : fstsQ (a ++ b) = fstsQ a ++ fstsQ b := by simp [fstsQ]

theorem sorted_later {qs : List QP} (hs : SortedQ (fstsQ qs)) {k : Nat} {q : QP} (h : qs[k]? = some q) : ∀ r ∈ qs.drop (k + 1), ¬ ordQ r.1 q.1 < 0 := by
  unfold SortedQ fstsQ at hs
  rw [List.pairwise_map] at hs
  have := List.Pairwise.sublist (List.drop_sublist k qs) hs
  rw [drop_step h] at this
  exact (List.pairwise_cons.1 this).1

theorem apart_later {qs : List QP} (hs : qs.Pairwise ApartQ) {k : Nat} {q : QP} (h : qs[k]? = some q) : ∀ r ∈ qs.drop (k + 1), ApartQ q r := by
  have := List.Pairwise.sublist (List.drop_sublist k qs) hs
  rw [drop_step h] at this
  exact (List.pairwise_cons.1 this).1

theorem BI.offT {W : World} {B : Nat} {w2 : World} {qs bs : List QP} {k : Nat} {x : Value} (_h : BI W B w2 qs k x bs) (hq : ∀ q ∈ qs, OffR q.1) : ∀ y ∈ fstsQ (qs.take k), OffR y := by
  intro y hy
  obtain ⟨q, hq', rfl⟩ := List.mem_map.1 hy
  exact hq q (List.mem_of_mem_take hq')

/-- all best ones are to things before that of the next offer, where the last is -/
theorem BI.lt {W : World} {B : Nat} {w2 : World} {qs b0 : List QP} {b q : QP} {k : Nat} {x : Value} (h : BI W B w2 qs k x (b0 ++ [b])) (hq : ∀ q ∈ qs, OffR q.1) (hk : qs[k]? = some q) (hne : b.1.to ≠ q.1.to) : ∀ c ∈ fstsQ (b0 ++ [b]), c.to < q.1.to := by
  have hob := h.off b (by simp)
  have hoq := hq q (List.mem_of_getElem? hk)
  have h1 := h.ord b (by simp) q (by rw [drop_step hk]; simp)
  rw [hoq.lt hob] at h1
  have hb : b.1.to < q.1.to := by omega
  have hA := h.best.1
  rw [fstsQ_append, List.map_append] at hA
  unfold AscW at hA
  rw [List.pairwise_append] at hA
  intro c hc
  rw [fstsQ_append] at hc
  rcases List.mem_append.1 hc with h2 | h2
  · have := hA.2.2 (wOf c) (List.mem_map_of_mem h2) (wOf b.1) (by simp [fstsQ])
    have h3 : c.to < b.1.to := this
    omega
  · have : c = b.1 := by simpa [fstsQ] using h2
    subst this
    exact hb

theorem BI.worse {W : World} {B : Nat} {w2 : World} {qs b0 : List QP} {b q : QP} {k : Nat} {x : Value} (h : BI W B w2 qs k x (b0 ++ [b])) (hq : ∀ q ∈ qs, OffR q.1) (hk : qs[k]? = some q) (ht : b.1.to = q.1.to) (hne : ordQ b.1 q.1 ≠ 0) : ordQ b.1 q.1 < 0 := by
  have hob := h.off b (by simp)
  have hoq := hq q (List.mem_of_getElem? hk)
  have h1 := h.ord b (by simp) q (by rw [drop_step hk]; simp)
  rw [hoq.lt hob] at h1
  rw [hob.lt hoq]
  have h2 : ¬ (b.1.to = q.1.to ∧ (wOf b.1).cost = (wOf q.1).cost) := fun e => hne ((hob.eq hoq).2 e)
  omega

/-- one more -/
theorem BI.push {W Wa W2 : World} {B : Nat} {w2 : World} {qs bs : List QP} {q : QP} {k : Nat} {x x' : Value} (h : BI W B w2 qs k x bs) (hq : ∀ q ∈ qs, OffR q.1) (hs : SortedQ (fstsQ qs)) (ha : qs.Pairwise ApartQ) (hk : qs[k]? = some q) (hlt : ∀ c ∈ fstsQ bs, c.to < q.1.to)
    (hb : Below W.heap.size W Wa) (hp : RHopOwn Wa B Wa.heap.size q) (row : W2.ownsRow B 26 6 x' (bs ++ [q]).length (flat encQ (bs ++ [q]))) (hg : Wa.grownBy W2 x.ownBlock) (hat : ∀ j, x'.ownBlock = some j → x.ownBlock = some j ∨ Wa.heap.size ≤ j) : BI W2 B w2 qs (k + 1) x' (bs ++ [q]) where
  own := h.own.push hb hp (fun b hb' => h.apartR b hb' q (by rw [drop_step hk]; simp)) row hg
  new := fun j hj => by
    rcases hat j hj with h1 | h1
    · exact h.new j h1
    · have := h.below.size
      have := hb.size
      omega
  best := by
    rw [fstsQ_take hk, fstsQ_append]
    exact h.best.push (h.offT hq) (hq q (List.mem_of_getElem? hk)) hlt
  off := fun b hb' => by
    rcases List.mem_append.1 hb' with h1 | h1
    · exact h.off b h1
    · have : b = q := by simpa using h1
      subst this
      exact hq b (List.mem_of_getElem? hk)
  ord := fun b hb' r hr => by
    rcases List.mem_append.1 hb' with h1 | h1
    · exact h.ord b h1 r (by rw [drop_step hk]; exact List.mem_cons_of_mem _ hr)
    · have : b = q := by simpa using h1
      subst this
      exact sorted_later hs hk r hr
  apartR := fun b hb' r hr => by
    rcases List.mem_append.1 hb' with h1 | h1
    · exact h.apartR b h1 r (by rw [drop_step hk]; exact List.mem_cons_of_mem _ hr)
    · have : b = q := by simpa using h1
      subst this
      exact apart_later ha hk r hr
  below := (h.below.trans (hb.mono h.below.size)).grown hg (Nat.le_trans h.below.size hb.size) h.new

/-- one that is worse -/
theorem BI.pass {W Wa : World} {B : Nat} {w2 : World} {qs b0 : List QP} {b q : QP} {k : Nat} {x : Value} (h : BI W B w2 qs k x (b0 ++ [b])) (hq : ∀ q ∈ qs, OffR q.1) (hk : qs[k]? = some q) (ht : b.1.to = q.1.to) (hne : ordQ b.1 q.1 ≠ 0) (hb : Below W.heap.size W Wa) : BI Wa B w2 qs (k + 1) x (b0 ++ [b]) where
  own := (h.own.below hb (Nat.le_refl _)).wide (Nat.le_refl _) hb.size
  new := h.new
  best := by
    rw [fstsQ_take hk, fstsQ_append]
    have h1 := h.best
    rw [fstsQ_append] at h1
    exact h1.pass (h.offT hq) (h.off b (by simp)) (hq q (List.mem_of_getElem? hk)) ht (h.worse hq hk ht hne)
  off := h.off
  ord := fun c hc r hr => h.ord c hc r (by rw [drop_step hk]; exact List.mem_cons_of_mem _ hr)
  apartR := fun c hc r hr => h.apartR c hc r (by rw [drop_step hk]; exact List.mem_cons_of_mem _ hr)
  below := h.below.trans (hb.mono h.below.size)

/-- one as good as the last -/
theorem BI.join {W Wa : World} {B g n cap : Nat} {w2 : World} {qs b0 : List QP} {b q : QP} {k : Nat} {u : Value} (h : BI W B w2 qs k (.slice (some ⟨g, 0, none⟩) n cap) (b0 ++ [b])) (hn : (b0 ++ [b]).length = n) (hq : ∀ q ∈ qs, OffR q.1) (hk : qs[k]? = some q) (he : ordQ b.1 q.1 = 0) (hB : B ≤ w2.heap.size) (hqt : ∀ r ∈ qs, ∀ j, r.2.ownBlock = some j → j < w2.heap.size)
    (hb : Below W.heap.size W Wa) (hu : Wa.ownsRow W.heap.size 3 1 u (hopsI b.1.hops q.1.hops).length (flat intE (hopsI b.1.hops q.1.hops))) : BI (Wa.setCell ⟨g, b0.length * 6 + 5, none⟩ u) B w2 qs (k + 1) (.slice (some ⟨g, 0, none⟩) n cap) (b0 ++ [({ b.1 with hops := hopsI b.1.hops q.1.hops }, u)]) where
  own := h.own.last hn hb hu (Nat.le_trans hB h.below.size)
  new := h.new
  best := by
    rw [fstsQ_take hk, fstsQ_append]
    have h1 := h.best
    rw [fstsQ_append] at h1
    exact h1.join (h.offT hq) (h.off b (by simp)) (hq q (List.mem_of_getElem? hk)) he
  off := fun c hc => by
    rcases List.mem_append.1 hc with h1 | h1
    · exact h.off c (List.mem_append.2 (.inl h1))
    · have : c = ({ b.1 with hops := hopsI b.1.hops q.1.hops }, u) := by simpa using h1
      subst this
      have hb' := h.off b (by simp)
      have hq' := hq q (List.mem_of_getElem? hk)
      exact ⟨hb'.thing, hb'.kind, hb'.cost, hb'.far, hopsI_asc _ _, fun z hz => by
        rcases hopsI_mem.1 hz with h2 | h2
        · exact hb'.hop6 z h2
        · exact hq'.hop6 z h2, hb'.node⟩
  ord := fun c hc r hr => by
    have hr' : r ∈ qs.drop k := by rw [drop_step hk]; exact List.mem_cons_of_mem _ hr
    rcases List.mem_append.1 hc with h1 | h1
    · exact h.ord c (List.mem_append.2 (.inl h1)) r hr'
    · have : c = ({ b.1 with hops := hopsI b.1.hops q.1.hops }, u) := by simpa using h1
      subst this
      exact h.ord b (by simp) r hr'
  apartR := fun c hc r hr => by
    have hr' : r ∈ qs.drop k := by rw [drop_step hk]; exact List.mem_cons_of_mem _ hr
    rcases List.mem_append.1 hc with h1 | h1
    · exact h.apartR c (List.mem_append.2 (.inl h1)) r hr'
    · have : c = ({ b.1 with hops := hopsI b.1.hops q.1.hops }, u) := by simpa using h1
      subst this
      intro j hj e
      have h2 := (hu.lt j hj).1
      have h3 := hqt r (List.mem_of_mem_drop hr) j e
      have := h.below.size
      omega
  below := (h.below.trans (hb.mono h.below.size)).grown (grown_set Wa g _ u) (Nat.le_trans h.below.size hb.size) (fun j hj => h.new j hj)
end Go.Proofs.YthmmpmbnpfhloaaDoor
