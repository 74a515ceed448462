/-
  impl.Merge: its contract.
-/
import Derived.Test.YtmpfjlkncpckgaaPutI
import Derived.Test.YtmpfjlkncpckgaaOwnI
namespace Go.Proofs.Ytmpfjlkncpckgaa
open Go.RowKit

set_option linter.unusedSimpArgs false

def instD (xs : List RecD) (r : RecD) : List RecD := if takesB xs r then putD xs r else xs

def mergeD (xs ts : List RecD) : List RecD := if storeB xs then ts.foldl instD xs else xs

theorem instL_fsts (ps : List RP) (r : RP) : fsts (instL ps r) = instD (fsts ps) r.1 := by
  unfold instL instD
  cases takesB (fsts ps) r.1
  · rfl
  · exact putL_fsts ps r

theorem fold_fsts (ps ts : List RP) : fsts (ts.foldl instL ps) = (fsts ts).foldl instD (fsts ps) := by
  induction ts generalizing ps with
  | nil => rfl
  | cons t ts ih => rw [List.foldl_cons, ih, instL_fsts]; rfl

theorem mergeL_fsts (ps ts : List RP) : fsts (mergeL ps ts) = mergeD (fsts ps) (fsts ts) := by
  unfold mergeL mergeD
  cases storeB (fsts ps)
  · rfl
  · exact fold_fsts ps ts

theorem asc_filter {xs : List RecD} (h : Asc xs) (f : RecD → Bool) : Asc (xs.filter f) := List.Pairwise.filter f h

theorem asc_putD {xs : List RecD} (h : Asc xs) (r : RecD) : Asc (putD xs r) := by
  unfold putD Asc
  rw [List.append_assoc, List.pairwise_append]
  refine ⟨asc_filter h _, ?_, ?_⟩
  · rw [List.pairwise_append]
    refine ⟨by simp, asc_filter h _, ?_⟩
    intro a ha b hb
    have : a = r := by simpa using ha
    subst this
    simpa using (List.mem_filter.1 hb).2
  · intro a ha b hb
    have h1 : beforeB a r = true := by simpa using (List.mem_filter.1 ha).2
    rcases List.mem_append.1 hb with h2 | h2
    · have : b = r := by simpa using h2
      subst this
      exact h1
    · have h3 : beforeB r b = true := by simpa using (List.mem_filter.1 h2).2
      exact bef_trans h1 h3

theorem asc_instD {xs : List RecD} (h : Asc xs) (r : RecD) : Asc (instD xs r) := by
  unfold instD
  split
  · exact asc_putD h r
  · exact h

theorem store_asc_of {xs : List RecD} (h : storeB xs = true) : Asc xs := by
  unfold storeB at h
  simp only [Bool.and_eq_true] at h
  exact asc_of h.2

set_option maxRecDepth 100000 in
set_option maxHeartbeats 4000000 in
theorem imerge_any (v v2 : Value) (ps ts : List RP) (hi : Nat) (w : World) (hv : RecsIn w hi v ps) (ht : RecsIn w hi v2 ts) (hhi : hi ≤ w.heap.size) (hn : tot ps + tot ts ≤ 1048576) :
    Calls Try.prog 38 #[v, v2] w fun e w' => ∃ x qs, e = .returned x ∧ fsts qs = mergeD (fsts ps) (fsts ts) ∧ RecsOwn w' w.heap.size w'.heap.size x qs ∧ Below w.heap.size w w' := by
  have hnt := tot_len ts
  obtain ⟨a1, c1, rfl⟩ := owns_lenS hv.row
  obtain ⟨ta, tc, rfl⟩ := owns_lenS ht.row
  have HST := hide (fun W (hb : Below w.heap.size w W) => istoreOk_any (.slice a1 ps.length c1) ps W (by omega) (((hv.below hb hhi).at).more (by have := hb.size; omega)))
  have HOW := hide (ownList_any (.slice a1 ps.length c1) ps hi w hv hhi (by omega))
  have HT := hide ht
  clear hv ht
  obtain ⟨MM, hMM⟩ : ∃ X, X = mergeD (fsts ps) (fsts ts) := ⟨_, rfl⟩
  rw [← hMM]
  have HM := hide hMM
  clear hMM
  obtain ⟨q, hq⟩ : ∃ q, q = storeB (fsts ps) := ⟨_, rfl⟩
  rw [← hq] at HST
  have HQ := hide hq
  clear hq
  go_enter Try.func38, Try.ntmps38
  go_wp2_with fail
  refine HOW.out.mono ?_
  rintro e w1 ⟨x1, q1, rfl, f1, o1, b1⟩
  obtain ⟨xa, xc, rfl⟩ := owns_lenS o1.row
  have F1 := hide f1
  have O1 := hide o1
  clear f1 o1
  go_wp2_with fail
  refine (HST.out _ b1).mono ?_
  rintro e w2 ⟨rfl, b2⟩
  have b2s := b2.size
  have O2 := hide ((O1.out.below b2 (Nat.le_refl _)).wide (Nat.le_refl _) b2s)
  have B2 : Below w.heap.size w w2 := b1.trans (b2.mono b1.size)
  clear O1 b1 b2
  cases q
  · have HF := hide (show fsts q1 = MM by rw [F1.out, HM.out]; unfold mergeD; rw [← HQ.out]; rfl)
    go_wp2
    go_ret
    first
      | exact ⟨_, q1, rfl, HF.out, O2.out, B2⟩
      | exact ⟨_, rfl, q1, HF.out, O2.out, B2⟩
  have A1 := hide (show Asc (fsts q1) by rw [F1.out]; exact store_asc_of HQ.out.symm)
  go_wp2
  go_loopw [16, 5] (fun i o wr => ∃ (k : Nat) (u : Value) (l : List RP), k ≤ ts.length ∧ i = .int .i64 k ∧ o = u ∧ Hid (fsts l = fsts ((ts.take k).foldl instL ps)) ∧ RecsOwn wr w.heap.size wr.heap.size u l ∧ Hid (Asc (fsts l)) ∧ Below w.heap.size w wr) (fun i _ _ => ts.length - (intOf i).toNat)
  case atStart => exact ⟨0, _, q1, by omega, rfl, rfl, F1, O2.out, A1, B2⟩
  case round =>
    obtain ⟨k, u, l, hk, rfl, rfl, HL, hown, HA, hnx⟩ := hrel
    obtain ⟨ua, uc, rfl⟩ := owns_lenS hown.row
    have hsz := hnx.size
    have hlt0 : tot l ≤ 1048576 := by
      rw [tot_map HL.out]
      have h1 := tot_fold ps (ts.take k)
      have h2 := tot_append (ts.take k) (ts.drop k)
      rw [List.take_append_drop] at h2
      omega
    by_cases hlt : k < ts.length
    · have hkj : (k : Int) < (ts.length : Int) := by omega
      have hki : (0 : Int) ≤ (k : Int) := by omega
      obtain ⟨p, hp⟩ : ∃ p, ts[k]? = some p := ⟨ts[k], List.getElem?_eq_getElem hlt⟩
      obtain ⟨b, off, cap', hve, hbb, c0, c1, c2, c3, c4, c5, c6, c7, hnr⟩ := HT.out.at.cells k p hp
      cases hve
      obtain ⟨pa, pc, hpn⟩ := NearsAt.shape hnr
      rw [hpn] at c5
      have hbw : b < w.heap.size := by omega
      rw [← hnx.cell (p := ⟨b, off + k * 8, none⟩) hbw] at c0
      rw [← hnx.cell (p := ⟨b, off + k * 8 + 1, none⟩) hbw] at c1
      rw [← hnx.cell (p := ⟨b, off + k * 8 + 2, none⟩) hbw] at c2
      rw [← hnx.cell (p := ⟨b, off + k * 8 + 3, none⟩) hbw] at c3
      rw [← hnx.cell (p := ⟨b, off + k * 8 + 4, none⟩) hbw] at c4
      rw [← hnx.cell (p := ⟨b, off + k * 8 + 5, none⟩) hbw] at c5
      rw [← hnx.cell (p := ⟨b, off + k * 8 + 6, none⟩) hbw] at c6
      rw [← hnx.cell (p := ⟨b, off + k * 8 + 7, none⟩) hbw] at c7
      have hno := ((HT.out.nears p (List.mem_of_getElem? hp)).keep (W' := wr) (fun j _ h2 _ => hnx.block j (by omega))).wide (Nat.le_refl _) (show hi ≤ wr.heap.size by omega)
      have hpl : p.1.near.length ≤ 1048576 := by have := tot_mem (List.mem_of_getElem? hp); omega
      have BY : Below wr.heap.size wr (wr.alloc (.cells #[.int .i64 p.1.area, .int .i64 p.1.kind, .int .i64 p.1.owner, .int .i64 p.1.key, .int .i64 p.1.seq, .slice pa p.1.near.length pc, .int .i64 p.1.cost, .bool p.1.far] 26)) := (Below.refl _ _).alloc (Nat.le_refl _) _
      have hy := heap_alloc_new wr (.cells #[.int .i64 p.1.area, .int .i64 p.1.kind, .int .i64 p.1.owner, .int .i64 p.1.key, .int .i64 p.1.seq, .slice pa p.1.near.length pc, .int .i64 p.1.cost, .bool p.1.far] 26)
      obtain ⟨wy, hwy⟩ : ∃ W, W = wr.alloc (.cells #[.int .i64 p.1.area, .int .i64 p.1.kind, .int .i64 p.1.owner, .int .i64 p.1.key, .int .i64 p.1.seq, .slice pa p.1.near.length pc, .int .i64 p.1.cost, .bool p.1.far] 26) := ⟨_, rfl⟩
      rw [← hwy] at BY hy
      have hys := lt_of_heap hy
      have HTK := hide (takes_any (.slice ua l.length uc) l wr.heap.size p wy (hown.in.below BY (Nat.le_refl _)) BY.size hlt0 (hno.keep (fun j _ h2 _ => BY.block j h2)) hpl)
      have HOR := hide (fun W (hb : Below wr.heap.size wr W) => ownRec_any p.1 p.2 0 W (hno.keep (fun j _ h2 _ => hb.block j h2)).1 hpl)
      have HPT := hide (fun (v' : Value) W (h1 : RecsOwn W w.heap.size W.heap.size (.slice ua l.length uc) l) h2 h3 h4 => iput_any (.slice ua l.length uc) l w.heap.size (p.1, v') W h1 h2 hlt0 HA.out h3 h4)
      have HFT := hide (fold_take ps hp)
      unfold recC at *
      rw [hpn] at HTK HOR
      have OWN := hide hown
      obtain ⟨T, hT⟩ : ∃ T, T = takesB (fsts l) p.1 := ⟨_, rfl⟩
      rw [← hT] at HTK
      have HTT := hide hT
      clear hT hnr hno hpn hp hown
      go_wp2_with fail
      rw [← hwy]
      clear hwy
      refine HTK.out.mono ?_
      rintro e w3 ⟨rfl, b3⟩
      have b3s := b3.size
      have bys := BY.size
      have B3 : Below wr.heap.size wr w3 := BY.trans (b3.mono BY.size)
      have hy3 := (b3.block _ hys).trans hy
      have d0 := cells_at hy3 0
      have d1 := cells_at hy3 1
      have d2 := cells_at hy3 2
      have d3 := cells_at hy3 3
      have d4 := cells_at hy3 4
      have d5 := cells_at hy3 5
      have d6 := cells_at hy3 6
      have d7 := cells_at hy3 7
      simp at d0 d1 d2 d3 d4 d5 d6 d7
      clear hy b3 HTK c0 c1 c2 c3 c4 c5 c6 c7
      cases T
      · have HN := hide (show fsts l = fsts ((ts.take (k + 1)).foldl instL ps) by rw [HFT.out, instL_fsts, ← HL.out]; unfold instD; rw [← HTT.out]; rfl)
        have OW3 := hide ((OWN.out.below B3 (Nat.le_refl _)).wide (Nat.le_refl _) (show wr.heap.size ≤ w3.heap.size by omega))
        go_wp2
        go_roundw
        case rel => exact ⟨k + 1, _, l, by omega, by go_num, rfl, HN, OW3.out, HA, hnx.trans (B3.mono hsz)⟩
        case measure => simp [intOf]; omega
      · have HN := hide (show ∀ l' : List RP, fsts l' = putD (fsts l) p.1 → fsts l' = fsts ((ts.take (k + 1)).foldl instL ps) ∧ Asc (fsts l') from fun l' h => by
          rw [HFT.out, instL_fsts, ← HL.out, h]
          refine ⟨?_, asc_putD HA.out _⟩
          unfold instD
          rw [← HTT.out]
          rfl)
        go_wp2_with fail
        refine (HOR.out _ B3).mono ?_
        rintro e w4 ⟨n1, rfl, o4, b4⟩
        have b4s := b4.size
        have B4 : Below wr.heap.size wr w4 := B3.trans (b4.mono (by omega))
        have hr4 : NearOwn w4 w.heap.size w4.heap.size (p.1, n1) := ⟨owns_baseS o4 (by omega), fun k hk => (o4.lt k hk).2⟩
        have hap : ∀ q ∈ l, Apart q (p.1, n1) := fun q hq k h1 h2 => by
          have h3 := (OWN.out.nears q hq).2 k h1
          have h4 := (o4.lt k h2).1
          omega
        have HP4 := HPT.out n1 w4 ((OWN.out.below B4 (Nat.le_refl _)).wide (Nat.le_refl _) (by omega)) (by omega) hr4 hap
        obtain ⟨na, nc, rfl⟩ := owns_lenS o4
        have HP5 := hide HP4
        clear HP4 hap hr4 o4 HPT HOR
        go_wp2_with fail
        refine HP5.out.mono ?_
        rintro e w5 ⟨x5, q5, rfl, f5, o5, b5⟩
        obtain ⟨x5a, x5c, rfl⟩ := owns_lenS o5.row
        have N5 := HN.out q5 f5
        have NF := hide N5.1
        have NA := hide N5.2
        have O5 := hide o5
        have B5 : Below w.heap.size w w5 := (hnx.trans (B4.mono hsz)).trans b5
        clear N5 f5 o5 b5 HN HP5 d0 d1 d2 d3 d4 d5 d6 d7
        go_wp2
        go_roundw
        case rel => exact ⟨k + 1, _, q5, by omega, by go_num, rfl, NF, O5.out, NA, B5⟩
        case measure => simp [intOf]; omega
    · have hkn : ¬ (k : Int) < (ts.length : Int) := by omega
      have KN := hide (show k = ts.length by omega)
      have HF := hide (show fsts l = MM by
        rw [HL.out, KN.out, List.take_length, fold_fsts, HM.out]
        unfold mergeD
        rw [← HQ.out]
        rfl)
      have OWN := hide hown
      clear hown
      go_wp2
      go_ret
      first
        | exact ⟨_, l, rfl, HF.out, OWN.out, hnx⟩
        | exact ⟨_, rfl, l, HF.out, OWN.out, hnx⟩
end Go.Proofs.Ytmpfjlkncpckgaa
