/-
  spec.Merge: its contract.
-/
import Derived.Test.YtdaigojpeofmpaaInstS
import Derived.Test.YtdaigojpeofmpaaStoreS
namespace Go.Proofs.Ytdaigojpeofmpaa
open Go.RowKit

set_option linter.unusedSimpArgs false

theorem tot_filt (f : RP → Bool) (ps : List RP) : tot (ps.filter f) ≤ tot ps := by
  induction ps with
  | nil => simp [tot]
  | cons p ps ih =>
    rw [List.filter_cons]
    split
    · rw [tot_cons, tot_cons]; omega
    · rw [tot_cons]; omega

/-- of each record one of the three holds at most -/
theorem tot_two (f g : RP → Bool) (hfg : ∀ p, f p = true → g p = false) (ps : List RP) : tot (ps.filter f) + tot (ps.filter g) ≤ tot ps := by
  induction ps with
  | nil => simp [tot]
  | cons p ps ih =>
    have := hfg p
    by_cases hf : f p = true
    · have hg := this hf
      simp only [List.filter_cons, hf, hg, if_true, Bool.false_eq_true, if_false, tot_cons]
      omega
    · have hf' : f p = false := by simpa using hf
      by_cases hg : g p = true
      · simp only [List.filter_cons, hf', hg, if_true, Bool.false_eq_true, if_false, tot_cons]
        omega
      · have hg' : g p = false := by simpa using hg
        simp only [List.filter_cons, hf', hg', Bool.false_eq_true, if_false, tot_cons]
        omega

theorem before_asym {x y : RecD} (h : beforeB x y = true) : beforeB y x = false := by
  unfold beforeB at *
  simp only [Bool.or_eq_true, Bool.and_eq_true, decide_eq_true_eq, beq_iff_eq] at h
  simp only [Bool.or_eq_false_iff, Bool.and_eq_false_iff, decide_eq_false_iff_not, beq_eq_false_iff_ne]
  omega

theorem tot_put (ps : List RP) (r : RP) : tot (putL ps r) ≤ tot ps + (1 + r.1.near.length) := by
  unfold putL
  rw [tot_append, tot_append]
  have h := tot_two (fun p => beforeB p.1 r.1) (fun p => beforeB r.1 p.1) (fun p hp => before_asym hp) ps
  have e : tot [r] = 1 + r.1.near.length := by simp [tot]
  omega

theorem tot_inst (ps : List RP) (r : RP) : tot (instL ps r) ≤ tot ps + (1 + r.1.near.length) := by
  unfold instL
  split
  · exact tot_put ps r
  · omega

def mergeL (ps ts : List RP) : List RP := if storeB (fsts ps) then ts.foldl instL ps else ps

theorem fold_take {ts : List RP} {k : Nat} {p : RP} (ps : List RP) (h : ts[k]? = some p) : (ts.take (k + 1)).foldl instL ps = instL ((ts.take k).foldl instL ps) p := by
  obtain ⟨hk, e⟩ := List.getElem?_eq_some_iff.1 h
  rw [List.take_succ_eq_append_getElem hk, List.foldl_append, e]
  rfl

theorem tot_fold (ps ts : List RP) : tot (ts.foldl instL ps) ≤ tot ps + tot ts := by
  induction ts generalizing ps with
  | nil => simp [tot]
  | cons t ts ih =>
    rw [List.foldl_cons, tot_cons]
    have h1 := ih (instL ps t)
    have h2 := tot_inst ps t
    omega

set_option maxRecDepth 100000 in
set_option maxHeartbeats 4000000 in
theorem smerge_any (v v2 : Value) (ps ts : List RP) (hi : Nat) (w : World) (hv : RecsIn w hi v ps) (ht : RecsIn w hi v2 ts) (hhi : hi ≤ w.heap.size) (hn : tot ps + tot ts ≤ 1048576) :
    Calls Try.prog 12 #[v, v2] w fun e w' => ∃ x qs, e = .returned x ∧ fsts qs = fsts (mergeL ps ts) ∧ RecsOwn w' w.heap.size w'.heap.size x qs ∧ Below w.heap.size w w' := by
  obtain ⟨LL, hLL⟩ : ∃ L, L = mergeL ps ts := ⟨_, rfl⟩
  rw [← hLL]
  have hnt := tot_len ts
  obtain ⟨a1, c1, rfl⟩ := owns_lenS hv.row
  obtain ⟨ta, tc, rfl⟩ := owns_lenS ht.row
  have HST := hide (fun W (hb : Below w.heap.size w W) => sstoreOk_any (.slice a1 ps.length c1) ps W (by omega) (((hv.below hb hhi).at).more (by have := hb.size; omega)))
  have HV := hide hv
  have HT := hide ht
  have HLL := hide hLL
  clear hv ht hLL
  obtain ⟨q, hq⟩ : ∃ q, q = storeB (fsts ps) := ⟨_, rfl⟩
  rw [← hq] at HST
  have HQ := hide hq
  clear hq
  go_enter Try.func12, Try.ntmps12
  go_wp2
  go_loopw [6, 5] (fun i o wr => ∃ (k : Nat) (u : Value) (l : List RP), k ≤ ts.length ∧ i = .int .i64 k ∧ o = u ∧ Hid (l = (ts.take k).foldl instL ps) ∧ RecsIn wr wr.heap.size u l ∧ (k = 0 ∨ q = true) ∧ Below w.heap.size w wr) (fun i _ _ => ts.length - (intOf i).toNat)
  case atStart => exact ⟨0, _, ps, by omega, rfl, rfl, rfl, HV.out.wide hhi, .inl rfl, Below.refl _ _⟩
  case round =>
    obtain ⟨k, u, l, hk, rfl, rfl, HL, hown, hkq, hnx⟩ := hrel
    obtain ⟨ua, uc, rfl⟩ := owns_lenS hown.row
    have hsz := hnx.size
    have hlt0 : tot l ≤ 1048576 := by
      rw [HL.out]
      have h1 := tot_fold ps (ts.take k)
      have h2 := tot_append (ts.take k) (ts.drop k)
      rw [List.take_append_drop] at h2
      omega
    have HCL := hide (fun W (hb : Below wr.heap.size wr W) => copyList_any (.slice ua l.length uc) l wr.heap.size W (hown.below hb (Nat.le_refl _)) hb.size hlt0)
    by_cases hlt : k < ts.length
    · have hkj : (k : Int) < (ts.length : Int) := by omega
      have hki : (0 : Int) ≤ (k : Int) := by omega
      cases q
      · have hk0 : k = 0 := by rcases hkq with h | h; exact h; cases h
        have HFIN := hide (show l = LL by rw [HL.out, HLL.out, hk0]; unfold mergeL; rw [← HQ.out]; rfl)
        clear hk0 hkq
        go_wp2_with fail
        refine (HST.out _ hnx).mono ?_
        rintro e w1 ⟨rfl, b1⟩
        go_wp2_with fail
        refine (HCL.out _ b1).mono ?_
        rintro e w2 ⟨x, qs, rfl, fq, oq, b2⟩
        obtain ⟨xa, xc, rfl⟩ := owns_lenS oq.row
        have b1s := b1.size
        have OQ := hide (oq.wide (show w.heap.size ≤ w1.heap.size by omega) (Nat.le_refl _))
        have FQ := hide (fq.trans (by rw [HFIN.out]))
        have BF : Below w.heap.size w w2 := (hnx.trans (b1.mono hsz)).trans (b2.mono (by omega))
        clear oq fq
        go_wp2
        go_ret
        first
          | exact ⟨_, qs, rfl, FQ.out, OQ.out, BF⟩
          | exact ⟨_, rfl, qs, FQ.out, OQ.out, BF⟩
      · obtain ⟨p, hp⟩ : ∃ p, ts[k]? = some p := ⟨ts[k], List.getElem?_eq_getElem hlt⟩
        obtain ⟨b, off, cap', hve, hbb, c0, c1, c2, c3, c4, c5, c6, c7, hnr⟩ := HT.out.at.cells k p hp
        cases hve
        obtain ⟨pa, pc, hpn⟩ := NearsAt.shape hnr
        rw [hpn] at c5
        have hbw : b < w.heap.size := by omega
        have hno := (HT.out.nears p (List.mem_of_getElem? hp)).keep (W' := wr) (fun j _ h2 _ => hnx.block j (by omega))
        have HIN := hide (fun W (hb : Below wr.heap.size wr W) => sinst_any (.slice ua l.length uc) l wr.heap.size p W (hown.below hb (Nat.le_refl _)) hb.size hlt0 ((hno.wide (Nat.le_refl _) (by omega)).keep (fun j _ h2 _ => hb.block j h2)) (by have := tot_mem (List.mem_of_getElem? hp); omega))
        have HNX := hide (show instL l p = (ts.take (k + 1)).foldl instL ps by rw [fold_take ps hp, HL.out])
        unfold recC at HIN
        rw [hpn] at HIN
        have HOW := hide hown
        obtain ⟨TT, hTT⟩ : ∃ T, T = takesB (fsts l) p.1 := ⟨_, rfl⟩
        rw [← hTT] at HIN
        have HTT := hide hTT
        clear hp hnr hpn hno hown hTT hkq
        go_wp2_with fail
        refine (HST.out _ hnx).mono ?_
        rintro e w1 ⟨rfl, b1⟩
        have BW1 : Below w.heap.size w w1 := hnx.trans (b1.mono hsz)
        rw [← BW1.cell (p := ⟨b, off + k * 8, none⟩) hbw] at c0
        rw [← BW1.cell (p := ⟨b, off + k * 8 + 1, none⟩) hbw] at c1
        rw [← BW1.cell (p := ⟨b, off + k * 8 + 2, none⟩) hbw] at c2
        rw [← BW1.cell (p := ⟨b, off + k * 8 + 3, none⟩) hbw] at c3
        rw [← BW1.cell (p := ⟨b, off + k * 8 + 4, none⟩) hbw] at c4
        rw [← BW1.cell (p := ⟨b, off + k * 8 + 5, none⟩) hbw] at c5
        rw [← BW1.cell (p := ⟨b, off + k * 8 + 6, none⟩) hbw] at c6
        rw [← BW1.cell (p := ⟨b, off + k * 8 + 7, none⟩) hbw] at c7
        go_wp2_with fail
        refine (HIN.out _ b1).mono ?_
        rintro e w2 ⟨x, rfl, ix, b2⟩
        obtain ⟨xa, xc, rfl⟩ := owns_lenS ix.row
        have b1s := b1.size
        have b2s := b2.size
        have B2 : Below w.heap.size w w2 := BW1.trans (b2.mono (by omega))
        have IX := hide ix
        have KOW := hide ((HOW.out.below (b1.trans (b2.mono b1s)) (Nat.le_refl _)).wide (show wr.heap.size ≤ w2.heap.size by omega))
        clear ix
        cases TT
        · have HNX2 := hide (show l = (ts.take (k + 1)).foldl instL ps by rw [← HNX.out, inst_no HTT.out.symm])
          go_wp2
          go_roundw
          case rel => exact ⟨k + 1, _, l, by omega, by go_num, rfl, HNX2, KOW.out, by simp, B2⟩
          case measure => simp [intOf]; omega
        · go_wp2
          go_roundw
          case rel => exact ⟨k + 1, _, instL l p, by omega, by go_num, rfl, HNX, IX.out, by simp, B2⟩
          case measure => simp [intOf]; omega
    · have HFIN := hide (show l = LL by
        have hkn : k = ts.length := by omega
        rw [HL.out, HLL.out, hkn, List.take_length]
        unfold mergeL
        rw [← HQ.out]
        rcases hkq with h | h
        · have : ts = [] := List.length_eq_zero_iff.1 (by omega)
          rw [this]
          simp
        · rw [h]; rfl)
      clear hkq
      go_wp2_with fail
      refine (HCL.out _ (Below.refl _ _)).mono ?_
      rintro e w2 ⟨x, qs, rfl, fq, oq, b2⟩
      obtain ⟨xa, xc, rfl⟩ := owns_lenS oq.row
      have OQ := hide (oq.wide hsz (Nat.le_refl _))
      have FQ := hide (fq.trans (by rw [HFIN.out]))
      have BF : Below w.heap.size w w2 := hnx.trans (b2.mono hsz)
      clear oq fq
      go_wp2
      go_ret
      first
        | exact ⟨_, qs, rfl, FQ.out, OQ.out, BF⟩
        | exact ⟨_, rfl, qs, FQ.out, OQ.out, BF⟩
end Go.Proofs.Ytdaigojpeofmpaa
