/-
  spec.Merge: its contract.
  slices.BinarySearchFunc at lists of records: its contract.
  A record put into a list in order: the plain mathematics.
  A record put over one of a list of the caller's own.
  impl's put: a record put into a list in order.
  laws.markRecordS: just the list's own blocks turn.
  What the laws of lists of records want.
-/
import Derived.Test.YtmijnjnihhemgaaGreatQm9
import Derived.Test.YtmijnjnihhemgaaGreatQm15
import Derived.Test.YtmijnjnihhemgaaGreatQm6
import Derived.Test.YtmijnjnihhemgaaGreatQm14
namespace Go.Proofs.YtmijnjnihhemgaaGreat
open Go.RowKit
set_option linter.unusedSimpArgs false
set_option linter.unusedVariables false
set_option maxRecDepth 100000
set_option maxHeartbeats 8000000
theorem tot_filt (f : RP → Bool) (ps : List RP) : tot (ps.filter f) ≤ tot ps := by
 induction ps with
 | nil => simp [tot]
 | cons p ps ih =>
  rw [List.filter_cons]
  split
  ·rw [tot_cons, tot_cons]; omega
  ·rw [tot_cons]; omega
theorem tot_two (f g : RP → Bool) (hfg : ∀ p, f p = true → g p = false) (ps : List RP) : tot (ps.filter f) + tot (ps.filter g) ≤ tot ps := by
 induction ps with
 | nil => simp [tot]
 | cons p ps ih =>
  have := hfg p
  by_cases hf : f p = true
  ·have hg := this hf
   simp only [List.filter_cons, hf, hg, if_true, Bool.false_eq_true, if_false, tot_cons]
   omega
  ·have hf' : f p = false := by simpa using hf
   by_cases hg : g p = true
   ·simp only [List.filter_cons, hf', hg, if_true, Bool.false_eq_true, if_false, tot_cons]
    omega
   ·have hg' : g p = false := by simpa using hg
    simp only [List.filter_cons, hf', hg', Bool.false_eq_true, if_false, tot_cons]
    omega
theorem before_asym {x y : RecD} (h : beforeB x y = true) : beforeB y x = false := by
 unfold beforeB at *
 simp only [Bool.or_eq_true, Bool.and_eq_true, decide_eq_true_eq, beq_iff_eq] at h
 simp only [Bool.or_eq_false_iff, Bool.and_eq_false_iff, decide_eq_false_iff_not, beq_eq_false_iff_ne]
 omega
theorem tot_put (ps : List RP) (r : RP) : tot (putL ps r) ≤ tot ps + (1 + r.1.near.length) := by
 unfold putL
 rw [tot_append, tot_append]
 have h := tot_two (fun p => beforeB p.1 r.1) (fun p => beforeB r.1 p.1) (fun p hp => before_asym hp) ps
 have e : tot [r] = 1 + r.1.near.length := by simp [tot]
 omega
theorem tot_inst (ps : List RP) (r : RP) : tot (instL ps r) ≤ tot ps + (1 + r.1.near.length) := by
 unfold instL
 split
 ·exact tot_put ps r
 ·omega
def mergeL (ps ts : List RP) : List RP := if storeB (fsts ps) then ts.foldl instL ps else ps
theorem fold_take {ts : List RP} {k : Nat} {p : RP} (ps : List RP) (h : ts[k]? = some p) : (ts.take (k + 1)).foldl instL ps = instL ((ts.take k).foldl instL ps) p := by
 obtain ⟨hk, e⟩ := List.getElem?_eq_some_iff.1 h
 rw [List.take_succ_eq_append_getElem hk, List.foldl_append, e]
 rfl
theorem tot_fold (ps ts : List RP) : tot (ts.foldl instL ps) ≤ tot ps + tot ts := by
 induction ts generalizing ps with
 | nil => simp [tot]
 | cons t ts ih =>
  rw [List.foldl_cons, tot_cons]
  have h1 := ih (instL ps t)
  have h2 := tot_inst ps t
  omega
theorem smerge_any (v v2 : Value) (ps ts : List RP) (hi : Nat) (w : World) (hv : RecsIn w hi v ps) (ht : RecsIn w hi v2 ts) (hhi : hi ≤ w.heap.size) (hn : tot ps + tot ts ≤ 1048576) :
  Calls Tryz.prog 23 #[v, v2] w fun e w' => ∃ x qs, e = .returned x ∧ fsts qs = fsts (mergeL ps ts) ∧ RecsOwn w' w.heap.size w'.heap.size x qs ∧ Below w.heap.size w w' := by
 obtain ⟨LL, hLL⟩ : ∃ L, L = mergeL ps ts := ⟨_, rfl⟩
 rw [← hLL]
 have hnt := tot_len ts
 obtain ⟨a1, c1, rfl⟩ := owns_lenS hv.row
 obtain ⟨ta, tc, rfl⟩ := owns_lenS ht.row
 have HST := hide (fun W (hb : Below w.heap.size w W) => sstoreOk_any (.slice a1 ps.length c1) ps W (by omega) (((hv.below hb hhi).at).more (by have := hb.size; omega)))
 have HV := hide hv
 have HT := hide ht
 have HLL := hide hLL
 clear hv ht hLL
 obtain ⟨q, hq⟩ : ∃ q, q = storeB (fsts ps) := ⟨_, rfl⟩
 rw [← hq] at HST
 have HQ := hide hq
 clear hq
 go_enter Tryz.func23, Tryz.ntmps23
 go_wp2
 go_loopw [6, 5] (fun i o wr => ∃ (k : Nat) (u : Value) (l : List RP), k ≤ ts.length ∧ i = .int .i64 k ∧ o = u ∧ Hid (l = (ts.take k).foldl instL ps) ∧ RecsIn wr wr.heap.size u l ∧ (k = 0 ∨ q = true) ∧ Below w.heap.size w wr) (fun i _ _ => ts.length - (intOf i).toNat)
 case atStart => exact ⟨0, _, ps, by omega, rfl, rfl, rfl, HV.out.wide hhi, .inl rfl, Below.refl _ _⟩
 case round =>
  obtain ⟨k, u, l, hk, rfl, rfl, HL, hown, hkq, hnx⟩ := hrel
  obtain ⟨ua, uc, rfl⟩ := owns_lenS hown.row
  have hsz := hnx.size
  have hlt0 : tot l ≤ 1048576 := by
   rw [HL.out]
   have h1 := tot_fold ps (ts.take k)
   have h2 := tot_append (ts.take k) (ts.drop k)
   rw [List.take_append_drop] at h2
   omega
  have HCL := hide (fun W (hb : Below wr.heap.size wr W) => copyList_any (.slice ua l.length uc) l wr.heap.size W (hown.below hb (Nat.le_refl _)) hb.size hlt0)
  by_cases hlt : k < ts.length
  ·have hkj : (k : Int) < (ts.length : Int) := by omega
   have hki : (0 : Int) ≤ (k : Int) := by omega
   cases q
   ·have hk0 : k = 0 := by rcases hkq with h | h; exact h; cases h
    have HFIN := hide (show l = LL by rw [HL.out, HLL.out, hk0]; unfold mergeL; rw [← HQ.out]; rfl)
    clear hk0 hkq
    go_wp2_with fail
    refine (HST.out _ hnx).mono ?_
    rintro e w1 ⟨rfl, b1⟩
    go_wp2_with fail
    refine (HCL.out _ b1).mono ?_
    rintro e w2 ⟨x, qs, rfl, fq, oq, b2⟩
    obtain ⟨xa, xc, rfl⟩ := owns_lenS oq.row
    have b1s := b1.size
    have OQ := hide (oq.wide (show w.heap.size ≤ w1.heap.size by omega) (Nat.le_refl _))
    have FQ := hide (fq.trans (by rw [HFIN.out]))
    have BF : Below w.heap.size w w2 := (hnx.trans (b1.mono hsz)).trans (b2.mono (by omega))
    clear oq fq
    go_wp2
    go_ret
    first
     | exact ⟨_, qs, rfl, FQ.out, OQ.out, BF⟩
     | exact ⟨_, rfl, qs, FQ.out, OQ.out, BF⟩
   ·obtain ⟨p, hp⟩ : ∃ p, ts[k]? = some p := ⟨ts[k], List.getElem?_eq_getElem hlt⟩
    obtain ⟨b, off, cap', hve, hbb, c0, c1, c2, c3, c4, c5, c6, c7, hnr⟩ := HT.out.at.cells k p hp
    cases hve
    obtain ⟨pa, pc, hpn⟩ := NearsAt.shape hnr
    rw [hpn] at c5
    have hbw : b < w.heap.size := by omega
    have hno := (HT.out.nears p (List.mem_of_getElem? hp)).keep (W' := wr) (fun j _ h2 _ => hnx.block j (by omega))
    have HIN := hide (fun W (hb : Below wr.heap.size wr W) => sinst_any (.slice ua l.length uc) l wr.heap.size p W (hown.below hb (Nat.le_refl _)) hb.size hlt0 ((hno.wide (Nat.le_refl _) (by omega)).keep (fun j _ h2 _ => hb.block j h2)) (by have := tot_mem (List.mem_of_getElem? hp); omega))
    have HNX := hide (show instL l p = (ts.take (k + 1)).foldl instL ps by rw [fold_take ps hp, HL.out])
    unfold recC at HIN
    rw [hpn] at HIN
    have HOW := hide hown
    obtain ⟨TT, hTT⟩ : ∃ T, T = takesB (fsts l) p.1 := ⟨_, rfl⟩
    rw [← hTT] at HIN
    have HTT := hide hTT
    clear hp hnr hpn hno hown hTT hkq
    go_wp2_with fail
    refine (HST.out _ hnx).mono ?_
    rintro e w1 ⟨rfl, b1⟩
    have BW1 : Below w.heap.size w w1 := hnx.trans (b1.mono hsz)
    rw [← BW1.cell (p := ⟨b, off + k * 8, none⟩) hbw] at c0
    rw [← BW1.cell (p := ⟨b, off + k * 8 + 1, none⟩) hbw] at c1
    rw [← BW1.cell (p := ⟨b, off + k * 8 + 2, none⟩) hbw] at c2
    rw [← BW1.cell (p := ⟨b, off + k * 8 + 3, none⟩) hbw] at c3
    rw [← BW1.cell (p := ⟨b, off + k * 8 + 4, none⟩) hbw] at c4
    rw [← BW1.cell (p := ⟨b, off + k * 8 + 5, none⟩) hbw] at c5
    rw [← BW1.cell (p := ⟨b, off + k * 8 + 6, none⟩) hbw] at c6
    rw [← BW1.cell (p := ⟨b, off + k * 8 + 7, none⟩) hbw] at c7
    go_wp2_with fail
    refine (HIN.out _ b1).mono ?_
    rintro e w2 ⟨x, rfl, ix, b2⟩
    obtain ⟨xa, xc, rfl⟩ := owns_lenS ix.row
    have b1s := b1.size
    have b2s := b2.size
    have B2 : Below w.heap.size w w2 := BW1.trans (b2.mono (by omega))
    have IX := hide ix
    have KOW := hide ((HOW.out.below (b1.trans (b2.mono b1s)) (Nat.le_refl _)).wide (show wr.heap.size ≤ w2.heap.size by omega))
    clear ix
    cases TT
    ·have HNX2 := hide (show l = (ts.take (k + 1)).foldl instL ps by rw [← HNX.out, inst_no HTT.out.symm])
     go_wp2
     go_roundw
     case rel => exact ⟨k + 1, _, l, by omega, by go_num, rfl, HNX2, KOW.out, by simp, B2⟩
     case measure => simp [intOf]; omega
    ·go_wp2
     go_roundw
     case rel => exact ⟨k + 1, _, instL l p, by omega, by go_num, rfl, HNX, IX.out, by simp, B2⟩
     case measure => simp [intOf]; omega
  ·have HFIN := hide (show l = LL by
    have hkn : k = ts.length := by omega
    rw [HL.out, HLL.out, hkn, List.take_length]
    unfold mergeL
    rw [← HQ.out]
    rcases hkq with h | h
    ·have : ts = [] := List.length_eq_zero_iff.1 (by omega)
     rw [this]
     simp
    ·rw [h]; rfl)
   clear hkq
   go_wp2_with fail
   refine (HCL.out _ (Below.refl _ _)).mono ?_
   rintro e w2 ⟨x, qs, rfl, fq, oq, b2⟩
   obtain ⟨xa, xc, rfl⟩ := owns_lenS oq.row
   have OQ := hide (oq.wide hsz (Nat.le_refl _))
   have FQ := hide (fq.trans (by rw [HFIN.out]))
   have BF : Below w.heap.size w w2 := hnx.trans (b2.mono hsz)
   clear oq fq
   go_wp2
   go_ret
   first
    | exact ⟨_, qs, rfl, FQ.out, OQ.out, BF⟩
    | exact ⟨_, rfl, qs, FQ.out, OQ.out, BF⟩
def ltAt (xs : List RecD) (r : RecD) (t : Nat) : Prop := ∃ x, xs[t]? = some x ∧ ordR x r < 0
theorem ltAt_of {xs : List RecD} {r x : RecD} {t : Nat} (h : xs[t]? = some x) : ltAt xs r t ↔ ordR x r < 0 := by
 constructor
 ·rintro ⟨y, hy, hl⟩
  rw [h] at hy
  cases hy
  exact hl
 ·exact fun hl => ⟨x, h, hl⟩
theorem search_any (v : Value) (ps : List RP) (hi : Nat) (r : RP) (w : World) (hv : RecsIn w hi v ps) (hhi : hi ≤ w.heap.size) (hn : tot ps ≤ 1048576) (hr : NearOwn w 0 hi r) (hmono : ∀ s t, s ≤ t → t < ps.length → ltAt (fsts ps) r.1 t → ltAt (fsts ps) r.1 s) :
  Calls Tryz.prog 187 #[v, .agg (recC r.1 r.2), .func (.func 125) #[] #[]] w fun e w' => ∃ (i : Nat) (f : Bool), e = .returned (.tuple #[.int .i64 (i : Int), .bool f]) ∧ i ≤ ps.length ∧ (∀ t, t < i → ltAt (fsts ps) r.1 t) ∧ (∀ t, i ≤ t → t < ps.length → ¬ ltAt (fsts ps) r.1 t) ∧ (f = true ↔ ∃ x, (fsts ps)[i]? = some x ∧ ordR x r.1 = 0) ∧ Below w.heap.size w w' := by
 have hnl := tot_len ps
 obtain ⟨a1, c1, rfl⟩ := owns_lenS hv.row
 obtain ⟨ra, rc, hrn⟩ := owns_lenS hr.1
 have HRN := hide hrn
 have HV := hide hv
 have HM := hide hmono
 unfold recC
 rw [hrn]
 clear hv hr hrn hmono
 have BX : Below w.heap.size w (w.alloc (.cells #[.int .i64 r.1.area, .int .i64 r.1.kind, .int .i64 r.1.owner, .int .i64 r.1.key, .int .i64 r.1.seq, .slice ra r.1.near.length rc, .int .i64 r.1.cost, .bool r.1.far] 39)) := (Below.refl _ _).alloc (Nat.le_refl _) _
 have hx := heap_alloc_new w (.cells #[.int .i64 r.1.area, .int .i64 r.1.kind, .int .i64 r.1.owner, .int .i64 r.1.key, .int .i64 r.1.seq, .slice ra r.1.near.length rc, .int .i64 r.1.cost, .bool r.1.far] 39)
 obtain ⟨w0, hw0⟩ : ∃ w0, w0 = w.alloc (.cells #[.int .i64 r.1.area, .int .i64 r.1.kind, .int .i64 r.1.owner, .int .i64 r.1.key, .int .i64 r.1.seq, .slice ra r.1.near.length rc, .int .i64 r.1.cost, .bool r.1.far] 39) := ⟨_, rfl⟩
 rw [← hw0] at BX hx
 have hs0 := lt_of_heap hx
 have HX := hide hx
 clear hx
 go_enter Tryz.func187, Tryz.ntmps187
 go_wp2
 rw [← hw0]
 clear hw0
 go_loopw [9, 10] (fun i j wr => ∃ (m n : Nat), m ≤ n ∧ n ≤ ps.length ∧ i = .int .i64 m ∧ j = .int .i64 n ∧ Hid (∀ t, t < m → ltAt (fsts ps) r.1 t) ∧ Hid (∀ t, n ≤ t → t < ps.length → ¬ ltAt (fsts ps) r.1 t) ∧ Below w0.heap.size w0 wr) (fun i j _ => (intOf j).toNat - (intOf i).toNat)
 case atStart => exact ⟨0, ps.length, by omega, by omega, rfl, rfl, hide (by omega), hide (by omega), Below.refl _ _⟩
 case round =>
  obtain ⟨m, n, hmn, hnp, rfl, rfl, HLO, HHI, hnx⟩ := hrel
  have hsz := hnx.size
  have BWR : Below w.heap.size w wr := BX.trans (hnx.mono (by omega))
  by_cases hlt : m < n
  ·have hmi : (m : Int) < (n : Int) := by omega
   have hw1 : IntKind.i64.wrap ((m : Int) + (n : Int)) = (m : Int) + (n : Int) := wrap_fit _ (by omega) (by omega)
   go_wp2
   obtain ⟨k, hk⟩ : ∃ k : Nat, k = (m + n) / 2 := ⟨_, rfl⟩
   have hke : ((m : Int) + (n : Int)) / 2 = (k : Int) := by omega
   rw [hke]
   have hkm : m ≤ k := by omega
   have hkn : k < n := by omega
   have hki : (0 : Int) ≤ (k : Int) := by omega
   have hkj : (k : Int) < (ps.length : Int) := by omega
   clear hk hke hw1
   obtain ⟨p, hp⟩ : ∃ p, ps[k]? = some p := ⟨ps[k], List.getElem?_eq_getElem (by omega)⟩
   obtain ⟨b, off, cap', hve, hbb, c0, c1, c2, c3, c4, c5, c6, c7, hnr⟩ := HV.out.at.cells k p hp
   cases hve
   obtain ⟨pa, pc, hpn⟩ := NearsAt.shape hnr
   rw [hpn] at c5
   rw [← BWR.cell (p := ⟨b, off + k * 8, none⟩) (Nat.lt_of_lt_of_le hbb hhi)] at c0
   rw [← BWR.cell (p := ⟨b, off + k * 8 + 1, none⟩) (Nat.lt_of_lt_of_le hbb hhi)] at c1
   rw [← BWR.cell (p := ⟨b, off + k * 8 + 2, none⟩) (Nat.lt_of_lt_of_le hbb hhi)] at c2
   rw [← BWR.cell (p := ⟨b, off + k * 8 + 3, none⟩) (Nat.lt_of_lt_of_le hbb hhi)] at c3
   rw [← BWR.cell (p := ⟨b, off + k * 8 + 4, none⟩) (Nat.lt_of_lt_of_le hbb hhi)] at c4
   rw [← BWR.cell (p := ⟨b, off + k * 8 + 5, none⟩) (Nat.lt_of_lt_of_le hbb hhi)] at c5
   rw [← BWR.cell (p := ⟨b, off + k * 8 + 6, none⟩) (Nat.lt_of_lt_of_le hbb hhi)] at c6
   rw [← BWR.cell (p := ⟨b, off + k * 8 + 7, none⟩) (Nat.lt_of_lt_of_le hbb hhi)] at c7
   have hxx := (hnx.block _ (lt_of_heap HX.out)).trans HX.out
   have d0 := cells_at hxx 0
   have d1 := cells_at hxx 1
   have d2 := cells_at hxx 2
   have d3 := cells_at hxx 3
   have d4 := cells_at hxx 4
   have d5 := cells_at hxx 5
   have d6 := cells_at hxx 6
   have d7 := cells_at hxx 7
   simp at d0 d1 d2 d3 d4 d5 d6 d7
   have hb1 : b < wr.heap.size := by omega
   have hb2 : w.heap.size < wr.heap.size := by omega
   have hq := fun W => orderKeyed_any p.2 r.2 p.1 r.1 W
   unfold recC at hq
   rw [hpn, HRN.out] at hq
   obtain ⟨x, hx⟩ : ∃ x, x = ordR p.1 r.1 := ⟨_, rfl⟩
   rw [← hx] at hq
   have HK := hide hq
   have HXV := hide hx
   have HPP := hide (fsts_at hp)
   clear hq hx hp hxx hnr hpn
   by_cases hx0 : x < 0
   ·have HLO2 := hide (show ∀ t, t < k + 1 → ltAt (fsts ps) r.1 t from fun t ht => HM.out t k (by omega) (by omega) ((ltAt_of HPP.out).2 (by rw [← HXV.out]; exact hx0)))
    go_region_held3 (fun W => W.cell? ⟨b, off + k * 8, none⟩ = some (.int .i64 p.1.area) ∧ W.cell? ⟨b, off + k * 8 + 1, none⟩ = some (.int .i64 p.1.kind) ∧ W.cell? ⟨b, off + k * 8 + 2, none⟩ = some (.int .i64 p.1.owner) ∧ W.cell? ⟨b, off + k * 8 + 3, none⟩ = some (.int .i64 p.1.key) ∧ W.cell? ⟨b, off + k * 8 + 4, none⟩ = some (.int .i64 p.1.seq) ∧ W.cell? ⟨b, off + k * 8 + 5, none⟩ = some (.slice pa p.1.near.length pc) ∧ W.cell? ⟨b, off + k * 8 + 6, none⟩ = some (.int .i64 p.1.cost) ∧ W.cell? ⟨b, off + k * 8 + 7, none⟩ = some (.bool p.1.far) ∧ W.cell? ⟨w.heap.size, 0, none⟩ = some (.int .i64 r.1.area) ∧ W.cell? ⟨w.heap.size, 1, none⟩ = some (.int .i64 r.1.kind) ∧ W.cell? ⟨w.heap.size, 2, none⟩ = some (.int .i64 r.1.owner) ∧ W.cell? ⟨w.heap.size, 3, none⟩ = some (.int .i64 r.1.key) ∧ W.cell? ⟨w.heap.size, 4, none⟩ = some (.int .i64 r.1.seq) ∧ W.cell? ⟨w.heap.size, 5, none⟩ = some (.slice ra r.1.near.length rc) ∧ W.cell? ⟨w.heap.size, 6, none⟩ = some (.int .i64 r.1.cost) ∧ W.cell? ⟨w.heap.size, 7, none⟩ = some (.bool r.1.far)) (first | go_keep | (refine ⟨?_, ?_, ?_, ?_, ?_, ?_, ?_, ?_, ?_, ?_, ?_, ?_, ?_, ?_, ?_, ?_⟩ <;> (rw [hbc.cell (by assumption)]; assumption))) (first | (go_at_call 125; refine (HK.out _).mono ?_; rintro e w1 ⟨rfl, hbc⟩))
    go_wp2
    go_roundw
    case rel => exact ⟨k + 1, n, by omega, by omega, by go_num, rfl, HLO2, HHI, hnx.trans ((Below.refl _ _).drew.trans (hbc.mono hsz))⟩
    case measure => simp [intOf]; omega
   ·have HHI2 := hide (show ∀ t, k ≤ t → t < ps.length → ¬ ltAt (fsts ps) r.1 t from fun t h1 h2 h3 => hx0 (by rw [HXV.out]; exact (ltAt_of HPP.out).1 (HM.out k t h1 h2 h3)))
    go_region_held3 (fun W => W.cell? ⟨b, off + k * 8, none⟩ = some (.int .i64 p.1.area) ∧ W.cell? ⟨b, off + k * 8 + 1, none⟩ = some (.int .i64 p.1.kind) ∧ W.cell? ⟨b, off + k * 8 + 2, none⟩ = some (.int .i64 p.1.owner) ∧ W.cell? ⟨b, off + k * 8 + 3, none⟩ = some (.int .i64 p.1.key) ∧ W.cell? ⟨b, off + k * 8 + 4, none⟩ = some (.int .i64 p.1.seq) ∧ W.cell? ⟨b, off + k * 8 + 5, none⟩ = some (.slice pa p.1.near.length pc) ∧ W.cell? ⟨b, off + k * 8 + 6, none⟩ = some (.int .i64 p.1.cost) ∧ W.cell? ⟨b, off + k * 8 + 7, none⟩ = some (.bool p.1.far) ∧ W.cell? ⟨w.heap.size, 0, none⟩ = some (.int .i64 r.1.area) ∧ W.cell? ⟨w.heap.size, 1, none⟩ = some (.int .i64 r.1.kind) ∧ W.cell? ⟨w.heap.size, 2, none⟩ = some (.int .i64 r.1.owner) ∧ W.cell? ⟨w.heap.size, 3, none⟩ = some (.int .i64 r.1.key) ∧ W.cell? ⟨w.heap.size, 4, none⟩ = some (.int .i64 r.1.seq) ∧ W.cell? ⟨w.heap.size, 5, none⟩ = some (.slice ra r.1.near.length rc) ∧ W.cell? ⟨w.heap.size, 6, none⟩ = some (.int .i64 r.1.cost) ∧ W.cell? ⟨w.heap.size, 7, none⟩ = some (.bool r.1.far)) (first | go_keep | (refine ⟨?_, ?_, ?_, ?_, ?_, ?_, ?_, ?_, ?_, ?_, ?_, ?_, ?_, ?_, ?_, ?_⟩ <;> (rw [hbc.cell (by assumption)]; assumption))) (first | (go_at_call 125; refine (HK.out _).mono ?_; rintro e w1 ⟨rfl, hbc⟩))
    go_wp2
    go_roundw
    case rel => exact ⟨m, k, by omega, by omega, rfl, rfl, HLO, HHI2, hnx.trans ((Below.refl _ _).drew.trans (hbc.mono hsz))⟩
    case measure => simp [intOf]; omega
  ·have hmn2 : m = n := by omega
   subst hmn2
   by_cases hend : m < ps.length
   ·have hmi : (0 : Int) ≤ (m : Int) := by omega
    have hmj : (m : Int) < (ps.length : Int) := by omega
    obtain ⟨p, hp⟩ : ∃ p, ps[m]? = some p := ⟨ps[m], List.getElem?_eq_getElem (by omega)⟩
    obtain ⟨b, off, cap', hve, hbb, c0, c1, c2, c3, c4, c5, c6, c7, hnr⟩ := HV.out.at.cells m p hp
    cases hve
    obtain ⟨pa, pc, hpn⟩ := NearsAt.shape hnr
    rw [hpn] at c5
    rw [← BWR.cell (p := ⟨b, off + m * 8, none⟩) (Nat.lt_of_lt_of_le hbb hhi)] at c0
    rw [← BWR.cell (p := ⟨b, off + m * 8 + 1, none⟩) (Nat.lt_of_lt_of_le hbb hhi)] at c1
    rw [← BWR.cell (p := ⟨b, off + m * 8 + 2, none⟩) (Nat.lt_of_lt_of_le hbb hhi)] at c2
    rw [← BWR.cell (p := ⟨b, off + m * 8 + 3, none⟩) (Nat.lt_of_lt_of_le hbb hhi)] at c3
    rw [← BWR.cell (p := ⟨b, off + m * 8 + 4, none⟩) (Nat.lt_of_lt_of_le hbb hhi)] at c4
    rw [← BWR.cell (p := ⟨b, off + m * 8 + 5, none⟩) (Nat.lt_of_lt_of_le hbb hhi)] at c5
    rw [← BWR.cell (p := ⟨b, off + m * 8 + 6, none⟩) (Nat.lt_of_lt_of_le hbb hhi)] at c6
    rw [← BWR.cell (p := ⟨b, off + m * 8 + 7, none⟩) (Nat.lt_of_lt_of_le hbb hhi)] at c7
    have hxx := (hnx.block _ (lt_of_heap HX.out)).trans HX.out
    have d0 := cells_at hxx 0
    have d1 := cells_at hxx 1
    have d2 := cells_at hxx 2
    have d3 := cells_at hxx 3
    have d4 := cells_at hxx 4
    have d5 := cells_at hxx 5
    have d6 := cells_at hxx 6
    have d7 := cells_at hxx 7
    simp at d0 d1 d2 d3 d4 d5 d6 d7
    have hb1 : b < wr.heap.size := by omega
    have hb2 : w.heap.size < wr.heap.size := by omega
    have hq := fun W => orderKeyed_any p.2 r.2 p.1 r.1 W
    unfold recC at hq
    rw [hpn, HRN.out] at hq
    obtain ⟨x, hx⟩ : ∃ x, x = ordR p.1 r.1 := ⟨_, rfl⟩
    rw [← hx] at hq
    have HK := hide hq
    have HXV := hide hx
    have HPP := hide (fsts_at hp)
    clear hq hx hp hxx hnr hpn
    have hfin : (x == 0) = true ↔ ∃ y, (fsts ps)[m]? = some y ∧ ordR y r.1 = 0 := by
     rw [HPP.out]
     constructor
     ·intro h
      exact ⟨p.1, rfl, by rw [← HXV.out]; simpa using h⟩
     ·rintro ⟨y, hy, he⟩
      cases hy
      rw [HXV.out]
      simpa using he
    have HFIN := hide hfin
    clear hfin
    go_wp2
    go_region_held3 (fun W => W.cell? ⟨b, off + m * 8, none⟩ = some (.int .i64 p.1.area) ∧ W.cell? ⟨b, off + m * 8 + 1, none⟩ = some (.int .i64 p.1.kind) ∧ W.cell? ⟨b, off + m * 8 + 2, none⟩ = some (.int .i64 p.1.owner) ∧ W.cell? ⟨b, off + m * 8 + 3, none⟩ = some (.int .i64 p.1.key) ∧ W.cell? ⟨b, off + m * 8 + 4, none⟩ = some (.int .i64 p.1.seq) ∧ W.cell? ⟨b, off + m * 8 + 5, none⟩ = some (.slice pa p.1.near.length pc) ∧ W.cell? ⟨b, off + m * 8 + 6, none⟩ = some (.int .i64 p.1.cost) ∧ W.cell? ⟨b, off + m * 8 + 7, none⟩ = some (.bool p.1.far) ∧ W.cell? ⟨w.heap.size, 0, none⟩ = some (.int .i64 r.1.area) ∧ W.cell? ⟨w.heap.size, 1, none⟩ = some (.int .i64 r.1.kind) ∧ W.cell? ⟨w.heap.size, 2, none⟩ = some (.int .i64 r.1.owner) ∧ W.cell? ⟨w.heap.size, 3, none⟩ = some (.int .i64 r.1.key) ∧ W.cell? ⟨w.heap.size, 4, none⟩ = some (.int .i64 r.1.seq) ∧ W.cell? ⟨w.heap.size, 5, none⟩ = some (.slice ra r.1.near.length rc) ∧ W.cell? ⟨w.heap.size, 6, none⟩ = some (.int .i64 r.1.cost) ∧ W.cell? ⟨w.heap.size, 7, none⟩ = some (.bool r.1.far)) (first | go_keep | (refine ⟨?_, ?_, ?_, ?_, ?_, ?_, ?_, ?_, ?_, ?_, ?_, ?_, ?_, ?_, ?_, ?_⟩ <;> (rw [hbc.cell (by assumption)]; assumption))) (first | (go_at_call 125; refine (HK.out _).mono ?_; rintro e w1 ⟨rfl, hbc⟩))
    go_wp2
    go_returns
    exact ⟨m, x == 0, rfl, by omega, HLO.out, HHI.out, HFIN.out, BWR.trans ((Below.refl _ _).drew.trans (hbc.mono (show w.heap.size ≤ wr.heap.size by omega)))⟩
   ·have hme : ¬ (m : Int) < (ps.length : Int) := by omega
    have HNO := hide (show (false = true ↔ ∃ y, (fsts ps)[m]? = some y ∧ ordR y r.1 = 0) from ⟨(fun h => by cases h), (fun ⟨y, hy, _⟩ => by rw [List.getElem?_eq_none (by simp [fsts]; omega)] at hy; cases hy)⟩)
    go_wp2
    go_quiet (fail)
    go_wp2
    go_returns
    exact ⟨m, false, rfl, by omega, HLO.out, HHI.out, HNO.out, BWR.trans ⟨rfl, rfl, rfl, Nat.le_refl _, fun _ _ => rfl⟩⟩
end Go.Proofs.YtmijnjnihhemgaaGreat
namespace Go.Proofs.YtmijnjnihhemgaaGreat
open Go.RowKit

theorem bef_trans {x y z : RecD} (h1 : beforeB x y = true) (h2 : beforeB y z = true) : beforeB x z = true := by
 unfold beforeB at *
 simp only [Bool.or_eq_true, Bool.and_eq_true, decide_eq_true_eq, beq_iff_eq] at *
 omega

theorem bef_same_left {x y z : RecD} (h1 : sameKeyB x y = true) (h2 : beforeB x z = true) : beforeB y z = true := by
 unfold beforeB sameKeyB at *
 simp only [Bool.or_eq_true, Bool.and_eq_true, decide_eq_true_eq, beq_iff_eq] at *
 omega

theorem bef_irrefl_same {x y : RecD} (h1 : sameKeyB x y = true) : beforeB x y = false ∧ beforeB y x = false := by
 unfold beforeB sameKeyB at *
 simp only [Bool.or_eq_false_iff, Bool.and_eq_false_iff, decide_eq_false_iff_not, beq_eq_false_iff_ne, Bool.and_eq_true, beq_iff_eq] at *
 omega

theorem bef_tri (x y : RecD) : beforeB x y = true ∨ sameKeyB x y = true ∨ beforeB y x = true := by
 unfold beforeB sameKeyB
 simp only [Bool.or_eq_true, Bool.and_eq_true, decide_eq_true_eq, beq_iff_eq]
 omega

theorem ordR_lt (x y : RecD) : ordR x y < 0 ↔ beforeB x y = true := by
 rw [← ordR_neg]
 simp

theorem ordR_zero (x y : RecD) : ordR x y = 0 ↔ sameKeyB x y = true := by
 unfold ordR cmpK sameKeyB
 simp only [Bool.and_eq_true, beq_iff_eq]
 by_cases h1 : x.area = y.area
 ·rw [if_pos (cmpN_zero.2 h1)]
  by_cases h2 : x.kind = y.kind
  ·rw [if_pos (cmpN_zero.2 h2)]
   by_cases h3 : x.owner = y.owner
   ·rw [if_pos (cmpN_zero.2 h3), cmpN_zero]
    simp [h1, h2, h3]
   ·rw [if_neg (fun h => h3 (cmpN_zero.1 h)), cmpN_zero]
    simp [h3]
  ·rw [if_neg (fun h => h2 (cmpN_zero.1 h)), cmpN_zero]
   simp [h2]
 ·rw [if_neg (fun h => h1 (cmpN_zero.1 h)), cmpN_zero]
  simp [h1]

def Asc (xs : List RecD) : Prop := xs.Pairwise (fun x y => beforeB x y = true)

theorem asc_of {xs : List RecD} (h : ascB ordR xs = true) : Asc xs := by
 unfold Asc
 rw [List.pairwise_iff_getElem]
 have step : ∀ i (h2 : i + 1 < xs.length), beforeB xs[i] xs[i + 1] = true := by
  intro i h2
  have h3 := List.all_eq_true.1 h (i + 1) (List.mem_range.2 h2)
  rw [ascAt_eq (List.getElem?_eq_getElem (by omega)) (List.getElem?_eq_getElem h2), ordR_neg] at h3
  exact h3
 have main : ∀ d i (h2 : i + 1 + d < xs.length), beforeB xs[i] (xs[i + 1 + d]) = true := by
  intro d
  induction d with
  | zero => intro i h2; exact step i h2
  | succ d ih => intro i h2; exact bef_trans (ih i (by omega)) (step (i + 1 + d) h2)
 intro i j hi hj hij
 have h2 := main (j - i - 1) i (by omega)
 have e : i + 1 + (j - i - 1) = j := by omega
 simp only [e] at h2
 exact h2

theorem asc_back {xs : List RecD} (h : Asc xs) : ascB ordR xs = true := by
 unfold Asc at h
 rw [List.pairwise_iff_getElem] at h
 refine all_true fun j hj => ?_
 cases j with
 | zero => rfl
 | succ k =>
  rw [ascAt_eq (List.getElem?_eq_getElem (by omega)) (List.getElem?_eq_getElem hj), ordR_neg]
  exact h k (k + 1) (by omega) hj (by omega)

theorem asc_mono {xs : List RecD} (h : Asc xs) (r : RecD) : ∀ s t, s ≤ t → t < xs.length → ltAt xs r t → ltAt xs r s := by
 intro s t hst ht hl
 unfold Asc at h
 rw [List.pairwise_iff_getElem] at h
 have h1 := (ltAt_of (List.getElem?_eq_getElem ht)).1 hl
 refine (ltAt_of (List.getElem?_eq_getElem (by omega))).2 ?_
 by_cases e : s = t
 ·subst e; exact h1
 ·rw [ordR_lt] at h1 ⊢
  exact bef_trans (h s t (by omega) ht (by omega)) h1

def putD (xs : List RecD) (r : RecD) : List RecD := xs.filter (fun x => beforeB x r) ++ [r] ++ xs.filter (fun x => beforeB r x)

theorem putL_fsts (ps : List RP) (r : RP) : fsts (putL ps r) = putD (fsts ps) r.1 := by
 unfold putL putD fsts
 simp [List.filter_map, Function.comp_def]

section
variable {xs : List RecD} {r : RecD} {i : Nat}

theorem filt_lo (hi : i ≤ xs.length) (h1 : ∀ t, t < i → ltAt xs r t) (h2 : ∀ t, i ≤ t → t < xs.length → ¬ ltAt xs r t) : xs.filter (fun x => beforeB x r) = xs.take i := by
 conv => lhs; rw [← List.take_append_drop i xs]
 rw [List.filter_append]
 have e1 : (xs.take i).filter (fun x => beforeB x r) = xs.take i := by
  rw [List.filter_eq_self]
  intro x hx
  obtain ⟨t, ht, e⟩ := List.getElem_of_mem hx
  rw [List.length_take] at ht
  rw [List.getElem_take] at e
  have := (ltAt_of (List.getElem?_eq_getElem (show t < xs.length by omega))).1 (h1 t (by omega))
  rw [e, ordR_lt] at this
  exact this
 have e2 : (xs.drop i).filter (fun x => beforeB x r) = [] := by
  rw [List.filter_eq_nil_iff]
  intro x hx hb
  obtain ⟨t, ht, e⟩ := List.getElem_of_mem hx
  rw [List.length_drop] at ht
  rw [List.getElem_drop] at e
  refine h2 (i + t) (by omega) (by omega) ((ltAt_of (List.getElem?_eq_getElem (by omega))).2 ?_)
  rw [e, ordR_lt]
  exact hb
 rw [e1, e2, List.append_nil]

theorem filt_take_no (h1 : ∀ t, t < i → ltAt xs r t) (hi : i ≤ xs.length) : (xs.take i).filter (fun x => beforeB r x) = [] := by
 rw [List.filter_eq_nil_iff]
 intro x hx hb
 obtain ⟨t, ht, e⟩ := List.getElem_of_mem hx
 rw [List.length_take] at ht
 rw [List.getElem_take] at e
 have := (ltAt_of (List.getElem?_eq_getElem (show t < xs.length by omega))).1 (h1 t (by omega))
 rw [e, ordR_lt] at this
 rw [before_asym this] at hb
 cases hb

theorem putD_new (hs : Asc xs) (hi : i ≤ xs.length) (h1 : ∀ t, t < i → ltAt xs r t) (h2 : ∀ t, i ≤ t → t < xs.length → ¬ ltAt xs r t) (h3 : ¬ ∃ x, xs[i]? = some x ∧ ordR x r = 0) : putD xs r = xs.take i ++ [r] ++ xs.drop i := by
 unfold putD
 rw [filt_lo hi h1 h2]
 congr 1
 conv => lhs; rw [← List.take_append_drop i xs]
 rw [List.filter_append, filt_take_no h1 hi, List.nil_append, List.filter_eq_self]
 unfold Asc at hs
 rw [List.pairwise_iff_getElem] at hs
 intro x hx
 obtain ⟨t, ht, e⟩ := List.getElem_of_mem hx
 rw [List.length_drop] at ht
 rw [List.getElem_drop] at e
 have hin : i < xs.length := by omega
 have hfirst : beforeB r xs[i] = true := by
  rcases bef_tri xs[i] r with h | h | h
  ·exact absurd ((ltAt_of (List.getElem?_eq_getElem hin)).2 ((ordR_lt _ _).2 h)) (h2 i (Nat.le_refl _) hin)
  ·exact absurd ⟨xs[i], List.getElem?_eq_getElem hin, (ordR_zero _ _).2 h⟩ h3
  ·exact h
 by_cases e0 : t = 0
 ·subst e0
  simp only [Nat.add_zero] at e
  rw [← e]
  exact hfirst
 ·rw [← e]
  exact bef_trans hfirst (hs i (i + t) hin (by omega) (by omega))

theorem putD_old (hs : Asc xs) (hi : i < xs.length) (h1 : ∀ t, t < i → ltAt xs r t) (h2 : ∀ t, i ≤ t → t < xs.length → ¬ ltAt xs r t) (h3 : ordR xs[i] r = 0) : putD xs r = xs.set i r := by
 have hsame := (ordR_zero _ _).1 h3
 have e0 : xs.drop i = xs[i] :: xs.drop (i + 1) := List.drop_eq_getElem_cons hi
 unfold putD
 rw [filt_lo (Nat.le_of_lt hi) h1 h2]
 have e1 : xs.filter (fun x => beforeB r x) = xs.drop (i + 1) := by
  conv => lhs; rw [← List.take_append_drop i xs]
  rw [List.filter_append, filt_take_no h1 (Nat.le_of_lt hi), List.nil_append, e0, List.filter_cons, if_neg (by rw [(bef_irrefl_same hsame).2]; simp), List.filter_eq_self]
  unfold Asc at hs
  rw [List.pairwise_iff_getElem] at hs
  intro x hx
  obtain ⟨t, ht, e⟩ := List.getElem_of_mem hx
  rw [List.length_drop] at ht
  rw [List.getElem_drop] at e
  rw [← e]
  exact bef_same_left hsame (hs i (i + 1 + t) hi (by omega) (by omega))
 rw [e1]
 apply List.ext_getElem?
 intro j
 by_cases hj : j < i
 ·rw [List.getElem?_set_ne (by omega), List.append_assoc, List.getElem?_append_left (by simp; omega), List.getElem?_take_of_lt hj]
 ·by_cases hje : j = i
  ·subst hje
   rw [List.getElem?_set_self hi, List.append_assoc, List.getElem?_append_right (by simp; omega), List.length_take, Nat.min_eq_left (by omega), Nat.sub_self]
   rfl
  ·rw [List.getElem?_set_ne (by omega), List.append_assoc, List.getElem?_append_right (by simp; omega), List.length_take, Nat.min_eq_left (by omega), List.getElem?_append_right (by simp; omega), List.getElem?_drop]
   congr 1
   simp
   omega
end
end Go.Proofs.YtmijnjnihhemgaaGreat
namespace Go.Proofs.YtmijnjnihhemgaaGreat
open Go.RowKit
set_option linter.unusedSimpArgs false
set_option linter.unusedVariables false
set_option maxRecDepth 100000
set_option maxHeartbeats 8000000
theorem Apart.symm {p q : RP} (h : Apart p q) : Apart q p := fun k hk hp => h k hp hk
theorem nears_kept {W W2 : World} {lo : Nat} {v : Value} {ps : List RP} (h : RecsOwn W lo W.heap.size v ps) (hg : W.grownBy W2 v.ownBlock) {q : RP} (hq : NearOwn W lo W.heap.size q) : NearOwn W2 lo W2.heap.size q :=
 ⟨owns_keepB hq.1 (fun j hj => hg.block j (hq.2 j hj) (near_row_ne hq h.row j hj)), fun k hk => Nat.lt_of_lt_of_le (hq.2 k hk) hg.size⟩
theorem RecsOwn.put {W : World} {lo i g cap n : Nat} {ps : List RP} {r : RP} (h : RecsOwn W lo W.heap.size (.slice (some ⟨g, 0, none⟩) n cap) ps) (hn : n = ps.length) (hr : NearOwn W lo W.heap.size r) (hap : ∀ p ∈ ps, Apart p r) (hi : i < ps.length) : RecsOwn (putP W g (i * 8) r) lo (putP W g (i * 8) r).heap.size (.slice (some ⟨g, 0, none⟩) n cap) (ps.set i r) := by
 subst hn
 have hst := putP_owns (p := r) h.row hi
 have hg : W.grownBy (putP W g (i * 8) r) (Value.slice (some ⟨g, 0, none⟩) ps.length cap).ownBlock := putP_grown W g (i * 8) r
 refine ⟨by simpa using hst, fun k hk => (hst.lt k hk).2, ?_, ?_⟩
 ·intro q hq
  refine nears_kept h hg ?_
  rcases List.mem_or_eq_of_mem_set hq with h1 | h1
  ·exact h.nears q h1
  ·subst h1; exact hr
 ·have hp := h.apart
  rw [List.pairwise_iff_getElem] at hp ⊢
  intro a b ha hb hab
  simp only [List.length_set] at ha hb
  rw [List.getElem_set, List.getElem_set]
  by_cases e1 : i = a
  ·rw [if_pos e1, if_neg (by omega)]
   exact (hap _ (List.getElem_mem hb)).symm
  ·rw [if_neg e1]
   by_cases e2 : i = b
   ·rw [if_pos e2]
    exact hap _ (List.getElem_mem ha)
   ·rw [if_neg e2]
    exact hp a b ha hb hab
theorem fsts_ins (ps : List RP) (r : RP) (i : Nat) : fsts (ps.take i ++ [r] ++ ps.drop i) = (fsts ps).take i ++ [r.1] ++ (fsts ps).drop i := by simp [fsts]
theorem fsts_set (ps : List RP) (r : RP) (i : Nat) : fsts (ps.set i r) = (fsts ps).set i r.1 := by simp [fsts, List.map_set]
theorem near_one {W : World} {lo hi : Nat} {r : RP} (h : NearOwn W lo hi r) : ∀ u ∈ encP r, u.oneCell' = true := by
 obtain ⟨a, c, e⟩ := owns_lenS h.1
 obtain ⟨x, v⟩ := r
 simp only at e
 subst e
 exact encP_one x a _ c
theorem insert_any (lo i vb : Nat) (v : Value) (ps : List RP) (r : RP) (w : World) (hv : RecsOwn w lo w.heap.size v ps) (hlo : lo ≤ w.heap.size) (hi : i ≤ ps.length) (hn : ps.length ≤ 1048576) (hvb : w.heap[vb]? = some (.cells (encP r).toArray 39 (0, 0))) (hne : some vb ≠ v.ownBlock) (hr1 : ∀ u ∈ encP r, u.oneCell' = true) :
  Calls Tryz.prog 188 #[v, .int .i64 (i : Int), .slice (some ⟨vb, 0, none⟩) 1 1] w fun e w' => ∃ v', e = .returned v' ∧ w'.ownsRow lo 39 8 v' (ps.length + 1) (flat encP (ps.take i ++ [r] ++ ps.drop i)) ∧ GrownV w w' v.ownBlock v' := by
 by_cases he : i = ps.length
 ·rw [he]
  exact ins_end lo ps.length 1 vb v ps r w rfl rfl hlo hn hv.row hvb hr1
 ·have hone : ∀ p ∈ ps, ∃ a k c, p.2 = .slice a k c := fun p hp => by
   obtain ⟨a, c, e⟩ := owns_lenS (hv.nears p hp).1
   exact ⟨a, _, c, e⟩
  rcases hv.row.2 with ⟨_, h0⟩ | ⟨g, cap, cur, hve, _⟩
  ·omega
  ·subst hve
   have hne2 : vb ≠ g := fun e => hne (by rw [e]; rfl)
   by_cases hroom : ps.length + 1 ≤ cap
   ·exact ins_shift lo g cap ps.length 1 i vb ps r w rfl rfl hv.row (by omega) hroom hvb hne2 hone hr1
   ·exact ins_grow lo g cap ps.length 1 i vb ps r w rfl rfl hlo hn hv.row (by omega) (by omega) hvb hone hr1
theorem RecsOwn.ins {W W2 : World} {lo i : Nat} {v v' : Value} {ps : List RP} {r : RP} (h : RecsOwn W lo W.heap.size v ps) (hr : NearOwn W lo W.heap.size r) (hap : ∀ p ∈ ps, Apart p r) (hi : i ≤ ps.length)
  (row : W2.ownsRow lo 39 8 v' (ps.length + 1) (flat encP (ps.take i ++ [r] ++ ps.drop i))) (hg : W.grownBy W2 v.ownBlock) : RecsOwn W2 lo W2.heap.size v' (ps.take i ++ [r] ++ ps.drop i) where
 row := by rw [ins_len ps r i hi]; exact row
 top := fun k hk => (row.lt k hk).2
 nears := by
  intro q hq
  refine nears_kept h hg ?_
  rcases List.mem_append.1 hq with h1 | h1
  ·rcases List.mem_append.1 h1 with h2 | h2
   ·exact h.nears q (List.mem_of_mem_take h2)
   ·have : q = r := by simpa using h2
    subst this
    exact hr
  ·exact h.nears q (List.mem_of_mem_drop h1)
 apart := by
  have hp := h.apart
  rw [← List.take_append_drop i ps, List.pairwise_append] at hp
  rw [List.append_assoc, List.pairwise_append]
  refine ⟨hp.1, ?_, ?_⟩
  ·rw [List.pairwise_append]
   refine ⟨by simp, hp.2.1, ?_⟩
   intro a ha b hb
   have : a = r := by simpa using ha
   subst this
   exact (hap b (List.mem_of_mem_drop hb)).symm
  ·intro a ha b hb
   rcases List.mem_append.1 hb with h1 | h1
   ·have : b = r := by simpa using h1
    subst this
    exact hap a (List.mem_of_mem_take ha)
   ·exact hp.2.2 a ha b h1
structure PutFine (v : Value) (ps : List RP) (r : RP) (w w' : World) (x : Value) (qs : List RP) : Prop where
 keep : ∀ k, k < w.heap.size → v.ownBlock ≠ some k → w'.heap[k]? = w.heap[k]?
 row : ∀ k, x.ownBlock = some k → v.ownBlock = some k ∨ w.heap.size ≤ k
 near : ∀ q ∈ qs, q ∈ ps ∨ q.2 = r.2
theorem iput_fine (v : Value) (ps : List RP) (lo : Nat) (r : RP) (w : World) (hv : RecsOwn w lo w.heap.size v ps) (hlo : lo ≤ w.heap.size) (hn : tot ps ≤ 1048576) (hasc : Asc (fsts ps)) (hr : NearOwn w lo w.heap.size r) (hap : ∀ p ∈ ps, Apart p r) :
  Calls Tryz.prog 113 #[v, .agg (recC r.1 r.2)] w fun e w' => ∃ x qs, e = .returned x ∧ fsts qs = putD (fsts ps) r.1 ∧ RecsOwn w' lo w'.heap.size x qs ∧ Below lo w w' ∧ PutFine v ps r w w' x qs := by
 have hnl := tot_len ps
 have hfl : (fsts ps).length = ps.length := by simp [fsts]
 obtain ⟨a1, c1, hve⟩ := owns_lenS hv.row
 obtain ⟨ra, rc, hrn⟩ := owns_lenS hr.1
 have BX : Below w.heap.size w (w.alloc (.cells #[.int .i64 r.1.area, .int .i64 r.1.kind, .int .i64 r.1.owner, .int .i64 r.1.key, .int .i64 r.1.seq, .slice ra r.1.near.length rc, .int .i64 r.1.cost, .bool r.1.far] 39)) := (Below.refl _ _).alloc (Nat.le_refl _) _
 have hx := heap_alloc_new w (.cells #[.int .i64 r.1.area, .int .i64 r.1.kind, .int .i64 r.1.owner, .int .i64 r.1.key, .int .i64 r.1.seq, .slice ra r.1.near.length rc, .int .i64 r.1.cost, .bool r.1.far] 39)
 obtain ⟨w0, hw0⟩ : ∃ w0, w0 = w.alloc (.cells #[.int .i64 r.1.area, .int .i64 r.1.kind, .int .i64 r.1.owner, .int .i64 r.1.key, .int .i64 r.1.seq, .slice ra r.1.near.length rc, .int .i64 r.1.cost, .bool r.1.far] 39) := ⟨_, rfl⟩
 rw [← hw0] at BX hx
 have hs0 := lt_of_heap hx
 have hv0 := hv.below BX (Nat.le_refl _)
 have hr0 := hr.keep (W' := w0) (fun k _ _ h3 => BX.block k h3)
 have HS := search_any v ps w.heap.size r w0 hv0.in BX.size hn (hr0.wide (Nat.zero_le _) (Nat.le_refl _)) (by rw [← hfl]; exact asc_mono hasc r.1)
 have d0 := cells_at hx 0
 have d1 := cells_at hx 1
 have d2 := cells_at hx 2
 have d3 := cells_at hx 3
 have d4 := cells_at hx 4
 have d5 := cells_at hx 5
 have d6 := cells_at hx 6
 have d7 := cells_at hx 7
 simp at d0 d1 d2 d3 d4 d5 d6 d7
 have HV := hide hv0
 have HR := hide hr0
 have HA := hide hasc
 have HP := hide hap
 have H1 := hide hr
 have HFL := hide hfl
 have HRN := hide hrn
 have HVE := hide hve
 unfold recC at *
 rw [hrn] at HS ⊢
 subst hve
 have HSS := hide HS
 clear HS hv0 hr0 hasc hap hr hrn hv hfl
 go_enter Tryz.func113, Tryz.ntmps113
 go_wp2_with fail
 rw [← hw0]
 clear hw0
 refine HSS.out.mono ?_
 rintro e w1 ⟨i, f, rfl, hil, q1, q2, q3, b1⟩
 have b1s := b1.size
 have hx1 := (b1.block _ hs0).trans hx
 have B1 : Below w.heap.size w w1 := BX.trans (b1.mono BX.size)
 have hv1 := (HV.out.below b1 (by omega)).wide (Nat.le_refl _) (show w.heap.size ≤ w1.heap.size by omega)
 have hr1 := ((HR.out).keep (W' := w1) (fun k _ _ h3 => b1.block k h3)).wide (Nat.le_refl _) (show w.heap.size ≤ w1.heap.size by omega)
 have Q1 := hide q1
 have Q2 := hide q2
 have Q3 := hide q3
 clear q1 q2 q3 d0 d1 d2 d3 d4 d5 d6 d7 hx b1
 have d0 := cells_at hx1 0
 have d1 := cells_at hx1 1
 have d2 := cells_at hx1 2
 have d3 := cells_at hx1 3
 have d4 := cells_at hx1 4
 have d5 := cells_at hx1 5
 have d6 := cells_at hx1 6
 have d7 := cells_at hx1 7
 simp at d0 d1 d2 d3 d4 d5 d6 d7
 have hii : (0 : Int) ≤ (i : Int) := by omega
 cases f with
 | true =>
  have hil2 : i < ps.length := by
   obtain ⟨x, hx, _⟩ := Q3.out.1 rfl
   have := (List.getElem?_eq_some_iff.1 hx).1
   rw [HFL.out] at this
   exact this
  have hij : (i : Int) < (ps.length : Int) := by omega
  rcases hv1.row.2 with ⟨_, h0⟩ | ⟨g, cap, cur, hve, _⟩
  ·omega
  ·cases hve
   have hpr : r = (r.1, .slice ra r.1.near.length rc) := by rw [← HRN.out]
   have hfin := hv1.put (i := i) rfl hr1 HP.out hil2
   have hg := putP_grown w1 g (i * 8) r
   have hgl := hv1.row.lt g rfl
   have hB : Below lo w (putP w1 g (i * 8) r) := (B1.mono hlo).grown hg (by omega) (fun k hk => by simp at hk; omega)
   have hl : fsts (ps.set i r) = putD (fsts ps) r.1 := by
    obtain ⟨x, hx, h0⟩ := Q3.out.1 rfl
    obtain ⟨hi2, ex⟩ := List.getElem?_eq_some_iff.1 hx
    rw [fsts_set, putD_old HA.out hi2 Q1.out (by rw [HFL.out]; exact Q2.out) (by rw [ex]; exact h0)]
   obtain ⟨y0, f0⟩ := own_cell hv1.row (i * 8) (by omega)
   obtain ⟨y1, f1⟩ := own_cell hv1.row (i * 8 + 1) (by omega)
   obtain ⟨y2, f2⟩ := own_cell hv1.row (i * 8 + 2) (by omega)
   obtain ⟨y3, f3⟩ := own_cell hv1.row (i * 8 + 3) (by omega)
   obtain ⟨y4, f4⟩ := own_cell hv1.row (i * 8 + 4) (by omega)
   obtain ⟨y5, f5⟩ := own_cell hv1.row (i * 8 + 5) (by omega)
   obtain ⟨y6, f6⟩ := own_cell hv1.row (i * 8 + 6) (by omega)
   obtain ⟨y7, f7⟩ := own_cell hv1.row (i * 8 + 7) (by omega)
   have fz := fun j => hv1.row.frozenAt j
   have hne : g ≠ w.heap.size := by
    intro e
    have h5 := HV.out.top g rfl
    omega
   have hpf : ∀ r' : RP, r' = r → PutFine (.slice (some ⟨g, 0, none⟩) ps.length c1) ps r w (putP w1 g (i * 8) r') (.slice (some ⟨g, 0, none⟩) ps.length c1) (ps.set i r') := by
    rintro r' rfl
    refine ⟨fun k h1 h2 => ?_, fun k hk => .inl hk, fun q hq => ?_⟩
    ·rw [(putP_grown w1 g (i * 8) r').block k (by omega) (fun e => h2 e.symm)]
     exact B1.block k h1
    ·rcases List.mem_or_eq_of_mem_set hq with h | h
     ·exact .inl h
     ·exact .inr (by rw [h])
   have HPF := hide (hpf _ hpr.symm)
   clear hpf
   rw [hpr] at hfin hB hl
   have HF := hide hfin
   have HB := hide hB
   have HL := hide hl
   clear hfin hB hl hpr hg hv1 hr1
   go_wp2
   go_ret
   first
    | exact ⟨_, ps.set i (r.1, .slice ra r.1.near.length rc), rfl, HL.out, HF.out, HB.out, HPF.out⟩
    | exact ⟨_, rfl, ps.set i (r.1, .slice ra r.1.near.length rc), HL.out, HF.out, HB.out, HPF.out⟩
 | false =>
  have hl : fsts (ps.take i ++ [r] ++ ps.drop i) = putD (fsts ps) r.1 := by
   rw [fsts_ins, putD_new HA.out (by rw [HFL.out]; exact hil) Q1.out (by rw [HFL.out]; exact Q2.out) (fun h => by have := Q3.out.2 h; cases this)]
  have HL := hide hl
  clear hl
  have BY : Below w1.heap.size w1 (w1.alloc (.cells #[.int .i64 r.1.area, .int .i64 r.1.kind, .int .i64 r.1.owner, .int .i64 r.1.key, .int .i64 r.1.seq, .slice ra r.1.near.length rc, .int .i64 r.1.cost, .bool r.1.far] 39)) := (Below.refl _ _).alloc (Nat.le_refl _) _
  have hy := heap_alloc_new w1 (.cells #[.int .i64 r.1.area, .int .i64 r.1.kind, .int .i64 r.1.owner, .int .i64 r.1.key, .int .i64 r.1.seq, .slice ra r.1.near.length rc, .int .i64 r.1.cost, .bool r.1.far] 39)
  obtain ⟨w2, hw2⟩ : ∃ w2, w2 = w1.alloc (.cells #[.int .i64 r.1.area, .int .i64 r.1.kind, .int .i64 r.1.owner, .int .i64 r.1.key, .int .i64 r.1.seq, .slice ra r.1.near.length rc, .int .i64 r.1.cost, .bool r.1.far] 39) := ⟨_, rfl⟩
  rw [← hw2] at BY hy
  have hv2 := (hv1.below BY (Nat.le_refl _)).wide (Nat.le_refl _) BY.size
  have hr2 := (hr1.keep (W' := w2) (fun k _ _ h3 => BY.block k h3)).wide (Nat.le_refl _) BY.size
  have HI := insert_any lo i w1.heap.size _ ps r w2 hv2 (by have := BY.size; omega) hil (by omega) (by
   rw [hy]
   unfold encP
   rw [HRN.out]) (fun e => by
    have h6 := hv1.top _ e.symm
    omega) (near_one hr2)
  have HII := hide HI
  have HV2 := hide hv2
  have HR2 := hide hr2
  have B2 : Below w.heap.size w w2 := B1.trans (BY.mono (by omega))
  have hb2 := BY.size
  clear HI hv1 hr1 hv2 hr2
  go_wp2_with fail
  rw [← hw2]
  clear hw2
  refine HII.out.mono ?_
  rintro e w3 ⟨x, rfl, hrow, hg, hgv⟩
  have hfin := HV2.out.ins HR2.out HP.out hil hrow hg
  have hB : Below lo w w3 := (B2.mono hlo).grown hg (by omega) (fun k hk => (HV2.out.row.lt k hk).1)
  obtain ⟨xa, xc, rfl⟩ := owns_lenS hrow
  have hpf : PutFine (.slice a1 ps.length c1) ps r w w3 (.slice xa (ps.length + 1) xc) (ps.take i ++ [r] ++ ps.drop i) := by
   refine ⟨fun k h1 h2 => ?_, fun k hk => ?_, fun q hq => ?_⟩
   ·rw [hg.block k (by have := B2.size; omega) (fun e => h2 e.symm)]
    exact B2.block k h1
   ·rcases hgv k hk with h | h
    ·exact .inl h
    ·exact .inr (by have := B2.size; omega)
   ·rcases List.mem_append.1 hq with h | h
    ·rcases List.mem_append.1 h with h | h
     ·exact .inl (List.mem_of_mem_take h)
     ·exact .inr (by rw [List.mem_singleton.1 h])
    ·exact .inl (List.mem_of_mem_drop h)
  have HPF := hide hpf
  have HF := hide hfin
  have HB := hide hB
  clear hfin hB hrow hg hgv hpf
  go_wp2
  go_ret
  first
   | exact ⟨_, _, rfl, HL.out, HF.out, HB.out, HPF.out⟩
   | exact ⟨_, rfl, _, HL.out, HF.out, HB.out, HPF.out⟩
def BlkOf (v : Value) (ps : List RP) (k : Nat) : Prop := v.ownBlock = some k ∨ ∃ p ∈ ps, p.2.ownBlock = some k
structure FrameS (S : Nat → Prop) (w w' : World) : Prop where
 os : w'.os = w.os
 tape : w'.tape = w.tape
 output : w'.output = w.output
 size : w.heap.size ≤ w'.heap.size
 block : ∀ k, k < w.heap.size → ¬ S k → w'.heap[k]? = w.heap[k]?
theorem FrameS.refl (S : Nat → Prop) (w : World) : FrameS S w w := ⟨rfl, rfl, rfl, Nat.le_refl _, fun _ _ _ => rfl⟩
theorem FrameS.trans {S : Nat → Prop} {a b c : World} (h : FrameS S a b) (k : FrameS S b c) : FrameS S a c :=
 ⟨k.os.trans h.os, k.tape.trans h.tape, k.output.trans h.output, Nat.le_trans h.size k.size, fun i hi hr => (k.block i (Nat.lt_of_lt_of_le hi h.size) hr).trans (h.block i hi hr)⟩
theorem FrameS.grown {S : Nat → Prop} {a b : World} {row : Option Nat} (g : a.grownBy b row) (hr : ∀ k, row = some k → S k) : FrameS S a b :=
 ⟨g.os, g.tape, g.output, g.size, fun k hk hh => g.block k hk (fun e => hh (hr k e.symm))⟩
theorem FrameS.mono {S T : Nat → Prop} {a b : World} (h : FrameS S a b) (hs : ∀ k, S k → T k) : FrameS T a b := ⟨h.os, h.tape, h.output, h.size, fun k hk hh => h.block k hk (fun e => hh (hs k e))⟩
theorem FrameS.frame {S : Nat → Prop} {lo hi : Nat} {a b : World} (h : FrameS S a b) (hs : ∀ k, S k → lo ≤ k ∧ k < hi) : Frame lo hi a b := ⟨h.os, h.tape, h.output, h.size, fun k hk hh => h.block k hk (fun e => by have := hs k e; omega)⟩
theorem RecsOwn.blk {W : World} {lo hi : Nat} {v : Value} {ps : List RP} (h : RecsOwn W lo hi v ps) (k : Nat) (hk : BlkOf v ps k) : lo ≤ k ∧ k < hi ∧ k < W.heap.size := by
 rcases hk with e | ⟨p, hp, e⟩
 ·exact ⟨(h.row.lt k e).1, h.top k e, (h.row.lt k e).2⟩
 ·exact ⟨((h.nears p hp).1.lt k e).1, (h.nears p hp).2 k e, ((h.nears p hp).1.lt k e).2⟩
theorem RecsOwn.keepS {W W' : World} {lo hi : Nat} {v : Value} {ps : List RP} (h : RecsOwn W lo hi v ps) (hk : ∀ k, BlkOf v ps k → W'.heap[k]? = W.heap[k]?) : RecsOwn W' lo hi v ps where
 row := owns_keepB h.row (fun k e => hk k (.inl e))
 top := h.top
 nears := fun p hp => ⟨owns_keepB (h.nears p hp).1 (fun k e => hk k (.inr ⟨p, hp, e⟩)), (h.nears p hp).2⟩
 apart := h.apart
def totD (xs : List RecD) : Nat := (xs.map (fun x => 1 + x.near.length)).sum
theorem tot_D (ps : List RP) : tot ps = totD (fsts ps) := by simp [tot, totD, fsts, List.map_map, Function.comp_def]
theorem totD_cons (x : RecD) (xs : List RecD) : totD (x :: xs) = 1 + x.near.length + totD xs := by simp [totD]
theorem tot_eq {ps qs : List RP} (h : fsts ps = fsts qs) : tot ps = tot qs := by rw [tot_D, tot_D, h]
end Go.Proofs.YtmijnjnihhemgaaGreat
