/-
  impl.Merge: its contract.
  spec.Install, impl.Install: their contracts.
  What the laws of lists of records want.
  spec.Install: its contract; how long a store can be.
  laws.same at a record and itself.
-/
import Derived.Test.YtohjphhocdgpgaaSto11
import Derived.Test.YtohjphhocdgpgaaSto3
import Derived.Deep.RegionHeld3
namespace Go.Proofs.Ytohjphhocdgpgaa
open Go.RowKit

set_option linter.unusedSimpArgs false

def instD (xs : List RecD) (r : RecD) : List RecD := if takesB xs r then putD xs r else xs

def mergeD (xs ts : List RecD) : List RecD := if storeB xs then ts.foldl instD xs else xs

theorem instL_fsts (ps : List RP) (r : RP) : fsts (instL ps r) = instD (fsts ps) r.1 := by
  unfold instL instD
  cases takesB (fsts ps) r.1
  · rfl
  · exact putL_fsts ps r

theorem fold_fsts (ps ts : List RP) : fsts (ts.foldl instL ps) = (fsts ts).foldl instD (fsts ps) := by
  induction ts generalizing ps with
  | nil => rfl
  | cons t ts ih => rw [List.foldl_cons, ih, instL_fsts]; rfl

theorem mergeL_fsts (ps ts : List RP) : fsts (mergeL ps ts) = mergeD (fsts ps) (fsts ts) := by
  unfold mergeL mergeD
  cases storeB (fsts ps)
  · rfl
  · exact fold_fsts ps ts

theorem asc_filter {xs : List RecD} (h : Asc xs) (f : RecD → Bool) : Asc (xs.filter f) := List.Pairwise.filter f h

theorem asc_putD {xs : List RecD} (h : Asc xs) (r : RecD) : Asc (putD xs r) := by
  unfold putD Asc
  rw [List.append_assoc, List.pairwise_append]
  refine ⟨asc_filter h _, ?_, ?_⟩
  · rw [List.pairwise_append]
    refine ⟨by simp, asc_filter h _, ?_⟩
    intro a ha b hb
    have : a = r := by simpa using ha
    subst this
    simpa using (List.mem_filter.1 hb).2
  · intro a ha b hb
    have h1 : beforeB a r = true := by simpa using (List.mem_filter.1 ha).2
    rcases List.mem_append.1 hb with h2 | h2
    · have : b = r := by simpa using h2
      subst this
      exact h1
    · have h3 : beforeB r b = true := by simpa using (List.mem_filter.1 h2).2
      exact bef_trans h1 h3

theorem asc_instD {xs : List RecD} (h : Asc xs) (r : RecD) : Asc (instD xs r) := by
  unfold instD
  split
  · exact asc_putD h r
  · exact h

theorem store_asc_of {xs : List RecD} (h : storeB xs = true) : Asc xs := by
  unfold storeB at h
  simp only [Bool.and_eq_true] at h
  exact asc_of h.2

set_option maxRecDepth 100000 in
set_option maxHeartbeats 4000000 in
theorem imerge_any (v v2 : Value) (ps ts : List RP) (hi : Nat) (w : World) (hv : RecsIn w hi v ps) (ht : RecsIn w hi v2 ts) (hhi : hi ≤ w.heap.size) (hn : tot ps + tot ts ≤ 1048576) :
    Calls Try.prog 39 #[v, v2] w fun e w' => ∃ x qs, e = .returned x ∧ fsts qs = mergeD (fsts ps) (fsts ts) ∧ RecsOwn w' w.heap.size w'.heap.size x qs ∧ Below w.heap.size w w' := by
  have hnt := tot_len ts
  obtain ⟨a1, c1, rfl⟩ := owns_lenS hv.row
  obtain ⟨ta, tc, rfl⟩ := owns_lenS ht.row
  have HST := hide (fun W (hb : Below w.heap.size w W) => istoreOk_any (.slice a1 ps.length c1) ps W (by omega) (((hv.below hb hhi).at).more (by have := hb.size; omega)))
  have HOW := hide (ownList_any (.slice a1 ps.length c1) ps hi w hv hhi (by omega))
  have HT := hide ht
  clear hv ht
  obtain ⟨MM, hMM⟩ : ∃ X, X = mergeD (fsts ps) (fsts ts) := ⟨_, rfl⟩
  rw [← hMM]
  have HM := hide hMM
  clear hMM
  obtain ⟨q, hq⟩ : ∃ q, q = storeB (fsts ps) := ⟨_, rfl⟩
  rw [← hq] at HST
  have HQ := hide hq
  clear hq
  go_enter Try.func39, Try.ntmps39
  go_wp2_with fail
  refine HOW.out.mono ?_
  rintro e w1 ⟨x1, q1, rfl, f1, o1, b1⟩
  obtain ⟨xa, xc, rfl⟩ := owns_lenS o1.row
  have F1 := hide f1
  have O1 := hide o1
  clear f1 o1
  go_wp2_with fail
  refine (HST.out _ b1).mono ?_
  rintro e w2 ⟨rfl, b2⟩
  have b2s := b2.size
  have O2 := hide ((O1.out.below b2 (Nat.le_refl _)).wide (Nat.le_refl _) b2s)
  have B2 : Below w.heap.size w w2 := b1.trans (b2.mono b1.size)
  clear O1 b1 b2
  cases q
  · have HF := hide (show fsts q1 = MM by rw [F1.out, HM.out]; unfold mergeD; rw [← HQ.out]; rfl)
    go_wp2
    go_ret
    first
      | exact ⟨_, q1, rfl, HF.out, O2.out, B2⟩
      | exact ⟨_, rfl, q1, HF.out, O2.out, B2⟩
  have A1 := hide (show Asc (fsts q1) by rw [F1.out]; exact store_asc_of HQ.out.symm)
  go_wp2
  go_loopw [16, 5] (fun i o wr => ∃ (k : Nat) (u : Value) (l : List RP), k ≤ ts.length ∧ i = .int .i64 k ∧ o = u ∧ Hid (fsts l = fsts ((ts.take k).foldl instL ps)) ∧ RecsOwn wr w.heap.size wr.heap.size u l ∧ Hid (Asc (fsts l)) ∧ Below w.heap.size w wr) (fun i _ _ => ts.length - (intOf i).toNat)
  case atStart => exact ⟨0, _, q1, by omega, rfl, rfl, F1, O2.out, A1, B2⟩
  case round =>
    obtain ⟨k, u, l, hk, rfl, rfl, HL, hown, HA, hnx⟩ := hrel
    obtain ⟨ua, uc, rfl⟩ := owns_lenS hown.row
    have hsz := hnx.size
    have hlt0 : tot l ≤ 1048576 := by
      rw [tot_map HL.out]
      have h1 := tot_fold ps (ts.take k)
      have h2 := tot_append (ts.take k) (ts.drop k)
      rw [List.take_append_drop] at h2
      omega
    by_cases hlt : k < ts.length
    · have hkj : (k : Int) < (ts.length : Int) := by omega
      have hki : (0 : Int) ≤ (k : Int) := by omega
      obtain ⟨p, hp⟩ : ∃ p, ts[k]? = some p := ⟨ts[k], List.getElem?_eq_getElem hlt⟩
      obtain ⟨b, off, cap', hve, hbb, c0, c1, c2, c3, c4, c5, c6, c7, hnr⟩ := HT.out.at.cells k p hp
      cases hve
      obtain ⟨pa, pc, hpn⟩ := NearsAt.shape hnr
      rw [hpn] at c5
      have hbw : b < w.heap.size := by omega
      rw [← hnx.cell (p := ⟨b, off + k * 8, none⟩) hbw] at c0
      rw [← hnx.cell (p := ⟨b, off + k * 8 + 1, none⟩) hbw] at c1
      rw [← hnx.cell (p := ⟨b, off + k * 8 + 2, none⟩) hbw] at c2
      rw [← hnx.cell (p := ⟨b, off + k * 8 + 3, none⟩) hbw] at c3
      rw [← hnx.cell (p := ⟨b, off + k * 8 + 4, none⟩) hbw] at c4
      rw [← hnx.cell (p := ⟨b, off + k * 8 + 5, none⟩) hbw] at c5
      rw [← hnx.cell (p := ⟨b, off + k * 8 + 6, none⟩) hbw] at c6
      rw [← hnx.cell (p := ⟨b, off + k * 8 + 7, none⟩) hbw] at c7
      have hno := ((HT.out.nears p (List.mem_of_getElem? hp)).keep (W' := wr) (fun j _ h2 _ => hnx.block j (by omega))).wide (Nat.le_refl _) (show hi ≤ wr.heap.size by omega)
      have hpl : p.1.near.length ≤ 1048576 := by have := tot_mem (List.mem_of_getElem? hp); omega
      have BY : Below wr.heap.size wr (wr.alloc (.cells #[.int .i64 p.1.area, .int .i64 p.1.kind, .int .i64 p.1.owner, .int .i64 p.1.key, .int .i64 p.1.seq, .slice pa p.1.near.length pc, .int .i64 p.1.cost, .bool p.1.far] 26)) := (Below.refl _ _).alloc (Nat.le_refl _) _
      have hy := heap_alloc_new wr (.cells #[.int .i64 p.1.area, .int .i64 p.1.kind, .int .i64 p.1.owner, .int .i64 p.1.key, .int .i64 p.1.seq, .slice pa p.1.near.length pc, .int .i64 p.1.cost, .bool p.1.far] 26)
      obtain ⟨wy, hwy⟩ : ∃ W, W = wr.alloc (.cells #[.int .i64 p.1.area, .int .i64 p.1.kind, .int .i64 p.1.owner, .int .i64 p.1.key, .int .i64 p.1.seq, .slice pa p.1.near.length pc, .int .i64 p.1.cost, .bool p.1.far] 26) := ⟨_, rfl⟩
      rw [← hwy] at BY hy
      have hys := lt_of_heap hy
      have HTK := hide (takes_any (.slice ua l.length uc) l wr.heap.size p wy (hown.in.below BY (Nat.le_refl _)) BY.size hlt0 (hno.keep (fun j _ h2 _ => BY.block j h2)) hpl)
      have HOR := hide (fun W (hb : Below wr.heap.size wr W) => ownRec_any p.1 p.2 0 W (hno.keep (fun j _ h2 _ => hb.block j h2)).1 hpl)
      have HPT := hide (fun (v' : Value) W (h1 : RecsOwn W w.heap.size W.heap.size (.slice ua l.length uc) l) h2 h3 h4 => iput_any (.slice ua l.length uc) l w.heap.size (p.1, v') W h1 h2 hlt0 HA.out h3 h4)
      have HFT := hide (fold_take ps hp)
      unfold recC at *
      rw [hpn] at HTK HOR
      have OWN := hide hown
      obtain ⟨T, hT⟩ : ∃ T, T = takesB (fsts l) p.1 := ⟨_, rfl⟩
      rw [← hT] at HTK
      have HTT := hide hT
      clear hT hnr hno hpn hp hown
      go_wp2_with fail
      rw [← hwy]
      clear hwy
      refine HTK.out.mono ?_
      rintro e w3 ⟨rfl, b3⟩
      have b3s := b3.size
      have bys := BY.size
      have B3 : Below wr.heap.size wr w3 := BY.trans (b3.mono BY.size)
      have hy3 := (b3.block _ hys).trans hy
      have d0 := cells_at hy3 0
      have d1 := cells_at hy3 1
      have d2 := cells_at hy3 2
      have d3 := cells_at hy3 3
      have d4 := cells_at hy3 4
      have d5 := cells_at hy3 5
      have d6 := cells_at hy3 6
      have d7 := cells_at hy3 7
      simp at d0 d1 d2 d3 d4 d5 d6 d7
      clear hy b3 HTK c0 c1 c2 c3 c4 c5 c6 c7
      cases T
      · have HN := hide (show fsts l = fsts ((ts.take (k + 1)).foldl instL ps) by rw [HFT.out, instL_fsts, ← HL.out]; unfold instD; rw [← HTT.out]; rfl)
        have OW3 := hide ((OWN.out.below B3 (Nat.le_refl _)).wide (Nat.le_refl _) (show wr.heap.size ≤ w3.heap.size by omega))
        go_wp2
        go_roundw
        case rel => exact ⟨k + 1, _, l, by omega, by go_num, rfl, HN, OW3.out, HA, hnx.trans (B3.mono hsz)⟩
        case measure => simp [intOf]; omega
      · have HN := hide (show ∀ l' : List RP, fsts l' = putD (fsts l) p.1 → fsts l' = fsts ((ts.take (k + 1)).foldl instL ps) ∧ Asc (fsts l') from fun l' h => by
          rw [HFT.out, instL_fsts, ← HL.out, h]
          refine ⟨?_, asc_putD HA.out _⟩
          unfold instD
          rw [← HTT.out]
          rfl)
        go_wp2_with fail
        refine (HOR.out _ B3).mono ?_
        rintro e w4 ⟨n1, rfl, o4, b4⟩
        have b4s := b4.size
        have B4 : Below wr.heap.size wr w4 := B3.trans (b4.mono (by omega))
        have hr4 : NearOwn w4 w.heap.size w4.heap.size (p.1, n1) := ⟨owns_baseS o4 (by omega), fun k hk => (o4.lt k hk).2⟩
        have hap : ∀ q ∈ l, Apart q (p.1, n1) := fun q hq k h1 h2 => by
          have h3 := (OWN.out.nears q hq).2 k h1
          have h4 := (o4.lt k h2).1
          omega
        have HP4 := HPT.out n1 w4 ((OWN.out.below B4 (Nat.le_refl _)).wide (Nat.le_refl _) (by omega)) (by omega) hr4 hap
        obtain ⟨na, nc, rfl⟩ := owns_lenS o4
        have HP5 := hide HP4
        clear HP4 hap hr4 o4 HPT HOR
        go_wp2_with fail
        refine HP5.out.mono ?_
        rintro e w5 ⟨x5, q5, rfl, f5, o5, b5⟩
        obtain ⟨x5a, x5c, rfl⟩ := owns_lenS o5.row
        have N5 := HN.out q5 f5
        have NF := hide N5.1
        have NA := hide N5.2
        have O5 := hide o5
        have B5 : Below w.heap.size w w5 := (hnx.trans (B4.mono hsz)).trans b5
        clear N5 f5 o5 b5 HN HP5 d0 d1 d2 d3 d4 d5 d6 d7
        go_wp2
        go_roundw
        case rel => exact ⟨k + 1, _, q5, by omega, by go_num, rfl, NF, O5.out, NA, B5⟩
        case measure => simp [intOf]; omega
    · have hkn : ¬ (k : Int) < (ts.length : Int) := by omega
      have KN := hide (show k = ts.length by omega)
      have HF := hide (show fsts l = MM by
        rw [HL.out, KN.out, List.take_length, fold_fsts, HM.out]
        unfold mergeD
        rw [← HQ.out]
        rfl)
      have OWN := hide hown
      clear hown
      go_wp2
      go_ret
      first
        | exact ⟨_, l, rfl, HF.out, OWN.out, hnx⟩
        | exact ⟨_, rfl, l, HF.out, OWN.out, hnx⟩
end Go.Proofs.Ytohjphhocdgpgaa
namespace Go.Proofs.Ytohjphhocdgpgaa
open Go.RowKit

set_option linter.unusedSimpArgs false

/-- whether Install takes r -/
def insB (xs : List RecD) (r : RecD) : Bool := storeB xs && takesB xs r

def insD (xs : List RecD) (r : RecD) : List RecD := if insB xs r then putD xs r else []

theorem put_new (ps : List RP) (r : RecD) (lo : Nat) (w3 w4 : World) (x3 n4 : Value) (q3 : List RP) (hf : fsts q3 = fsts ps) (o3 : RecsOwn w3 lo w3.heap.size x3 q3) (o4 : w4.ownsRow w3.heap.size 67 2 n4 r.near.length (flat nrE r.near)) (b4 : Below w3.heap.size w3 w4) (hlo : lo ≤ w3.heap.size) (hn : tot ps ≤ 1048576) (ha : Asc (fsts ps)) :
    Calls Try.prog 84 #[x3, .agg (recC r n4)] w4 fun e w' => ∃ x qs, e = .returned x ∧ fsts qs = putD (fsts ps) r ∧ RecsOwn w' lo w'.heap.size x qs ∧ Below lo w4 w' := by
  have b4s := b4.size
  have h := iput_any x3 q3 lo (r, n4) w4 ((o3.below b4 (Nat.le_refl _)).wide (Nat.le_refl _) b4s) (by omega) (by rw [tot_map hf]; exact hn) (by rw [hf]; exact ha) ⟨owns_baseS o4 hlo, fun k hk => (o4.lt k hk).2⟩ (fun q hq k h1 h2 => by
    have h3 := (o3.nears q hq).2 k h1
    have h4 := (o4.lt k h2).1
    omega)
  rw [hf] at h
  exact h

theorem recs_nil (W : World) (lo hi : Nat) : RecsOwn W lo hi (.slice none 0 0) [] where
  row := World.ownsRow_nil W lo _ _
  top := by intro k hk; simp [Value.ownBlock] at hk
  nears := by simp
  apart := by simp

set_option maxRecDepth 100000 in
set_option maxHeartbeats 4000000 in
theorem iinst_any (v : Value) (ps : List RP) (hi : Nat) (r : RP) (w : World) (hv : RecsIn w hi v ps) (hhi : hi ≤ w.heap.size) (hn : tot ps ≤ 1048576) (hr : NearOwn w 0 hi r) (hrl : r.1.near.length ≤ 1048576) :
    Calls Try.prog 35 #[v, .agg (recC r.1 r.2)] w fun e w' => ∃ x qs, e = .returned (.tuple #[x, .bool (insB (fsts ps) r.1)]) ∧ fsts qs = insD (fsts ps) r.1 ∧ RecsOwn w' w.heap.size w'.heap.size x qs ∧ Below w.heap.size w w' := by
  obtain ⟨TT, hTT⟩ : ∃ T, T = insB (fsts ps) r.1 := ⟨_, rfl⟩
  obtain ⟨LL, hLL⟩ : ∃ T, T = insD (fsts ps) r.1 := ⟨_, rfl⟩
  rw [← hTT, ← hLL]
  have HT0 := hide hTT
  have HL0 := hide hLL
  clear hTT hLL
  have hnl := tot_len ps
  obtain ⟨a1, c1, rfl⟩ := owns_lenS hv.row
  obtain ⟨ra, rc, hrn⟩ := owns_lenS hr.1
  have BX : Below w.heap.size w (w.alloc (.cells #[.int .i64 r.1.area, .int .i64 r.1.kind, .int .i64 r.1.owner, .int .i64 r.1.key, .int .i64 r.1.seq, .slice ra r.1.near.length rc, .int .i64 r.1.cost, .bool r.1.far] 26)) := (Below.refl _ _).alloc (Nat.le_refl _) _
  have hx := heap_alloc_new w (.cells #[.int .i64 r.1.area, .int .i64 r.1.kind, .int .i64 r.1.owner, .int .i64 r.1.key, .int .i64 r.1.seq, .slice ra r.1.near.length rc, .int .i64 r.1.cost, .bool r.1.far] 26)
  obtain ⟨w0, hw0⟩ : ∃ w0, w0 = w.alloc (.cells #[.int .i64 r.1.area, .int .i64 r.1.kind, .int .i64 r.1.owner, .int .i64 r.1.key, .int .i64 r.1.seq, .slice ra r.1.near.length rc, .int .i64 r.1.cost, .bool r.1.far] 26) := ⟨_, rfl⟩
  rw [← hw0] at BX hx
  have hsx := lt_of_heap hx
  have HST := hide (istoreOk_any (.slice a1 ps.length c1) ps w0 hn (((hv.below BX hhi).at).more (by have := BX.size; omega)))
  have HTK := hide (fun W (hb : Below w.heap.size w W) => takes_any (.slice a1 ps.length c1) ps hi r W (hv.below hb hhi) (by have := hb.size; omega) hn (hr.keep (fun j _ h2 _ => hb.block j (by omega))) hrl)
  have HOW := hide (fun W (hb : Below w.heap.size w W) => ownList_any (.slice a1 ps.length c1) ps hi W (hv.below hb hhi) (by have := hb.size; omega) hn)
  have HOR := hide (fun W (hb : Below w.heap.size w W) => ownRec_any r.1 r.2 0 W (hr.keep (fun j _ h2 _ => hb.block j (by omega))).1 hrl)
  have HPN := hide (put_new ps r.1)
  unfold recC at *
  rw [hrn] at HTK HOR ⊢
  clear hv hr hrn
  obtain ⟨q, hq⟩ : ∃ q, q = storeB (fsts ps) := ⟨_, rfl⟩
  rw [← hq] at HST
  have HQ := hide hq
  obtain ⟨T, hT⟩ : ∃ T, T = takesB (fsts ps) r.1 := ⟨_, rfl⟩
  rw [← hT] at HTK
  have HT := hide hT
  clear hq hT
  go_enter Try.func35, Try.ntmps35
  go_wp2_with fail
  rw [← hw0]
  clear hw0
  refine HST.out.mono ?_
  rintro e w1 ⟨rfl, b1⟩
  have b1s := b1.size
  have B1 : Below w.heap.size w w1 := BX.trans (b1.mono BX.size)
  have hx1 := (b1.block _ hsx).trans hx
  clear hx b1 HST
  have d0 := cells_at hx1 0
  have d1 := cells_at hx1 1
  have d2 := cells_at hx1 2
  have d3 := cells_at hx1 3
  have d4 := cells_at hx1 4
  have d5 := cells_at hx1 5
  have d6 := cells_at hx1 6
  have d7 := cells_at hx1 7
  simp at d0 d1 d2 d3 d4 d5 d6 d7
  have NO : Hid (TT = false → LL = []) := hide (fun h => by rw [HL0.out]; unfold insD; rw [← HT0.out, h]; rfl)
  cases q
  · have HF := hide (show TT = false by rw [HT0.out]; unfold insB; rw [← HQ.out]; rfl)
    go_wp2
    go_returns
    exact ⟨_, [], ret_tup HF.out, (NO.out HF.out).symm, recs_nil _ _ _, B1⟩
  go_wp2_with fail
  refine (HTK.out _ B1).mono ?_
  rintro e w2 ⟨rfl, b2⟩
  have b2s := b2.size
  have B2 : Below w.heap.size w w2 := B1.trans (b2.mono B1.size)
  have hx2 := (b2.block _ (lt_of_heap hx1)).trans hx1
  clear d0 d1 d2 d3 d4 d5 d6 d7 hx1 b2 HTK
  cases T
  · have HF := hide (show TT = false by rw [HT0.out]; unfold insB; rw [← HT.out]; simp)
    go_wp2
    go_returns
    exact ⟨_, [], ret_tup HF.out, (NO.out HF.out).symm, recs_nil _ _ _, B2⟩
  have HF := hide (show TT = true by rw [HT0.out]; unfold insB; rw [← HT.out, ← HQ.out]; rfl)
  have HLL := hide (show LL = putD (fsts ps) r.1 by rw [HL0.out]; unfold insD; rw [← HT0.out, HF.out]; rfl)
  have HA := hide (store_asc_of HQ.out.symm)
  have d0 := cells_at hx2 0
  have d1 := cells_at hx2 1
  have d2 := cells_at hx2 2
  have d3 := cells_at hx2 3
  have d4 := cells_at hx2 4
  have d5 := cells_at hx2 5
  have d6 := cells_at hx2 6
  have d7 := cells_at hx2 7
  simp at d0 d1 d2 d3 d4 d5 d6 d7
  have hz2 := lt_of_heap hx2
  have B2D : Below w.heap.size w w2.drew := B2.drew
  clear hx2
  go_wp2
  go_region_held3 (fun W => W.cell? ⟨w.heap.size, 0, none⟩ = some (.int .i64 r.1.area) ∧ W.cell? ⟨w.heap.size, 1, none⟩ = some (.int .i64 r.1.kind) ∧ W.cell? ⟨w.heap.size, 2, none⟩ = some (.int .i64 r.1.owner) ∧ W.cell? ⟨w.heap.size, 3, none⟩ = some (.int .i64 r.1.key) ∧ W.cell? ⟨w.heap.size, 4, none⟩ = some (.int .i64 r.1.seq) ∧ W.cell? ⟨w.heap.size, 5, none⟩ = some (.slice ra r.1.near.length rc) ∧ W.cell? ⟨w.heap.size, 6, none⟩ = some (.int .i64 r.1.cost) ∧ W.cell? ⟨w.heap.size, 7, none⟩ = some (.bool r.1.far)) (first | go_keep | (refine ⟨?_, ?_, ?_, ?_, ?_, ?_, ?_, ?_⟩ <;> (rw [b5.cell (by assumption), b4.cell (Nat.lt_of_lt_of_le (by assumption) b3.size), b3.cell (by assumption)]; assumption)) | (refine ⟨?_, ?_, ?_, ?_, ?_, ?_, ?_, ?_⟩ <;> (rw [b4.cell (Nat.lt_of_lt_of_le (by assumption) b3.size), b3.cell (by assumption)]; assumption)) | (refine ⟨?_, ?_, ?_, ?_, ?_, ?_, ?_, ?_⟩ <;> (rw [b3.cell (by assumption)]; assumption))) (first | (go_at_call 83; refine (HOW.out _ B2D).mono ?_; rintro e w3 ⟨x3, q3, rfl, f3, o3, b3⟩; obtain ⟨xa, xc, rfl⟩ := owns_lenS o3.row) | (go_at_call 85; refine (HOR.out _ (B2D.trans (b3.mono B2D.size))).mono ?_; rintro e w4 ⟨n4, rfl, o4, b4⟩; obtain ⟨na, nc, rfl⟩ := owns_lenS o4) | (go_at_call 84; refine (HPN.out _ _ _ _ _ _ f3 o3 o4 b4 b3.size hn HA.out).mono ?_; rintro e w5 ⟨x5, q5, rfl, f5, o5, b5⟩; obtain ⟨xa5, xc5, rfl⟩ := owns_lenS o5.row))
  all_goals skip
  have hB : Below w.heap.size w w5 := ((B2D.trans (b3.mono B2D.size)).trans (b4.mono (Nat.le_trans B2D.size b3.size))).trans (b5.mono B2D.size)
  have HB := hide hB
  have F5 := hide (f5.trans HLL.out.symm)
  have O5 := hide (o5.wide B2D.size (Nat.le_refl _))
  clear hB f5 o5 f3 o3 o4 b3 b4 b5
  go_wp2
  go_returns
  exact ⟨_, q5, ret_tup HF.out, F5.out, O5.out, HB.out⟩
end Go.Proofs.Ytohjphhocdgpgaa
namespace Go.Proofs.Ytohjphhocdgpgaa
open Go.RowKit

def totD (xs : List RecD) : Nat := (xs.map (fun x => 1 + x.near.length)).sum

theorem tot_D (ps : List RP) : tot ps = totD (fsts ps) := by simp [tot, totD, fsts, List.map_map, Function.comp_def]

theorem totD_cons (x : RecD) (xs : List RecD) : totD (x :: xs) = 1 + x.near.length + totD xs := by simp [totD]

theorem totD_append (a b : List RecD) : totD (a ++ b) = totD a + totD b := by simp [totD]

theorem totD_filter (f : RecD → Bool) (xs : List RecD) : totD (xs.filter f) ≤ totD xs := by
  induction xs with
  | nil => simp [totD]
  | cons x xs ih =>
    rw [List.filter_cons]
    split
    · rw [totD_cons, totD_cons]; omega
    · rw [totD_cons]; omega

theorem eqRecS_own (v1 v2 : Value) (ps qs : List RP) (l1 h1 l2 h2 : Nat) (w : World) (k1 : RecsOwn w l1 h1 v1 ps) (k2 : RecsOwn w l2 h2 v2 qs) (he : fsts ps = fsts qs) (hn : tot ps ≤ 1048576) (g1 : h1 ≤ w.heap.size) (g2 : h2 ≤ w.heap.size) :
    Calls Try.prog 44 #[v1, v2] w fun e w' => e = .returned (.bool true) ∧ Below w.heap.size w w' := by
  have h := eqRecordS_any v1 v2 ps qs w (k1.at.more g1) (k2.at.more g2) (Nat.le_trans (tot_len ps) hn) (fun _ hp => Nat.le_trans (tot_mem hp) hn)
  rw [decide_eq_true he] at h
  exact h

theorem toRecS_own (v : Value) (ps : List RP) (w W : World) (h0 : RecsAt w v ps w.heap.size) (hb : Below w.heap.size w W) (hn : tot ps ≤ 1048576) :
    Calls Try.prog 43 #[v] W fun e w' => ∃ x qs, e = .returned x ∧ fsts qs = fsts ps ∧ RecsOwn w' W.heap.size w'.heap.size x qs ∧ Below W.heap.size W w' :=
  toRecordS_any v ps W (Nat.le_trans (tot_len ps) hn) (fun _ hp => Nat.le_trans (tot_mem hp) hn) ((h0.later hb (Nat.le_refl _)).more hb.size)

theorem tot_eq {ps qs : List RP} (h : fsts ps = fsts qs) : tot ps = tot qs := by rw [tot_D, tot_D, h]

theorem mkE_pos (ps : List RP) : ¬ mkE 1 ps < 0 := by have := mkE_tot 1 ps; omega

theorem heldS_own (v : Value) (ps : List RP) (l h : Nat) (w : World) (k : RecsOwn w l h v (mkL 1 ps)) (hn : tot ps ≤ 1048576) (g : h ≤ w.heap.size) :
    Calls Try.prog 50 #[v, .int .i64 1] w fun e w' => e = .returned (.int .i64 (mkE 1 ps)) ∧ w = w' :=
  heldRecordS_any v ps 1 w (k.at.more g) hn (by omega) (by omega)
end Go.Proofs.Ytohjphhocdgpgaa
namespace Go.Proofs.Ytohjphhocdgpgaa
open Go.RowKit

set_option linter.unusedSimpArgs false

theorem allOk_at {α : Type} {f : α → Bool} {xs : List α} (h : allOk f xs = true) (i : Nat) (hi : i < xs.length) : f xs[i] = true := by
  have h1 := List.all_eq_true.1 h i (List.mem_range.2 hi)
  unfold okAt at h1
  rw [List.getElem?_eq_getElem hi] at h1
  exact h1

theorem nears_le {o : Int} {ns : List Nr} (h : nearsB o ns = true) : ns.length ≤ 6 := by
  unfold nearsB at h
  simp only [Bool.and_eq_true] at h
  have hb : ∀ i (hi : i < ns.length), (i : Int) + 1 ≤ ns[i].to := by
    intro i
    induction i with
    | zero =>
      intro hi
      have h1 := allOk_at h.1 0 hi
      unfold nearOkB inB at h1
      simp only [Bool.and_eq_true, decide_eq_true_eq] at h1
      omega
    | succ i ih =>
      intro hi
      have h1 := ih (by omega)
      have h2 := List.all_eq_true.1 h.2 (i + 1) (List.mem_range.2 hi)
      rw [ascAt_eq (List.getElem?_eq_getElem (by omega)) (List.getElem?_eq_getElem hi)] at h2
      unfold ordN at h2
      simp only [decide_eq_true_eq] at h2
      omega
  cases Nat.lt_or_ge 6 ns.length with
  | inr h0 => exact h0
  | inl h0 =>
    have h1 := hb 6 h0
    have h2 := allOk_at h.1 6 h0
    unfold nearOkB inB at h2
    simp only [Bool.and_eq_true, decide_eq_true_eq] at h2
    omega

theorem recOk_near {x : RecD} (h : recOkB x = true) : x.near.length ≤ 6 := by
  unfold recOkB at h
  simp only [Bool.and_eq_true] at h
  have h2 := h.2
  split at h2
  · simp only [Bool.and_eq_true] at h2
    exact nears_le h2.1.1.2
  · split at h2
    · simp only [Bool.and_eq_true, beq_iff_eq] at h2
      omega
    · split at h2
      · simp only [Bool.and_eq_true, beq_iff_eq] at h2
        omega
      · cases h2

theorem totD_le {xs : List RecD} (h : ∀ x ∈ xs, recOkB x = true) : totD xs ≤ xs.length * 7 := by
  induction xs with
  | nil => simp [totD]
  | cons x xs ih =>
    rw [totD_cons, List.length_cons]
    have h1 := ih (fun y hy => h y (List.mem_cons_of_mem _ hy))
    have h2 := recOk_near (h x (List.mem_cons_self ..))
    omega

theorem store_ok {xs : List RecD} (h : storeB xs = true) : xs.length ≤ 150 ∧ (∀ x ∈ xs, recOkB x = true) ∧ Asc xs := by
  have h1 := store_asc_of h
  unfold storeB at h
  simp only [Bool.and_eq_true, decide_eq_true_eq] at h
  refine ⟨h.1.1, ?_, h1⟩
  intro x hx
  obtain ⟨i, hi, e⟩ := List.getElem_of_mem hx
  rw [← e]
  exact allOk_at h.1.2 i hi

theorem store_tot {xs : List RecD} (h : storeB xs = true) : totD xs ≤ 1050 := by
  have h1 := store_ok h
  have h2 := totD_le h1.2.1
  omega

theorem takes_ok {xs : List RecD} {r : RecD} (h : takesB xs r = true) : recOkB r = true := by
  unfold takesB at h
  simp only [Bool.and_eq_true] at h
  exact h.1

theorem put_tot (xs : List RecD) (r : RecD) : totD (putD xs r) ≤ totD xs + (1 + r.near.length) := by
  have h := tot_put (xs.map (fun x => (x, Value.slice none 0 0))) (r, Value.slice none 0 0)
  rw [tot_D, tot_D, putL_fsts] at h
  have e : fsts (xs.map (fun x => (x, Value.slice none 0 0))) = xs := by simp [fsts, List.map_map, Function.comp_def]
  rw [e] at h
  exact h

theorem insD_tot (xs : List RecD) (r : RecD) : totD (insD xs r) ≤ 1057 := by
  unfold insD
  split
  · rename_i h
    unfold insB at h
    simp only [Bool.and_eq_true] at h
    have h1 := store_tot h.1
    have h2 := recOk_near (takes_ok h.2)
    have h3 := put_tot xs r
    omega
  · simp [totD]

set_option maxRecDepth 100000 in
set_option maxHeartbeats 4000000 in
theorem sInst_any (v : Value) (ps : List RP) (hi : Nat) (r : RP) (w : World) (hv : RecsIn w hi v ps) (hhi : hi ≤ w.heap.size) (hn : tot ps ≤ 1048576) (hr : NearOwn w 0 hi r) (hrl : r.1.near.length ≤ 1048576) :
    Calls Try.prog 49 #[v, .agg (recC r.1 r.2)] w fun e w' => ∃ x qs, e = .returned (.tuple #[x, .bool (insB (fsts ps) r.1)]) ∧ fsts qs = insD (fsts ps) r.1 ∧ RecsOwn w' w.heap.size w'.heap.size x qs ∧ Below w.heap.size w w' := by
  have hTL := insD_tot (fsts ps) r.1
  obtain ⟨TT, hTT⟩ : ∃ T, T = insB (fsts ps) r.1 := ⟨_, rfl⟩
  obtain ⟨LL, hLL⟩ : ∃ T, T = insD (fsts ps) r.1 := ⟨_, rfl⟩
  rw [← hTT, ← hLL]
  have HT0 := hide hTT
  have HL0 := hide hLL
  clear hTT hLL
  have hnl := tot_len ps
  obtain ⟨a1, c1, rfl⟩ := owns_lenS hv.row
  obtain ⟨ra, rc, hrn⟩ := owns_lenS hr.1
  have BX : Below w.heap.size w (w.alloc (.cells #[.int .i64 r.1.area, .int .i64 r.1.kind, .int .i64 r.1.owner, .int .i64 r.1.key, .int .i64 r.1.seq, .slice ra r.1.near.length rc, .int .i64 r.1.cost, .bool r.1.far] 26)) := (Below.refl _ _).alloc (Nat.le_refl _) _
  have hx := heap_alloc_new w (.cells #[.int .i64 r.1.area, .int .i64 r.1.kind, .int .i64 r.1.owner, .int .i64 r.1.key, .int .i64 r.1.seq, .slice ra r.1.near.length rc, .int .i64 r.1.cost, .bool r.1.far] 26)
  obtain ⟨w0, hw0⟩ : ∃ w0, w0 = w.alloc (.cells #[.int .i64 r.1.area, .int .i64 r.1.kind, .int .i64 r.1.owner, .int .i64 r.1.key, .int .i64 r.1.seq, .slice ra r.1.near.length rc, .int .i64 r.1.cost, .bool r.1.far] 26) := ⟨_, rfl⟩
  rw [← hw0] at BX hx
  have hsx := lt_of_heap hx
  have HST := hide (sstoreOk_any (.slice a1 ps.length c1) ps w0 hn (((hv.below BX hhi).at).more (by have := BX.size; omega)))
  have HIN := hide (fun W (hb : Below w.heap.size w W) => sinst_any (.slice a1 ps.length c1) ps hi r W (hv.below hb hhi) (by have := hb.size; omega) hn (hr.keep (fun j _ h2 _ => hb.block j (by omega))) hrl)
  unfold recC at *
  rw [hrn] at HIN ⊢
  clear hv hr hrn
  obtain ⟨q, hq⟩ : ∃ q, q = storeB (fsts ps) := ⟨_, rfl⟩
  rw [← hq] at HST
  have HQ := hide hq
  obtain ⟨T, hT⟩ : ∃ T, T = takesB (fsts ps) r.1 := ⟨_, rfl⟩
  rw [← hT] at HIN
  have HT := hide hT
  clear hq hT
  go_enter Try.func49, Try.ntmps49
  go_wp2_with fail
  rw [← hw0]
  clear hw0
  refine HST.out.mono ?_
  rintro e w1 ⟨rfl, b1⟩
  have b1s := b1.size
  have B1 : Below w.heap.size w w1 := BX.trans (b1.mono BX.size)
  have hx1 := (b1.block _ hsx).trans hx
  clear hx b1 HST
  have d0 := cells_at hx1 0
  have d1 := cells_at hx1 1
  have d2 := cells_at hx1 2
  have d3 := cells_at hx1 3
  have d4 := cells_at hx1 4
  have d5 := cells_at hx1 5
  have d6 := cells_at hx1 6
  have d7 := cells_at hx1 7
  simp at d0 d1 d2 d3 d4 d5 d6 d7
  have NO : Hid (TT = false → LL = []) := hide (fun h => by rw [HL0.out]; unfold insD; rw [← HT0.out, h]; rfl)
  cases q
  · have HF := hide (show TT = false by rw [HT0.out]; unfold insB; rw [← HQ.out]; rfl)
    have RL := hide (recs_lit w1 w.heap.size B1.size)
    have BL := hide (B1.alloc B1.size (.cells #[] 26))
    go_wp2
    go_returns
    exact ⟨_, [], ret_tup HF.out, (NO.out HF.out).symm, RL.out, BL.out⟩
  go_wp2_with fail
  refine (HIN.out _ B1).mono ?_
  rintro e w2 ⟨x2, rfl, o2, b2⟩
  have b2s := b2.size
  have B2 : Below w.heap.size w w2 := B1.trans (b2.mono B1.size)
  clear d0 d1 d2 d3 d4 d5 d6 d7 hx1 b2 HIN
  cases T
  · have HF := hide (show TT = false by rw [HT0.out]; unfold insB; rw [← HT.out]; simp)
    have RL := hide (recs_lit w2 w.heap.size B2.size)
    have BL := hide (B2.alloc B2.size (.cells #[] 26))
    obtain ⟨xa, xc, rfl⟩ := owns_lenS o2.row
    clear o2
    go_wp2
    go_returns
    exact ⟨_, [], ret_tup HF.out, (NO.out HF.out).symm, RL.out, BL.out⟩
  have HF := hide (show TT = true by rw [HT0.out]; unfold insB; rw [← HT.out, ← HQ.out]; rfl)
  have HLL := hide (show fsts (instL ps r) = LL by rw [HL0.out, instL_fsts]; unfold insD instD; rw [← HT0.out, HF.out, ← HT.out]; rfl)
  have HCL := hide (copyList_any x2 (instL ps r) w2.heap.size w2 o2 (Nat.le_refl _) (by rw [tot_D, HLL.out, HL0.out]; omega))
  obtain ⟨xa, xc, rfl⟩ := owns_lenS o2.row
  clear o2
  go_wp2_with fail
  refine HCL.out.mono ?_
  rintro e w3 ⟨x3, q3, rfl, f3, o3, b3⟩
  obtain ⟨ya, yc, rfl⟩ := owns_lenS o3.row
  have F3 := hide (f3.trans HLL.out)
  have O3 := hide (o3.wide B2.size (Nat.le_refl _))
  have B3 : Below w.heap.size w w3 := B2.trans (b3.mono B2.size)
  clear f3 o3 b3 HCL
  go_wp2
  go_returns
  exact ⟨_, q3, ret_tup HF.out, F3.out, O3.out, B3⟩
end Go.Proofs.Ytohjphhocdgpgaa
namespace Go.Proofs.Ytohjphhocdgpgaa
open Go.RowKit

set_option linter.unusedSimpArgs false

set_option maxRecDepth 100000 in
set_option maxHeartbeats 2000000 in
theorem same_any (x : RecD) (v1 v2 : Value) (w : World) (h1 : NearsAt w v1 x.near w.heap.size) (h2 : NearsAt w v2 x.near w.heap.size) (hl : x.near.length ≤ 1048576) :
    Calls Try.prog 21 #[.agg (recC x v1), .agg (recC x v2)] w fun e w' => e = .returned (.bool true) ∧ Below w.heap.size w w' := by
  obtain ⟨a1, c1, rfl⟩ := h1.shape
  obtain ⟨a2, c2, rfl⟩ := h2.shape
  have H1 := hide h1
  have H2 := hide h2
  clear h1 h2
  have BX : Below w.heap.size w ((w.alloc (.cells (recC x (.slice a1 x.near.length c1)) 26)).alloc (.cells (recC x (.slice a2 x.near.length c2)) 26)) := below_two _ _
  have hq0 : ((w.alloc (.cells (recC x (.slice a1 x.near.length c1)) 26)).alloc (.cells (recC x (.slice a2 x.near.length c2)) 26)).heap[w.heap.size]? = some (.cells (recC x (.slice a1 x.near.length c1)) 26) := by rw [Below.heap_alloc _ _ _ (by simp), heap_alloc_new]
  have hq1 : ((w.alloc (.cells (recC x (.slice a1 x.near.length c1)) 26)).alloc (.cells (recC x (.slice a2 x.near.length c2)) 26)).heap[w.heap.size + 1]? = some (.cells (recC x (.slice a2 x.near.length c2)) 26) := by
    have e := heap_alloc_new (w.alloc (.cells (recC x (.slice a1 x.near.length c1)) 26)) (.cells (recC x (.slice a2 x.near.length c2)) 26)
    simpa using e
  obtain ⟨wx, hwx⟩ : ∃ wx, wx = (w.alloc (.cells (recC x (.slice a1 x.near.length c1)) 26)).alloc (.cells (recC x (.slice a2 x.near.length c2)) 26) := ⟨_, rfl⟩
  rw [← hwx] at BX hq0 hq1
  have hsx := lt_of_heap hq1
  unfold recC at *
  have HQ0 := hide hq0
  have HQ1 := hide hq1
  clear hq0 hq1
  go_enter Try.func21, Try.ntmps21
  go_wp2
  rw [← hwx]
  clear hwx
  go_loopw [5] (fun i wr => ∃ k : Nat, k ≤ x.near.length ∧ i = .int .i64 k ∧ Below wx.heap.size wx wr) (fun i _ => x.near.length - (intOf i).toNat)
  case atStart => exact ⟨0, by omega, rfl, Below.refl _ _⟩
  case round =>
    obtain ⟨k, hk, rfl, hb⟩ := hrel
    have hbs := hb.size
    have hr0 := (hb.block _ (lt_of_heap HQ0.out)).trans HQ0.out
    have hr1 := (hb.block _ (lt_of_heap HQ1.out)).trans HQ1.out
    have s5 := cells_at hr0 5
    have t5 := cells_at hr1 5
    simp at s5 t5
    have BWR : Below w.heap.size w wr := BX.trans (hb.mono (by omega))
    by_cases hlt : k < x.near.length
    · obtain ⟨n, hn⟩ : ∃ n, x.near[k]? = some n := ⟨x.near[k], List.getElem?_eq_getElem hlt⟩
      obtain ⟨d1, o1, e1, hv1, hd1, f0, f1⟩ := H1.out.cells k n hn
      obtain ⟨d2, o2, e2, hv2, hd2, g0, g1⟩ := H2.out.cells k n hn
      cases hv1
      cases hv2
      rw [← BWR.cell (p := ⟨d1, o1 + k * 2, none⟩) hd1] at f0
      rw [← BWR.cell (p := ⟨d1, o1 + k * 2 + 1, none⟩) hd1] at f1
      rw [← BWR.cell (p := ⟨d2, o2 + k * 2, none⟩) hd2] at g0
      rw [← BWR.cell (p := ⟨d2, o2 + k * 2 + 1, none⟩) hd2] at g1
      have hki : (0 : Int) ≤ (k : Int) := by omega
      have hkj : (k : Int) < (x.near.length : Int) := by omega
      have e0 := fun W => near_neq W n.to n.c n.to n.c
      rw [decide_eq_true rfl] at e0
      clear hn hr0 hr1
      go_wp2
      go_quiet (fail)
      go_wp2
      go_roundw
      case rel => exact ⟨k + 1, by omega, by go_num, hb.trans ⟨rfl, rfl, rfl, Nat.le_refl _, fun _ _ => rfl⟩⟩
      case measure => simp [intOf]; omega
    · have hkn : k = x.near.length := by omega
      have KN := hide hkn
      clear hkn hr0 hr1
      go_wp2
      go_ret
      exact ⟨rfl, BWR⟩
end Go.Proofs.Ytohjphhocdgpgaa
