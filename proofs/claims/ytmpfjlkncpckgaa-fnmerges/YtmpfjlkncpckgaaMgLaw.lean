/-
  laws.FnMerges: its walk.
-/
import Derived.Test.YtmpfjlkncpckgaaDrawSto
namespace Go.Proofs.Ytmpfjlkncpckgaa
open Go.RowKit

set_option linter.unusedSimpArgs false

/-- how many are of the first k areas -/
def sumA (xs : List RecD) : Nat → Nat
  | 0 => 0
  | k + 1 => sumA xs k + cntA xs (k : Int)

theorem fsts_nil {qs : List RP} (h : fsts qs = []) : qs = [] := by simpa [fsts] using h

theorem sumA_three (xs : List RecD) (h : ∀ x ∈ xs, recOkB x = true) : sumA xs 3 + (xs.filter (inScope 9)).length = xs.length := by
  have h1 := cnt_all xs h
  have e : sumA xs 3 = 0 + cntA xs 0 + cntA xs 1 + cntA xs 2 := rfl
  omega

set_option maxRecDepth 100000 in
set_option maxHeartbeats 8000000 in
theorem fnMerges_walk (a : Option Addr) (len cap : Nat) (w : World) (hw : len ≤ 1048576 → Code w a len w.heap.size) :
    Calls Try.prog 14 #[.slice a len cap] w fun e w' => e = .returned (.bool true) ∧ Below w.heap.size w w' := by
  have HW := hide hw
  clear hw
  by_cases hlen : len ≤ 1048576
  case neg =>
    have HBIG := hide (big_any a len cap)
    rw [decide_eq_true (show (1048576 : Int) < (len : Int) by omega)] at HBIG
    go_enter Try.func14, Try.ntmps14
    go_wp2_with fail
    refine (HBIG.out _).mono ?_
    rintro e w1 ⟨rfl, rfl⟩
    go_wp2
    go_ret
    exact ⟨rfl, Below.refl _ _⟩
  have HBIG := hide (big_any a len cap)
  rw [decide_eq_false (show ¬ (1048576 : Int) < (len : Int) by omega)] at HBIG
  have HCODE := hide (HW.out hlen)
  clear HW
  go_enter Try.func14, Try.ntmps14
  go_wp2_with fail
  refine (HBIG.out _).mono ?_
  rintro e w1 ⟨rfl, rfl⟩
  go_wp2_with fail
  refine (drawStores_any a len cap _ HCODE.out).mono ?_
  rintro e w1 ⟨va, vb, qa, qb, rfl, oa, ob, sa, sb, la, lb, b1⟩
  obtain ⟨xa, xac, rfl⟩ := owns_lenS oa.row
  obtain ⟨xb, xbc, rfl⟩ := owns_lenS ob.row
  have hs1 := b1.size
  have hla : (fsts qa).length = qa.length := by simp [fsts]
  have hlb : (fsts qb).length = qb.length := by simp [fsts]
  have hMG := merged_of sa sb (by omega)
  have hta : tot qa ≤ 1050 := by rw [tot_D]; exact store_tot sa
  have htb : tot qb ≤ 1050 := by rw [tot_D]; exact store_tot sb
  have HIM := hide (imerge_any (.slice xa qa.length xac) (.slice xb qb.length xbc) qa qb w1.heap.size w1 oa ob (Nat.le_refl _) (by omega))
  have HNA := hide (fun (p : RP) W (hb : Below w1.heap.size w1 W) => newest_any (.slice xa qa.length xac) qa w1.heap.size p W (oa.below hb (Nat.le_refl _)) hb.size (by omega))
  have HNB := hide (fun (p : RP) W (hb : Below w1.heap.size w1 W) => newest_any (.slice xb qb.length xbc) qb w1.heap.size p W (ob.below hb (Nat.le_refl _)) hb.size (by omega))
  have HBA := hide (fun W (hb : Below w1.heap.size w1 W) => inewerI_any (.slice xb qb.length xbc) (.slice xa qa.length xac) qb qa w1.heap.size W (ob.below hb (Nat.le_refl _)) hb.size (oa.below hb (Nat.le_refl _)) (by omega) (by omega))
  have HOA := hide oa
  have HOB := hide ob
  obtain ⟨A, hA⟩ : ∃ A, A = fsts qa := ⟨_, rfl⟩
  obtain ⟨B, hB⟩ : ∃ B, B = fsts qb := ⟨_, rfl⟩
  obtain ⟨M, hM⟩ : ∃ M, M = mergeD (fsts qa) (fsts qb) := ⟨_, rfl⟩
  rw [← hM] at hMG HIM
  rw [← hA, ← hB] at hMG
  rw [← hA] at HNA HBA
  rw [← hB] at HNB HBA
  have HMG := hide hMG
  have HA := hide hA
  have HB := hide hB
  clear hMG hM hA hB oa ob sa sb HBIG HCODE hla hlb
  go_wp2_with fail
  refine HIM.out.mono ?_
  rintro e w2 ⟨xm, qm, rfl, fm, om, b2⟩
  obtain ⟨xma, xmc, rfl⟩ := owns_lenS om.row
  have b2s := b2.size
  have htm : tot qm ≤ 1050 := by rw [tot_D, fm]; exact store_tot HMG.out.sto
  have hlm := tot_len qm
  have FM := hide fm
  have OM := hide om
  have HSO := istoreOk_any (.slice xma qm.length xmc) qm w2 (by omega) om.at
  rw [fm, HMG.out.sto] at HSO
  have HSO := hide HSO
  have HNM := hide (fun (v : Value) (q : List RP) W (hv : RecsIn w1 w1.heap.size v q) (ht : tot q ≤ 1050) (hx : ∀ x ∈ fsts q, x ∈ A ++ B) (hb : Below w2.heap.size w2 W) => by
    have h := inewerI_any v (.slice xma qm.length xmc) q qm w2.heap.size W ((hv.below (b2.trans (hb.mono b2s)) (Nat.le_refl _)).wide b2s) hb.size ((om.below hb (Nat.le_refl _)).in) (by omega) (by omega)
    rw [fm, newer_empty HMG.out.made hx] at h
    exact h)
  clear fm om HIM
  go_wp2_with fail
  refine HSO.out.mono ?_
  rintro e w3 ⟨rfl, b3⟩
  have b3s := b3.size
  go_wp2_with fail
  refine (HNM.out (.slice xa qa.length xac) qa w3 HOA.out hta (by rw [← HA.out]; exact fun x hx => List.mem_append_left _ hx) b3).mono ?_
  rintro e w4 ⟨x4, q4, rfl, f4, o4, b4⟩
  obtain rfl := fsts_nil f4
  obtain ⟨x4a, x4c, rfl⟩ := owns_lenS o4.row
  have b4s := b4.size
  have B4 : Below w2.heap.size w2 w4 := b3.trans (b4.mono b3s)
  clear f4 o4 b3 b4
  go_wp2_with fail
  refine (HNM.out (.slice xb qb.length xbc) qb w4 HOB.out htb (by rw [← HB.out]; exact fun x hx => List.mem_append_right _ hx) B4).mono ?_
  rintro e w5 ⟨x5, q5, rfl, f5, o5, b5⟩
  obtain rfl := fsts_nil f5
  obtain ⟨x5a, x5c, rfl⟩ := owns_lenS o5.row
  have b5s := b5.size
  have B5 : Below w2.heap.size w2 w5 := B4.trans (b5.mono (by omega))
  have OM5 := hide ((OM.out.below B5 (Nat.le_refl _)).wide (Nat.le_refl _) (show w2.heap.size ≤ w5.heap.size by omega))
  have B15 : Below w1.heap.size w1 w5 := b2.trans (B5.mono b2s)
  clear f5 o5 b5 B4 HSO HNM OM B5
  go_wp2
  go_loopw [6] (fun i wr => ∃ (k : Nat), k ≤ qm.length ∧ i = .int .i64 k ∧ Below w5.heap.size w5 wr) (fun i _ => qm.length - (intOf i).toNat)
  case atStart => exact ⟨0, by omega, rfl, Below.refl _ _⟩
  case round =>
    obtain ⟨k, hk, rfl, hnx⟩ := hrel
    have hsz := hnx.size
    have B1R : Below w1.heap.size w1 wr := B15.trans (hnx.mono B15.size)
    by_cases hlt : k < qm.length
    · have hki : (0 : Int) ≤ (k : Int) := by omega
      have hkj : (k : Int) < (qm.length : Int) := by omega
      obtain ⟨p, hp⟩ : ∃ p, qm[k]? = some p := ⟨qm[k], List.getElem?_eq_getElem hlt⟩
      have hpm : p.1 ∈ M := by rw [← FM.out]; exact List.mem_of_getElem? (fsts_at hp)
      have hmost := HMG.out.most hpm
      obtain ⟨b, off, cpx, hve, hbb, c0, c1, c2, c3, c4, c5, c6, c7, hnr⟩ := OM5.out.at.cells k p hp
      cases hve
      obtain ⟨pa, pc, hpn⟩ := NearsAt.shape hnr
      rw [hpn] at c5
      rw [← hnx.cell (p := ⟨b, off + k * 8, none⟩) hbb] at c0
      rw [← hnx.cell (p := ⟨b, off + k * 8 + 1, none⟩) hbb] at c1
      rw [← hnx.cell (p := ⟨b, off + k * 8 + 2, none⟩) hbb] at c2
      rw [← hnx.cell (p := ⟨b, off + k * 8 + 3, none⟩) hbb] at c3
      rw [← hnx.cell (p := ⟨b, off + k * 8 + 4, none⟩) hbb] at c4
      rw [← hnx.cell (p := ⟨b, off + k * 8 + 5, none⟩) hbb] at c5
      rw [← hnx.cell (p := ⟨b, off + k * 8 + 6, none⟩) hbb] at c6
      rw [← hnx.cell (p := ⟨b, off + k * 8 + 7, none⟩) hbb] at c7
      have hbw : b < wr.heap.size := by omega
      have HA1 := HNA.out p
      have HB1 := HNB.out p
      unfold recC at HA1 HB1
      rw [hpn] at HA1 HB1
      by_cases hxy : newestD A p.1 < newestD B p.1
      · rw [if_pos hxy] at hmost
        rw [hmost] at HB1 hxy
        obtain ⟨X, hX⟩ : ∃ X, X = newestD A p.1 := ⟨_, rfl⟩
        rw [← hX] at HA1 hxy
        have HA2 := hide HA1
        have HB2 := hide HB1
        clear HA1 HB1 hmost hX hpn hnr hp hpm
        go_wp2_with fail
        refine (HA2.out _ B1R).mono ?_
        rintro e w6 ⟨rfl, b6⟩
        have b6s := b6.size
        rw [← b6.cell (p := ⟨b, off + k * 8, none⟩) hbw] at c0
        rw [← b6.cell (p := ⟨b, off + k * 8 + 1, none⟩) hbw] at c1
        rw [← b6.cell (p := ⟨b, off + k * 8 + 2, none⟩) hbw] at c2
        rw [← b6.cell (p := ⟨b, off + k * 8 + 3, none⟩) hbw] at c3
        rw [← b6.cell (p := ⟨b, off + k * 8 + 4, none⟩) hbw] at c4
        rw [← b6.cell (p := ⟨b, off + k * 8 + 5, none⟩) hbw] at c5
        rw [← b6.cell (p := ⟨b, off + k * 8 + 6, none⟩) hbw] at c6
        rw [← b6.cell (p := ⟨b, off + k * 8 + 7, none⟩) hbw] at c7
        have hbw6 : b < w6.heap.size := by omega
        go_wp2_with fail
        refine (HB2.out _ (B1R.trans (b6.mono B1R.size))).mono ?_
        rintro e w7 ⟨rfl, b7⟩
        have b7s := b7.size
        rw [← b7.cell (p := ⟨b, off + k * 8, none⟩) hbw6] at c0
        rw [← b7.cell (p := ⟨b, off + k * 8 + 1, none⟩) hbw6] at c1
        rw [← b7.cell (p := ⟨b, off + k * 8 + 2, none⟩) hbw6] at c2
        rw [← b7.cell (p := ⟨b, off + k * 8 + 3, none⟩) hbw6] at c3
        rw [← b7.cell (p := ⟨b, off + k * 8 + 4, none⟩) hbw6] at c4
        rw [← b7.cell (p := ⟨b, off + k * 8 + 5, none⟩) hbw6] at c5
        rw [← b7.cell (p := ⟨b, off + k * 8 + 6, none⟩) hbw6] at c6
        rw [← b7.cell (p := ⟨b, off + k * 8 + 7, none⟩) hbw6] at c7
        go_wp2
        go_roundw
        case rel => exact ⟨k + 1, by omega, by go_num, hnx.trans ((b6.trans (b7.mono b6s)).mono hsz)⟩
        case measure => simp [intOf]; omega
      · rw [if_neg hxy] at hmost
        rw [hmost] at HA1 hxy
        obtain ⟨X, hX⟩ : ∃ X, X = newestD B p.1 := ⟨_, rfl⟩
        rw [← hX] at HB1 hxy
        have HA2 := hide HA1
        have HB2 := hide HB1
        clear HA1 HB1 hmost hX hpn hnr hp hpm
        go_wp2_with fail
        refine (HA2.out _ B1R).mono ?_
        rintro e w6 ⟨rfl, b6⟩
        have b6s := b6.size
        rw [← b6.cell (p := ⟨b, off + k * 8, none⟩) hbw] at c0
        rw [← b6.cell (p := ⟨b, off + k * 8 + 1, none⟩) hbw] at c1
        rw [← b6.cell (p := ⟨b, off + k * 8 + 2, none⟩) hbw] at c2
        rw [← b6.cell (p := ⟨b, off + k * 8 + 3, none⟩) hbw] at c3
        rw [← b6.cell (p := ⟨b, off + k * 8 + 4, none⟩) hbw] at c4
        rw [← b6.cell (p := ⟨b, off + k * 8 + 5, none⟩) hbw] at c5
        rw [← b6.cell (p := ⟨b, off + k * 8 + 6, none⟩) hbw] at c6
        rw [← b6.cell (p := ⟨b, off + k * 8 + 7, none⟩) hbw] at c7
        have hbw6 : b < w6.heap.size := by omega
        go_wp2_with fail
        refine (HB2.out _ (B1R.trans (b6.mono B1R.size))).mono ?_
        rintro e w7 ⟨rfl, b7⟩
        have b7s := b7.size
        rw [← b7.cell (p := ⟨b, off + k * 8, none⟩) hbw6] at c0
        rw [← b7.cell (p := ⟨b, off + k * 8 + 1, none⟩) hbw6] at c1
        rw [← b7.cell (p := ⟨b, off + k * 8 + 2, none⟩) hbw6] at c2
        rw [← b7.cell (p := ⟨b, off + k * 8 + 3, none⟩) hbw6] at c3
        rw [← b7.cell (p := ⟨b, off + k * 8 + 4, none⟩) hbw6] at c4
        rw [← b7.cell (p := ⟨b, off + k * 8 + 5, none⟩) hbw6] at c5
        rw [← b7.cell (p := ⟨b, off + k * 8 + 6, none⟩) hbw6] at c6
        rw [← b7.cell (p := ⟨b, off + k * 8 + 7, none⟩) hbw6] at c7
        go_wp2
        go_roundw
        case rel => exact ⟨k + 1, by omega, by go_num, hnx.trans ((b6.trans (b7.mono b6s)).mono hsz)⟩
        case measure => simp [intOf]; omega
    · have hkn : ¬ (k : Int) < (qm.length : Int) := by omega
      have OM6 := hide ((OM5.out.below hnx (Nat.le_refl _)).wide (Nat.le_refl _) hsz)
      clear hnx OM5
      go_wp2_with fail
      refine (HBA.out _ B1R).mono ?_
      rintro e w6 ⟨xn, qn, rfl, fn, on, b6⟩
      obtain ⟨xna, xnc, rfl⟩ := owns_lenS on.row
      have b6s := b6.size
      have OM7 := hide ((OM6.out.below b6 (Nat.le_refl _)).wide (Nat.le_refl _) b6s)
      have B16 : Below w1.heap.size w1 w6 := B1R.trans (b6.mono B1R.size)
      have hnl : qn.length ≤ qb.length := by
        have e1 := congrArg List.length fn
        have e2 := List.length_filter_le (newerB A) B
        have e3 := congrArg List.length HB.out
        simp [fsts] at e1 e3
        omega
      have FN := hide fn
      have ON := hide on
      clear fn on b6 OM6 HBA B1R
      go_wp2
      go_loopw [10] (fun i wr => ∃ (m : Nat), m ≤ qn.length ∧ i = .int .i64 m ∧ Below w6.heap.size w6 wr) (fun i _ => qn.length - (intOf i).toNat)
      case atStart => exact ⟨0, by omega, rfl, Below.refl _ _⟩
      case round =>
        obtain ⟨m, hm, rfl, hnx⟩ := hrel
        have hsz := hnx.size
        have B1R : Below w1.heap.size w1 wr := B16.trans (hnx.mono B16.size)
        by_cases hlt : m < qn.length
        · have hki : (0 : Int) ≤ (m : Int) := by omega
          have hkj : (m : Int) < (qn.length : Int) := by omega
          obtain ⟨p, hp⟩ : ∃ p, qn[m]? = some p := ⟨qn[m], List.getElem?_eq_getElem hlt⟩
          have hpm : p.1 ∈ B.filter (newerB A) := by rw [← FN.out]; exact List.mem_of_getElem? (fsts_at hp)
          have hnw := newer_newest HMG.out.okA ((store_ok HMG.out.okB).2.1 _ (List.mem_filter.1 hpm).1) (List.mem_filter.1 hpm).2
          obtain ⟨b, off, cpx, hve, hbb, c0, c1, c2, c3, c4, c5, c6, c7, hnr⟩ := ON.out.at.cells m p hp
          cases hve
          obtain ⟨pa, pc, hpn⟩ := NearsAt.shape hnr
          rw [hpn] at c5
          rw [← hnx.cell (p := ⟨b, off + m * 8, none⟩) hbb] at c0
          rw [← hnx.cell (p := ⟨b, off + m * 8 + 1, none⟩) hbb] at c1
          rw [← hnx.cell (p := ⟨b, off + m * 8 + 2, none⟩) hbb] at c2
          rw [← hnx.cell (p := ⟨b, off + m * 8 + 3, none⟩) hbb] at c3
          rw [← hnx.cell (p := ⟨b, off + m * 8 + 4, none⟩) hbb] at c4
          rw [← hnx.cell (p := ⟨b, off + m * 8 + 5, none⟩) hbb] at c5
          rw [← hnx.cell (p := ⟨b, off + m * 8 + 6, none⟩) hbb] at c6
          rw [← hnx.cell (p := ⟨b, off + m * 8 + 7, none⟩) hbb] at c7
          have hbw : b < wr.heap.size := by omega
          have HA1 := HNA.out p
          unfold recC at HA1
          rw [hpn] at HA1
          obtain ⟨X, hX⟩ : ∃ X, X = newestD A p.1 := ⟨_, rfl⟩
          rw [← hX] at HA1 hnw
          have HA2 := hide HA1
          have hnw2 : ¬ p.1.seq ≤ X := by omega
          have BD : Below w1.heap.size w1 wr.drew := B1R.drew
          clear HA1 hX hpn hnr hp hpm
          go_wp2
          go_region_held3 (fun W => W.cell? ⟨b, off + m * 8, none⟩ = some (.int .i64 p.1.area) ∧ W.cell? ⟨b, off + m * 8 + 1, none⟩ = some (.int .i64 p.1.kind) ∧ W.cell? ⟨b, off + m * 8 + 2, none⟩ = some (.int .i64 p.1.owner) ∧ W.cell? ⟨b, off + m * 8 + 3, none⟩ = some (.int .i64 p.1.key) ∧ W.cell? ⟨b, off + m * 8 + 4, none⟩ = some (.int .i64 p.1.seq) ∧ W.cell? ⟨b, off + m * 8 + 5, none⟩ = some (.slice pa p.1.near.length pc) ∧ W.cell? ⟨b, off + m * 8 + 6, none⟩ = some (.int .i64 p.1.cost) ∧ W.cell? ⟨b, off + m * 8 + 7, none⟩ = some (.bool p.1.far)) (first | go_keep | (refine ⟨?_, ?_, ?_, ?_, ?_, ?_, ?_, ?_⟩ <;> (rw [hbc.cell (by assumption)]; assumption))) (first | (go_at_call 35; refine (HA2.out _ BD).mono ?_; rintro e w7 ⟨rfl, hbc⟩))
          go_wp2
          go_roundw
          case rel => exact ⟨m + 1, by omega, by go_num, hnx.drew.trans (hbc.mono hsz)⟩
          case measure => simp [intOf]; omega
        · have hmn : ¬ (m : Int) < (qn.length : Int) := by omega
          have OM8 := hide ((OM7.out.below hnx (Nat.le_refl _)).wide (Nat.le_refl _) hsz)
          obtain ⟨w7, hw7⟩ : ∃ W, W = wr := ⟨_, rfl⟩
          rw [← hw7] at OM8 B1R ⊢
          clear hnx OM7 hw7 hsz
          have HSC := hide (fun (k : Int) W (hb : Below w7.heap.size w7 W) => iscope_any (.slice xma qm.length xmc) qm w1.heap.size w7.heap.size k W (OM8.out.below hb (Nat.le_refl _)) hb.size (by omega))
          rw [FM.out] at HSC
          have HSL := hide (fun k => cntA_le M k)
          have hML : M.length = qm.length := by rw [← FM.out]; simp [fsts]
          have HML := hide hML
          have hM60 := HMG.out.lenM
          clear hML
          go_wp2
          go_loopw [12, 11] (fun i o wr => ∃ (k : Nat) (s : Nat), k ≤ 3 ∧ i = .int .i64 k ∧ o = .int .i64 (s : Int) ∧ Hid (s = sumA M k) ∧ s ≤ 1000 * k ∧ Below w7.heap.size w7 wr) (fun i _ _ => 4 - (intOf i).toNat)
          case atStart => exact ⟨0, 0, by omega, rfl, rfl, hide rfl, by omega, Below.refl _ _⟩
          case round =>
            obtain ⟨k, s, hk, rfl, rfl, HS, hs1k, hnx⟩ := hrel
            have hsz := hnx.size
            by_cases hlt : k < 3
            · have hk2 : (k : Int) ≤ 2 := by omega
              have hk9 : ¬ (9 : Int) = (k : Int) := by omega
              go_wp2_with fail
              refine (HSC.out (k : Int) _ hnx).mono ?_
              rintro e w8 ⟨xs, qs, rfl, fs, os, b8⟩
              obtain ⟨xsa, xsc, rfl⟩ := owns_lenS os.row
              have b8s := b8.size
              have B8 : Below w7.heap.size w7 w8 := hnx.trans (b8.mono hsz)
              have hql : qs.length ≤ 60 := by
                have e1 := congrArg List.length fs
                have e2 := List.length_filter_le (inScope (k : Int)) M
                simp [fsts] at e1
                omega
              have FS := hide fs
              have OS := hide os
              clear fs os b8 hnx
              go_wp2
              go_loopw [14, 11] (fun i o wr => ∃ (j : Nat) (t : Nat), j ≤ qs.length ∧ i = .int .i64 j ∧ o = .int .i64 (t : Int) ∧ Hid (t = s + cntA (fsts (qs.take j)) (k : Int)) ∧ t ≤ 5000 ∧ Below w8.heap.size w8 wr) (fun i _ _ => qs.length - (intOf i).toNat)
              case atStart => exact ⟨0, s, by omega, rfl, rfl, hide rfl, by omega, Below.refl _ _⟩
              case round =>
                obtain ⟨j, t, hj, rfl, rfl, HTT, ht5, hnx⟩ := hrel
                have hsz2 := hnx.size
                by_cases hjl : j < qs.length
                · have hji : (0 : Int) ≤ (j : Int) := by omega
                  have hjj : (j : Int) < (qs.length : Int) := by omega
                  obtain ⟨p, hp⟩ : ∃ p, qs[j]? = some p := ⟨qs[j], List.getElem?_eq_getElem hjl⟩
                  have hpm : p.1 ∈ M.filter (inScope (k : Int)) := by rw [← FS.out]; exact List.mem_of_getElem? (fsts_at hp)
                  have hsc := (List.mem_filter.1 hpm).2
                  have hct := cntA_take (k : Int) hp
                  obtain ⟨b, off, cpx, hve, hbb, c0, _⟩ := OS.out.at.cells j p hp
                  cases hve
                  rw [← hnx.cell (p := ⟨b, off + j * 8, none⟩) hbb] at c0
                  have hcl : cntA (fsts (qs.take (j + 1))) (k : Int) ≤ 60 := by
                    have e1 := cntA_le (fsts (qs.take (j + 1))) (k : Int)
                    simp [fsts] at e1
                    simp [fsts]
                    omega
                  by_cases hak : p.1.area = (k : Int)
                  · rw [hak] at c0
                    rw [if_pos hak] at hct
                    have HN := hide (show t + 1 = s + cntA (fsts (qs.take (j + 1))) (k : Int) by rw [hct, HTT.out]; omega)
                    have hw1 : IntKind.i64.wrap ((t : Int) + 1) = ((t + 1 : Nat) : Int) := by rw [wrap_fit _ (by omega) (by omega)]; omega
                    have ht6 : t + 1 ≤ 5000 := by have := HN.out; omega
                    clear hak hct hsc hpm hp hcl
                    go_wp2
                    go_roundw
                    case rel => exact ⟨j + 1, t + 1, by omega, by go_num, by go_num, HN, ht6, hnx⟩
                    case measure => simp [intOf]; omega
                  · have h9 : p.1.area = 9 := by
                      unfold inScope at hsc
                      simp only [Bool.or_eq_true, beq_iff_eq] at hsc
                      omega
                    rw [h9] at c0
                    rw [if_neg hak] at hct
                    have HN := hide (show t = s + cntA (fsts (qs.take (j + 1))) (k : Int) by rw [hct, HTT.out]; omega)
                    clear hak hct hsc hpm hp h9 hcl
                    go_wp2
                    go_roundw
                    case rel => exact ⟨j + 1, t, by omega, by go_num, rfl, HN, ht5, hnx⟩
                    case measure => simp [intOf]; omega
                · have hjn : ¬ (j : Int) < (qs.length : Int) := by omega
                  have HN := hide (show t = sumA M (k + 1) by
                    have e := HTT.out
                    rw [List.take_of_length_le (by omega), FS.out, cntA_scope, HS.out] at e
                    exact e)
                  have hlt2 : t ≤ 1000 * (k + 1) := by
                    have e := HN.out
                    simp only [sumA] at e
                    have e2 := HSL.out (k : Int)
                    have e3 := HS.out
                    omega
                  go_wp2
                  go_roundw
                  case rel => exact ⟨k + 1, t, by omega, by go_num, rfl, HN, hlt2, B8.trans (hnx.mono B8.size)⟩
                  case measure => simp [intOf]; omega
            · have hk3 : k = 3 := by omega
              subst hk3
              have HEND := hide (show s + (M.filter (inScope 9)).length = qm.length by
                rw [HS.out, ← HML.out]
                exact sumA_three M (store_ok HMG.out.sto).2.1)
              have BR : Below w1.heap.size w1 wr := B1R.trans (hnx.mono B1R.size)
              have OM9 := hide ((OM8.out.below hnx (Nat.le_refl _)).wide (Nat.le_refl _) hsz)
              go_wp2_with fail
              refine (HSC.out 9 _ hnx).mono ?_
              rintro e w8 ⟨x9, q9, rfl, f9, o9, b8⟩
              obtain ⟨x9a, x9c, rfl⟩ := owns_lenS o9.row
              have b8s := b8.size
              have hq9 : s + q9.length = qm.length := by
                have e1 := congrArg List.length f9
                simp [fsts] at e1
                have e2 := HEND.out
                rw [e1]
                exact e2
              have hw9 : IntKind.i64.wrap ((s : Int) + (q9.length : Int)) = (qm.length : Int) := by rw [wrap_fit _ (by omega) (by omega)]; omega
              have OMA := hide ((OM9.out.below b8 (Nat.le_refl _)).wide (Nat.le_refl _) b8s)
              have BR8 : Below w1.heap.size w1 w8 := BR.trans (b8.mono BR.size)
              have HMM := imerge_any (.slice xma qm.length xmc) (.slice xb qb.length xbc) qm qb w8.heap.size w8 OMA.out.in ((HOB.out.below BR8 (Nat.le_refl _)).wide BR8.size) (Nat.le_refl _) (by omega)
              rw [FM.out, ← HB.out, HMG.out.again] at HMM
              have HMM := hide HMM
              clear hq9 f9 o9 b8 HSC OM9 OM8 hnx
              go_wp2_with fail
              refine HMM.out.mono ?_
              rintro e w9 ⟨xc, qc, rfl, fc, oc, b9⟩
              obtain ⟨xca, xcc, rfl⟩ := owns_lenS oc.row
              have HSS := hide (sameStore_any (.slice xca qc.length xcc) (.slice xma qm.length xmc) qc qm w9.heap.size w9 oc.in ((OMA.out.below b9 (Nat.le_refl _)).wide (Nat.le_refl _) b9.size).in (fc.trans FM.out.symm) (Nat.le_refl _) (by rw [tot_D, fc, ← FM.out, ← tot_D]; omega))
              have B9 : Below w.heap.size w w9 := b1.trans ((BR8.trans (b9.mono BR8.size)).mono hs1)
              clear fc oc HMM OMA
              go_wp2_with fail
              refine HSS.out.mono ?_
              rintro e wA ⟨rfl, bA⟩
              go_wp2
              go_ret
              exact ⟨rfl, B9.trans (bA.mono B9.size)⟩
end Go.Proofs.Ytmpfjlkncpckgaa
