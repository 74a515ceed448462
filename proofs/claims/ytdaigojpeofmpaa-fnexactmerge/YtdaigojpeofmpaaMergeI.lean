/-
  impl.Merge: its contract.
-/
import Derived.Test.YtdaigojpeofmpaaMergedI
namespace Go.Proofs.Ytdaigojpeofmpaa
open Go.RowKit

set_option maxRecDepth 100000 in
set_option maxHeartbeats 4000000 in
theorem imerge_any (v v2 : Value) (ps ts : List RP) (hi : Nat) (w : World) (hv : RecsIn w hi v ps) (ht : RecsIn w hi v2 ts) (hhi : hi ≤ w.heap.size) (hn : tot ps + tot ts ≤ 1048576) :
    Calls Try.prog 14 #[v, v2] w fun e w' => ∃ x qs, e = .returned x ∧ fsts qs = mergeD (fsts ps) (fsts ts) ∧ RecsOwn w' w.heap.size w'.heap.size x qs ∧ Below w.heap.size w w' := by
  obtain ⟨a1, c1, rfl⟩ := owns_lenS hv.row
  obtain ⟨ta, tc, rfl⟩ := owns_lenS ht.row
  have HST := hide (istoreOk_any (.slice a1 ps.length c1) ps w (by omega) ((hv.at).more (by omega)))
  have HOW := hide (fun W (hb : Below w.heap.size w W) => ownList_any (.slice a1 ps.length c1) ps hi W (hv.below hb hhi) (by have := hb.size; omega) (by omega))
  have HMG := hide (fun W (hb : Below w.heap.size w W) (hs : storeB (fsts ps) = true) => merged_any (.slice a1 ps.length c1) (.slice ta ts.length tc) ps ts hi W (hv.below hb hhi) (ht.below hb hhi) (by have := hb.size; omega) hn (store_asc_of hs))
  clear hv ht
  obtain ⟨q, hq⟩ : ∃ q, q = storeB (fsts ps) := ⟨_, rfl⟩
  rw [← hq] at HST
  have HQ := hide hq
  clear hq
  go_enter Try.func14, Try.ntmps14
  go_wp2_with fail
  refine HST.out.mono ?_
  rintro e w1 ⟨rfl, b1⟩
  cases q
  · go_wp2_with fail
    refine (HOW.out _ b1).mono ?_
    rintro e w2 ⟨x2, q2, rfl, f2, o2, b2⟩
    obtain ⟨xa, xc, rfl⟩ := owns_lenS o2.row
    have HF := hide (show fsts q2 = mergeD (fsts ps) (fsts ts) by rw [f2]; unfold mergeD; rw [← HQ.out]; rfl)
    have O2 := hide (o2.wide b1.size (Nat.le_refl _))
    have B2 := hide (b1.trans (b2.mono b1.size))
    clear f2 o2 b2
    go_wp2
    go_ret
    first
      | exact ⟨_, q2, rfl, HF.out, O2.out, B2.out⟩
      | exact ⟨_, rfl, q2, HF.out, O2.out, B2.out⟩
  · go_wp2_with fail
    refine (HMG.out _ b1 HQ.out.symm).mono ?_
    rintro e w2 ⟨x2, y2, q2, n2, rfl, f2, _, o2, o3, _, b2⟩
    obtain ⟨xa, xc, rfl⟩ := owns_lenS o2.row
    obtain ⟨ya, yc, rfl⟩ := owns_lenS o3.row
    have HF := hide (show fsts q2 = mergeD (fsts ps) (fsts ts) by rw [f2]; unfold mergeD; rw [← HQ.out]; rfl)
    have O2 := hide (o2.wide b1.size (Nat.le_refl _))
    have B2 := hide (b1.trans (b2.mono b1.size))
    clear f2 o2 o3 b2
    go_wp2
    go_ret
    first
      | exact ⟨_, q2, rfl, HF.out, O2.out, B2.out⟩
      | exact ⟨_, rfl, q2, HF.out, O2.out, B2.out⟩
end Go.Proofs.Ytdaigojpeofmpaa
