/-
  The specification's cursor over a text: l04Take, l04One, l04Var: their contracts.
-/
import Derived.Test.YtohjphhocdgpgaaRdI
import Derived.Test.YtohjphhocdgpgaaSrvA
import Derived.Test.YtohjphhocdgpgaaIsIn
namespace Go.Proofs.Ytohjphhocdgpgaa
open Go.RowKit

theorem sub_bs (s : ByteArray) (p c : Nat) (h : p < s.size) (hc : c = s[p].toNat) : s.extract p (p + 1) = bs [UInt8.ofNat c] := by
  apply ByteArray.ext
  apply Array.ext'
  rw [hc]
  have h2 := take_byte s p p (Nat.le_refl _) h
  have e : (s.extract p (p + 1)).data.toList = (s.data.toList.drop p).take 1 := by
    rw [Go.Lib.extract_data, Nat.add_sub_cancel_left]
  rw [e]
  have e3 : p + 1 - p = 1 := by omega
  rw [e3, Nat.sub_self] at h2
  rw [h2]
  simp [bs]

set_option maxRecDepth 100000 in
set_option maxHeartbeats 400000 in
theorem oneS_any (z p : Nat) (s : ByteArray) (b : Bool) (w : World) (hs : s.size ≤ 1048576) (hp : p ≤ s.size) (h : RdAt w z 83 s p b) :
    Calls Try.prog 101 #[.pointer (some ⟨z, 0, none⟩), .int .i64 1] w fun e w' => (∃ u : ByteArray, e = .returned (.string u) ∧ ((oneR s p b).b = false → ∃ c : Nat, c < 256 ∧ (oneR s p b).v = (c : Int) ∧ u = bs [UInt8.ofNat c])) ∧ RdAt w' z 83 s (oneR s p b).p (oneR s p b).b ∧ w.grownBy w' (some z) := by
  unfold RdAt at h
  have c0 := cells_at h 0
  have c1 := cells_at h 1
  have c2 := cells_at h 2
  have f1 := frozen_at h 1
  have f2 := frozen_at h 2
  simp at c0 c1 c2
  have HH := hide h
  clear h
  cases b
  · by_cases hlt : p < s.size
    · have hv : oneR s p false = ⟨(s[p].toNat : Int), p + 1, false⟩ := by unfold oneR; simp [hlt]
      obtain ⟨c, hc⟩ : ∃ c : Nat, c = s[p].toNat := ⟨_, rfl⟩
      have hcb : c < 256 := by have := s[p].toNat_lt; omega
      have hsl := sl_str Try.underlying9 s (bs [UInt8.ofNat c]) (p : Int) ((p : Int) + 1) (by omega) (by omega) (by omega) (by
        rw [← sub_bs s p c hlt hc]
        congr 1 <;> omega)
      rw [← hc] at hv
      have HV := hide hv
      have h1 : ¬ (s.size : Int) - (p : Int) < 1 := by omega
      have h2 : IntKind.i64.wrap ((p : Int) + 1) = (p : Int) + 1 := wrap_fit _ (by omega) (by omega)
      have h3 : IntKind.i64.wrap ((s.size : Int) - (p : Int)) = (s.size : Int) - (p : Int) := wrap_fit _ (by omega) (by omega)
      clear hc hv
      go_enter Try.func101, Try.ntmps101
      go_wp2
      go_quiet (fail)
      go_wp2
      have hh2 : ((w.drewN nq).setCell ⟨z, 1, none⟩ (.int .i64 ((p : Int) + 1))).heap[z]? = some (.cells #[.string s, .int .i64 (((p + 1 : Nat)) : Int), .bool false] 83 (0, 0)) := by
        rw [heap_setCell_same (w.drewN nq) z 1 _ _ _ HH.out]; rfl
      have hg : w.grownBy ((w.drewN nq).setCell ⟨z, 1, none⟩ (.int .i64 ((p : Int) + 1))) (some z) := grown_trans (grown_drewN w nq _) (grown_set _ z 1 _)
      generalize (w.drewN nq).setCell ⟨z, 1, none⟩ (.int .i64 ((p : Int) + 1)) = w3 at hh2 hg ⊢
      have d0 := cells_at hh2 0
      have d1 := cells_at hh2 1
      simp at d0 d1
      have HH2 := hide hh2
      clear hh2 c0 c1 c2 f1 f2 HH
      go_quiet (fail)
      go_wp2
      go_ret
      rw [HV.out]
      exact ⟨⟨_, rfl, fun _ => ⟨c, hcb, rfl, rfl⟩⟩, HH2.out, grown_trans hg (grown_drewN _ _ _)⟩
    · have hv : oneR s p false = ⟨0, p, true⟩ := by unfold oneR; simp [hlt]
      rw [hv]
      have h1 : (s.size : Int) - (p : Int) < 1 := by omega
      have h3 : IntKind.i64.wrap ((s.size : Int) - (p : Int)) = (s.size : Int) - (p : Int) := wrap_fit _ (by omega) (by omega)
      clear hv
      go_enter Try.func101, Try.ntmps101
      go_wp2
      go_quiet (fail)
      go_wp2
      go_ret
      exact ⟨⟨_, rfl, fun h => by cases h⟩, heap_setCell_same (w.drewN nq) z 2 _ _ _ HH.out, grown_trans (grown_drewN w nq _) (grown_set _ z 2 _)⟩
  · have hv : oneR s p true = ⟨0, p, true⟩ := oneR_bad s p
    rw [hv]
    clear hv
    go_enter Try.func101, Try.ntmps101
    go_wp2
    go_quiet (fail)
    go_wp2
    go_ret
    exact ⟨⟨_, rfl, fun h => by cases h⟩, heap_setCell_same (w.drewN nq) z 2 _ _ _ HH.out, grown_trans (grown_drewN w nq _) (grown_set _ z 2 _)⟩

set_option maxRecDepth 100000 in
set_option maxHeartbeats 400000 in
theorem byteS_any (z p : Nat) (s : ByteArray) (b : Bool) (w : World) (hs : s.size ≤ 1048576) (hp : p ≤ s.size) (h : RdAt w z 83 s p b) :
    Calls Try.prog 71 #[.pointer (some ⟨z, 0, none⟩)] w fun e w' => e = .returned (.int .i64 (oneR s p b).v) ∧ RdAt w' z 83 s (oneR s p b).p (oneR s p b).b ∧ w.grownBy w' (some z) := by
  have H1 := hide (oneS_any z p s b w hs hp h)
  have hbad : (oneR s p b).b = true → (oneR s p b).v = 0 := by
    unfold oneR
    split
    · intro; rfl
    · split
      · intro h; cases h
      · intro; rfl
  clear h
  generalize oneR s p b = r at H1 hbad ⊢
  obtain ⟨v, p', b'⟩ := r
  simp only [] at H1 hbad ⊢
  go_enter Try.func71, Try.ntmps71
  go_wp2_with fail
  refine H1.out.mono ?_
  rintro e w1 ⟨⟨u, rfl, hu⟩, hh, hg⟩
  have d2 := cells_at hh 2
  simp at d2
  have HH := hide hh
  clear hh H1
  cases b'
  · obtain ⟨c, hcb, rfl, rfl⟩ := hu rfl
    have hix := idx_str Try.underlying9 (bs [UInt8.ofNat c]) 0 c (by rw [bs_size]; simp) (by
      show c = (UInt8.ofNat c).toNat
      simp; omega)
    clear hu hbad hix
    have hsz : 0 < (bs [UInt8.ofNat c]).size := by rw [bs_size]; simp
    have e0 : (bs [UInt8.ofNat c])[0]'(by rw [bs_size]; simp) = UInt8.ofNat c := rfl
    have e1 : (UInt8.ofNat c).toNat = c := by simp; omega
    have E0 := hide e0
    have E1 := hide e1
    clear e0 e1
    go_wp2
    go_ret
    exact ⟨ret_i (by rw [E0.out, E1.out]; simp [wrap64]; omega), HH.out, hg⟩
  · obtain rfl := hbad rfl
    clear hu hbad
    go_wp2
    go_ret
    exact ⟨rfl, HH.out, hg⟩

set_option maxRecDepth 100000 in
set_option maxHeartbeats 400000 in
theorem numS_any (z p : Nat) (s : ByteArray) (b : Bool) (w : World) (hs : s.size ≤ 1048576) (hp : p ≤ s.size) (h : RdAt w z 83 s p b) :
    Calls Try.prog 72 #[.pointer (some ⟨z, 0, none⟩)] w fun e w' => e = .returned (.int .i64 (varR s p b).v) ∧ RdAt w' z 83 s (varR s p b).p (varR s p b).b ∧ w.grownBy w' (some z) := by
  unfold RdAt at h
  have c0 := cells_at h 0
  have c1 := cells_at h 1
  simp at c0 c1
  have hz := lt_of_heap h
  have HH := hide h
  have HRV := hide (srv_any s (p : Int))
  obtain ⟨v1, v2, v3, hv⟩ := rdV_three s (p : Int)
  rw [hv] at HRV
  have HV := hide hv
  clear h hv
  go_enter Try.func72, Try.ntmps72
  go_wp2
  go_region_held3 (fun W => W.cell? ⟨z, 0, none⟩ = some (.string s) ∧ W.cell? ⟨z, 1, none⟩ = some (.int .i64 (p : Int))) (first | go_keep | (refine ⟨?_, ?_⟩ <;> (refine Eq.trans (Below.cell (B := w.heap.size) (w := w.drew) ?_ ?_) ?_ <;> first | assumption | (go_grown; done)))) (first | (go_at_call 102; refine (HRV.out _ hs).mono ?_; rintro e w1 ⟨rfl, b1⟩))
  have hh1 : w1.heap[z]? = _ := (b1.block _ hz).trans HH.out
  have hg1 : w.grownBy w1 (some z) := ⟨b1.os, b1.tape, b1.output, b1.size, fun k hk _ => b1.block k hk⟩
  have d2 := cells_at hh1 2
  have f1 := frozen_at hh1 1
  have f2 := frozen_at hh1 2
  have d1 := cells_at hh1 1
  simp at d1 d2
  have HH1 := hide hh1
  clear hh1 b1 c0 c1 HH HRV
  cases b
  · cases hr : rdO s p with
    | none =>
      have e := (rdV_none hp hr).symm.trans HV.out
      simp only [Value.tuple.injEq, Array.mk.injEq, List.cons.injEq, Value.int.injEq, Value.bool.injEq, true_and, and_true] at e
      obtain ⟨e1, e2, rfl⟩ := e
      have hvr : varR s p false = ⟨0, p, true⟩ := by unfold varR; rw [hr]; rfl
      have HVR := hide hvr
      clear hvr e1 e2 hr
      go_wp2
      go_ret
      rw [HVR.out]
      exact ⟨rfl, heap_setCell_same _ z 2 _ _ _ HH1.out, grown_trans hg1 (grown_set _ z 2 _)⟩
    | some x =>
      obtain ⟨v, k⟩ := x
      have e := (rdV_good hp hr).symm.trans HV.out
      simp only [Value.tuple.injEq, Array.mk.injEq, List.cons.injEq, Value.int.injEq, Value.bool.injEq, true_and, and_true] at e
      obtain ⟨rfl, rfl, rfl⟩ := e
      have hvr : varR s p false = ⟨(v : Int), p + k, false⟩ := by unfold varR; rw [hr]; rfl
      have HVR := hide hvr
      clear hvr hr
      go_wp2
      go_ret
      rw [HVR.out]
      exact ⟨rfl, heap_setCell_same _ z 1 _ _ _ HH1.out, grown_trans hg1 (grown_set _ z 1 _)⟩
  · go_wp2
    go_ret
    rw [varR_bad]
    exact ⟨rfl, heap_setCell_same _ z 2 _ _ _ HH1.out, grown_trans hg1 (grown_set _ z 2 _)⟩
end Go.Proofs.Ytohjphhocdgpgaa
