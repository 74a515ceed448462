/-
  The developers' reader of fields: oneByte, number: their contracts.
  The developers' reader of fields inside a struct of any tag: oneByte, number.
  The developers' reader of fields: near: its contract.
-/
import Derived.Test.YtchmmekhfcojgaaGreatDoorPq29
import Derived.Deep.RegionHeld3
import Derived.Deep.QuietTactic
import Derived.BigQuiet
import Derived.Test.YtchmmekhfcojgaaGreatDoorPq1
import Derived.Test.YtchmmekhfcojgaaGreatDoorPq11
namespace Go.Proofs.YtchmmekhfcojgaaGreatDoor
open Go.RowKit

/-- the reader in block z: its text, where it stands, whether it has failed -/
def RdAt (W : World) (z : Nat) (t : TypeId) (s : ByteArray) (p : Nat) (b : Bool) : Prop := W.heap[z]? = some (.cells #[.string s, .int .i64 (p : Int), .bool b] t (0, 0))

theorem RdAt.grown {W W' : World} {z : Nat} {t : TypeId} {s : ByteArray} {p : Nat} {b : Bool} (h : RdAt W z t s p b) (hb : Below W.heap.size W W') : RdAt W' z t s p b := (hb.block _ (lt_of_heap h)).trans h

set_option maxRecDepth 100000 in
set_option maxHeartbeats 400000 in
theorem oneI_any (z p : Nat) (s : ByteArray) (b : Bool) (w : World) (hs : s.size ≤ 1048576) (hp : p ≤ s.size) (h : RdAt w z 89 s p b) :
    Calls Tryz.prog 80 #[.pointer (some ⟨z, 0, none⟩)] w fun e w' => e = .returned (.int .i64 (oneR s p b).v) ∧ RdAt w' z 89 s (oneR s p b).p (oneR s p b).b ∧ w.grownBy w' (some z) := by
  unfold RdAt at h
  have c0 := cells_at h 0
  have c1 := cells_at h 1
  have c2 := cells_at h 2
  have f1 := frozen_at h 1
  have f2 := frozen_at h 2
  simp at c0 c1 c2
  have HH := hide h
  clear h
  cases b
  · by_cases hlt : p < s.size
    · have hv : oneR s p false = ⟨(s[p].toNat : Int), p + 1, false⟩ := by unfold oneR; simp [hlt]
      rw [hv]
      obtain ⟨c, hc⟩ : ∃ c : Nat, c = s[p].toNat := ⟨_, rfl⟩
      have hcb : c < 256 := by have := s[p].toNat_lt; omega
      have hix := idx_str Tryz.underlying9 s p c hlt hc
      have HC := hide hc
      have h1 : ¬ (s.size : Int) ≤ (p : Int) := by omega
      have h2 : IntKind.i64.wrap ((p : Int) + 1) = (p : Int) + 1 := wrap_fit _ (by omega) (by omega)
      clear hc hv
      go_enter Tryz.func80, Tryz.ntmps80
      go_wp2
      go_quiet (fail)
      go_wp2
      have hh2 : ((w.drewN nq).setCell ⟨z, 1, none⟩ (.int .i64 ((p : Int) + 1))).heap[z]? = some (.cells #[.string s, .int .i64 (((p + 1 : Nat)) : Int), .bool false] 89 (0, 0)) := by
        rw [heap_setCell_same (w.drewN nq) z 1 _ _ _ HH.out]; rfl
      have hg : w.grownBy ((w.drewN nq).setCell ⟨z, 1, none⟩ (.int .i64 ((p : Int) + 1))) (some z) := grown_trans (grown_drewN w nq _) (grown_set _ z 1 _)
      generalize (w.drewN nq).setCell ⟨z, 1, none⟩ (.int .i64 ((p : Int) + 1)) = w3 at hh2 hg ⊢
      have d0 := cells_at hh2 0
      have d1 := cells_at hh2 1
      simp at d0 d1
      have HH2 := hide hh2
      clear hh2 c0 c1 c2 f1 f2 HH
      go_quiet (fail)
      go_wp2
      go_ret
      exact ⟨by rw [← HC.out]; rfl, HH2.out, grown_trans hg (grown_drewN _ _ _)⟩
    · have hv : oneR s p false = ⟨0, p, true⟩ := by unfold oneR; simp [hlt]
      rw [hv]
      have h1 : (s.size : Int) ≤ (p : Int) := by omega
      clear hv
      go_enter Tryz.func80, Tryz.ntmps80
      go_wp2
      go_quiet (fail)
      go_wp2
      go_ret
      exact ⟨rfl, heap_setCell_same (w.drewN nq) z 2 _ _ _ HH.out, grown_trans (grown_drewN w nq _) (grown_set _ z 2 _)⟩
  · have hv : oneR s p true = ⟨0, p, true⟩ := oneR_bad s p
    rw [hv]
    clear hv
    go_enter Tryz.func80, Tryz.ntmps80
    go_wp2
    go_quiet (fail)
    go_wp2
    go_ret
    exact ⟨rfl, heap_setCell_same (w.drewN nq) z 2 _ _ _ HH.out, grown_trans (grown_drewN w nq _) (grown_set _ z 2 _)⟩

/-- what ReadVar answers, in three -/
theorem rdV_good {s : ByteArray} {p v k : Nat} (hp : p ≤ s.size) (h : rdO s p = some (v, k)) : rdV s (p : Int) = .tuple #[.int .i64 (v : Int), .int .i64 ((p + k : Nat) : Int), .bool true] := by
  rw [rdV_in s p hp, h]; rfl

theorem rdV_none {s : ByteArray} {p : Nat} (hp : p ≤ s.size) (h : rdO s p = none) : rdV s (p : Int) = .tuple #[.int .i64 0, .int .i64 0, .bool false] := by
  rw [rdV_in s p hp, h]; rfl

set_option maxRecDepth 100000 in
set_option maxHeartbeats 400000 in
theorem numI_any (z p : Nat) (s : ByteArray) (b : Bool) (w : World) (hs : s.size ≤ 1048576) (hp : p ≤ s.size) (h : RdAt w z 89 s p b) :
    Calls Tryz.prog 102 #[.pointer (some ⟨z, 0, none⟩)] w fun e w' => e = .returned (.int .i64 (varR s p b).v) ∧ RdAt w' z 89 s (varR s p b).p (varR s p b).b ∧ w.grownBy w' (some z) := by
  unfold RdAt at h
  have c0 := cells_at h 0
  have c1 := cells_at h 1
  simp at c0 c1
  have hz := lt_of_heap h
  have HH := hide h
  have HRV := hide (irv_any s (p : Int))
  obtain ⟨v1, v2, v3, hv⟩ := rdV_three s (p : Int)
  rw [hv] at HRV
  have HV := hide hv
  clear h hv
  go_enter Tryz.func102, Tryz.ntmps102
  go_wp2
  go_region_held3 (fun W => W.cell? ⟨z, 0, none⟩ = some (.string s) ∧ W.cell? ⟨z, 1, none⟩ = some (.int .i64 (p : Int))) (first | go_keep | (refine ⟨?_, ?_⟩ <;> (refine Eq.trans (Below.cell (B := w.heap.size) (w := w.drew) ?_ ?_) ?_ <;> first | assumption | (go_grown; done)))) (first | (go_at_call 115; refine (HRV.out _ hs).mono ?_; rintro e w1 ⟨rfl, b1⟩))
  have hh1 : w1.heap[z]? = _ := (b1.block _ hz).trans HH.out
  have hg1 : w.grownBy w1 (some z) := ⟨b1.os, b1.tape, b1.output, b1.size, fun k hk _ => b1.block k hk⟩
  have d2 := cells_at hh1 2
  have f1 := frozen_at hh1 1
  have f2 := frozen_at hh1 2
  have d1 := cells_at hh1 1
  simp at d1 d2
  have HH1 := hide hh1
  clear hh1 b1 c0 c1 HH HRV
  cases b
  · cases hr : rdO s p with
    | none =>
      have e := (rdV_none hp hr).symm.trans HV.out
      simp only [Value.tuple.injEq, Array.mk.injEq, List.cons.injEq, Value.int.injEq, Value.bool.injEq, true_and, and_true] at e
      obtain ⟨e1, e2, rfl⟩ := e
      have hvr : varR s p false = ⟨0, p, true⟩ := by unfold varR; rw [hr]; rfl
      have HVR := hide hvr
      clear hvr e1 e2 hr
      go_wp2
      go_ret
      rw [HVR.out]
      exact ⟨rfl, heap_setCell_same _ z 2 _ _ _ HH1.out, grown_trans hg1 (grown_set _ z 2 _)⟩
    | some x =>
      obtain ⟨v, k⟩ := x
      have e := (rdV_good hp hr).symm.trans HV.out
      simp only [Value.tuple.injEq, Array.mk.injEq, List.cons.injEq, Value.int.injEq, Value.bool.injEq, true_and, and_true] at e
      obtain ⟨rfl, rfl, rfl⟩ := e
      have hvr : varR s p false = ⟨(v : Int), p + k, false⟩ := by unfold varR; rw [hr]; rfl
      have HVR := hide hvr
      clear hvr hr
      go_wp2
      go_ret
      rw [HVR.out]
      exact ⟨rfl, heap_setCell_same _ z 1 _ _ _ HH1.out, grown_trans hg1 (grown_set _ z 1 _)⟩
  · go_wp2
    go_ret
    rw [varR_bad]
    exact ⟨rfl, heap_setCell_same _ z 2 _ _ _ HH1.out, grown_trans hg1 (grown_set _ z 2 _)⟩

set_option maxRecDepth 100000 in
set_option maxHeartbeats 400000 in
theorem flagI_any (z p : Nat) (s : ByteArray) (b : Bool) (w : World) (hs : s.size ≤ 1048576) (hp : p ≤ s.size) (h : RdAt w z 89 s p b) :
    Calls Tryz.prog 117 #[.pointer (some ⟨z, 0, none⟩)] w fun e w' => e = .returned (.bool ((oneR s p b).v == 1)) ∧ RdAt w' z 89 s (oneR s p b).p ((oneR s p b).b || decide (1 < (oneR s p b).v)) ∧ w.grownBy w' (some z) := by
  have H1 := hide (oneI_any z p s b w hs hp h)
  clear h
  generalize oneR s p b = r at H1 ⊢
  obtain ⟨v, p', b'⟩ := r
  simp only [] at H1 ⊢
  go_enter Tryz.func117, Tryz.ntmps117
  go_wp2_with fail
  refine H1.out.mono ?_
  rintro e w1 ⟨rfl, hh, hg⟩
  unfold RdAt at hh
  have d2 := cells_at hh 2
  have f2 := frozen_at hh 2
  simp at d2
  have HH := hide hh
  clear hh H1
  cases b'
  · go_wp2
    go_ret
    exact ⟨rfl, heap_setCell_same _ z 2 _ _ _ HH.out, grown_trans hg (grown_set _ z 2 _)⟩
  · go_wp2
    go_ret
    exact ⟨rfl, heap_setCell_same _ z 2 _ _ _ HH.out, grown_trans hg (grown_set _ z 2 _)⟩
end Go.Proofs.YtchmmekhfcojgaaGreatDoor
namespace Go.Proofs.YtchmmekhfcojgaaGreatDoor
open Go.RowKit

set_option maxRecDepth 100000 in
set_option maxHeartbeats 400000 in
theorem oneJ_any (t : TypeId) (z p : Nat) (s : ByteArray) (b : Bool) (w : World) (hs : s.size ≤ 1048576) (hp : p ≤ s.size) (h : RdAt w z t s p b) :
    Calls Tryz.prog 80 #[.pointer (some ⟨z, 0, none⟩)] w fun e w' => e = .returned (.int .i64 (oneR s p b).v) ∧ RdAt w' z t s (oneR s p b).p (oneR s p b).b ∧ w.grownBy w' (some z) := by
  unfold RdAt at h
  have c0 := cells_at h 0
  have c1 := cells_at h 1
  have c2 := cells_at h 2
  have f1 := frozen_at h 1
  have f2 := frozen_at h 2
  simp at c0 c1 c2
  have HH := hide h
  clear h
  cases b
  · by_cases hlt : p < s.size
    · have hv : oneR s p false = ⟨(s[p].toNat : Int), p + 1, false⟩ := by unfold oneR; simp [hlt]
      rw [hv]
      obtain ⟨c, hc⟩ : ∃ c : Nat, c = s[p].toNat := ⟨_, rfl⟩
      have hcb : c < 256 := by have := s[p].toNat_lt; omega
      have hix := idx_str Tryz.underlying9 s p c hlt hc
      have HC := hide hc
      have h1 : ¬ (s.size : Int) ≤ (p : Int) := by omega
      have h2 : IntKind.i64.wrap ((p : Int) + 1) = (p : Int) + 1 := wrap_fit _ (by omega) (by omega)
      clear hc hv
      go_enter Tryz.func80, Tryz.ntmps80
      go_wp2
      go_quiet (fail)
      go_wp2
      have hh2 : ((w.drewN nq).setCell ⟨z, 1, none⟩ (.int .i64 ((p : Int) + 1))).heap[z]? = some (.cells #[.string s, .int .i64 (((p + 1 : Nat)) : Int), .bool false] t (0, 0)) := by
        rw [heap_setCell_same (w.drewN nq) z 1 _ _ _ HH.out]; rfl
      have hg : w.grownBy ((w.drewN nq).setCell ⟨z, 1, none⟩ (.int .i64 ((p : Int) + 1))) (some z) := grown_trans (grown_drewN w nq _) (grown_set _ z 1 _)
      generalize (w.drewN nq).setCell ⟨z, 1, none⟩ (.int .i64 ((p : Int) + 1)) = w3 at hh2 hg ⊢
      have d0 := cells_at hh2 0
      have d1 := cells_at hh2 1
      simp at d0 d1
      have HH2 := hide hh2
      clear hh2 c0 c1 c2 f1 f2 HH
      go_quiet (fail)
      go_wp2
      go_ret
      exact ⟨by rw [← HC.out]; rfl, HH2.out, grown_trans hg (grown_drewN _ _ _)⟩
    · have hv : oneR s p false = ⟨0, p, true⟩ := by unfold oneR; simp [hlt]
      rw [hv]
      have h1 : (s.size : Int) ≤ (p : Int) := by omega
      clear hv
      go_enter Tryz.func80, Tryz.ntmps80
      go_wp2
      go_quiet (fail)
      go_wp2
      go_ret
      exact ⟨rfl, heap_setCell_same (w.drewN nq) z 2 _ _ _ HH.out, grown_trans (grown_drewN w nq _) (grown_set _ z 2 _)⟩
  · have hv : oneR s p true = ⟨0, p, true⟩ := oneR_bad s p
    rw [hv]
    clear hv
    go_enter Tryz.func80, Tryz.ntmps80
    go_wp2
    go_quiet (fail)
    go_wp2
    go_ret
    exact ⟨rfl, heap_setCell_same (w.drewN nq) z 2 _ _ _ HH.out, grown_trans (grown_drewN w nq _) (grown_set _ z 2 _)⟩

set_option maxRecDepth 100000 in
set_option maxHeartbeats 400000 in
theorem numJ_any (t : TypeId) (z p : Nat) (s : ByteArray) (b : Bool) (w : World) (hs : s.size ≤ 1048576) (hp : p ≤ s.size) (h : RdAt w z t s p b) :
    Calls Tryz.prog 102 #[.pointer (some ⟨z, 0, none⟩)] w fun e w' => e = .returned (.int .i64 (varR s p b).v) ∧ RdAt w' z t s (varR s p b).p (varR s p b).b ∧ w.grownBy w' (some z) := by
  unfold RdAt at h
  have c0 := cells_at h 0
  have c1 := cells_at h 1
  simp at c0 c1
  have hz := lt_of_heap h
  have HH := hide h
  have HRV := hide (irv_any s (p : Int))
  obtain ⟨v1, v2, v3, hv⟩ := rdV_three s (p : Int)
  rw [hv] at HRV
  have HV := hide hv
  clear h hv
  go_enter Tryz.func102, Tryz.ntmps102
  go_wp2
  go_region_held3 (fun W => W.cell? ⟨z, 0, none⟩ = some (.string s) ∧ W.cell? ⟨z, 1, none⟩ = some (.int .i64 (p : Int))) (first | go_keep | (refine ⟨?_, ?_⟩ <;> (refine Eq.trans (Below.cell (B := w.heap.size) (w := w.drew) ?_ ?_) ?_ <;> first | assumption | (go_grown; done)))) (first | (go_at_call 115; refine (HRV.out _ hs).mono ?_; rintro e w1 ⟨rfl, b1⟩))
  have hh1 : w1.heap[z]? = _ := (b1.block _ hz).trans HH.out
  have hg1 : w.grownBy w1 (some z) := ⟨b1.os, b1.tape, b1.output, b1.size, fun k hk _ => b1.block k hk⟩
  have d2 := cells_at hh1 2
  have f1 := frozen_at hh1 1
  have f2 := frozen_at hh1 2
  have d1 := cells_at hh1 1
  simp at d1 d2
  have HH1 := hide hh1
  clear hh1 b1 c0 c1 HH HRV
  cases b
  · cases hr : rdO s p with
    | none =>
      have e := (rdV_none hp hr).symm.trans HV.out
      simp only [Value.tuple.injEq, Array.mk.injEq, List.cons.injEq, Value.int.injEq, Value.bool.injEq, true_and, and_true] at e
      obtain ⟨e1, e2, rfl⟩ := e
      have hvr : varR s p false = ⟨0, p, true⟩ := by unfold varR; rw [hr]; rfl
      have HVR := hide hvr
      clear hvr e1 e2 hr
      go_wp2
      go_ret
      rw [HVR.out]
      exact ⟨rfl, heap_setCell_same _ z 2 _ _ _ HH1.out, grown_trans hg1 (grown_set _ z 2 _)⟩
    | some x =>
      obtain ⟨v, k⟩ := x
      have e := (rdV_good hp hr).symm.trans HV.out
      simp only [Value.tuple.injEq, Array.mk.injEq, List.cons.injEq, Value.int.injEq, Value.bool.injEq, true_and, and_true] at e
      obtain ⟨rfl, rfl, rfl⟩ := e
      have hvr : varR s p false = ⟨(v : Int), p + k, false⟩ := by unfold varR; rw [hr]; rfl
      have HVR := hide hvr
      clear hvr hr
      go_wp2
      go_ret
      rw [HVR.out]
      exact ⟨rfl, heap_setCell_same _ z 1 _ _ _ HH1.out, grown_trans hg1 (grown_set _ z 1 _)⟩
  · go_wp2
    go_ret
    rw [varR_bad]
    exact ⟨rfl, heap_setCell_same _ z 2 _ _ _ HH1.out, grown_trans hg1 (grown_set _ z 2 _)⟩

end Go.Proofs.YtchmmekhfcojgaaGreatDoor
namespace Go.Proofs.YtchmmekhfcojgaaGreatDoor
open Go.RowKit

/-- old blocks but z stay, where an append turned a row of the call's own -/
theorem grown_app {w wr w' : World} {z base : Nat} {o : Obj} {v : Value} {e : TypeId} {size n : Nat} {xs : List Value} (h : w.grownBy wr (some z)) (hg : (wr.alloc o).grownBy w' v.ownBlock) (ho : wr.ownsRow base e size v n xs) (hb : base = w.heap.size) : w.grownBy w' (some z) := by
  refine ⟨hg.os.trans h.os, hg.tape.trans h.tape, hg.output.trans h.output, ?_, fun k hk hr => ?_⟩
  · have h1 := h.size
    have h2 := hg.size
    simp at h2
    omega
  · have hkr : k < wr.heap.size := Nat.lt_of_lt_of_le hk h.size
    rw [hg.block k (by simp; omega) (fun e => by have := (ho.lt k e.symm).1; omega), Below.heap_alloc _ _ _ hkr]
    exact h.block k hk hr

theorem rd_app {wr w' : World} {z base p : Nat} {t : TypeId} {s : ByteArray} {b : Bool} {o : Obj} {v : Value} {e : TypeId} {size n : Nat} {xs : List Value} (h : RdAt wr z t s p b) (hg : (wr.alloc o).grownBy w' v.ownBlock) (ho : wr.ownsRow base e size v n xs) (hz : z < base) : RdAt w' z t s p b := by
  have hl := lt_of_heap h
  have : w'.heap[z]? = wr.heap[z]? := by
    rw [hg.block z (by simp; omega) (fun e => by have := (ho.lt z e.symm).1; omega), Below.heap_alloc _ _ _ hl]
  exact this.trans h

set_option maxRecDepth 100000 in
set_option maxHeartbeats 1000000 in
theorem nearI_any (z p : Nat) (s : ByteArray) (b : Bool) (w : World) (hs : s.size ≤ 1048576) (hp : p ≤ s.size) (h : RdAt w z 89 s p b) :
    Calls Tryz.prog 116 #[.pointer (some ⟨z, 0, none⟩)] w fun e w' => ∃ u : Value, e = .returned u ∧ w'.ownsRow w.heap.size 100 2 u (nearA s (varR s p b).p (varR s p b).b (varR s p b).v.toNat).l.length (flat nrE (nearA s (varR s p b).p (varR s p b).b (varR s p b).v.toNat).l) ∧ RdAt w' z 89 s (nearA s (varR s p b).p (varR s p b).b (varR s p b).v.toNat).p (nearA s (varR s p b).p (varR s p b).b (varR s p b).v.toNat).b ∧ w.grownBy w' (some z) := by
  have hz := lt_of_heap h
  have H1 := hide (numI_any z p s b w hs hp h)
  have HO := hide (fun q c W => oneI_any z q s c W hs)
  have HN := hide (fun q c W => numI_any z q s c W hs)
  have hq := varR_le (b := b) hp
  have hr := varR_range (b := b) hp
  clear h
  generalize varR s p b = r0 at H1 hq hr ⊢
  obtain ⟨n0, q0, c0⟩ := r0
  simp only [] at H1 hq hr ⊢
  obtain ⟨n, rfl⟩ : ∃ m : Nat, n0 = (m : Int) := ⟨n0.toNat, by omega⟩
  have hn : n ≤ 1000000000 := by omega
  rw [Int.toNat_natCast]
  clear hr
  go_enter Tryz.func116, Tryz.ntmps116
  go_wp2_with fail
  refine H1.out.mono ?_
  rintro e w1 ⟨rfl, hh1, hg1⟩
  have HH1 := hide hh1
  clear hh1 H1
  go_wp2
  go_loopw [3, 4] (fun u i wr => ∃ (k : Nat) (r : RdL), k ≤ n ∧ i = .int .i64 ((n : Int) - (k : Int)) ∧ r = nearA s q0 c0 k ∧ wr.ownsRow w.heap.size 100 2 u r.l.length (flat nrE r.l) ∧ RdAt wr z 89 s r.p r.b ∧ w.grownBy wr (some z)) (fun _ i _ => (intOf i).toNat)
  case atStart => exact ⟨0, ⟨[], q0, c0⟩, by omega, by simp, rfl, ⟨by simp [flat], .inl ⟨rfl, rfl⟩⟩, HH1.out, hg1⟩
  case round =>
    clear hg1 HH1
    obtain ⟨k, r, hk, rfl, hrr, hown, hrd, hg⟩ := hrel
    have hle := nearA_le (b := c0) hq k
    have hsz := (nearA_size (b := c0) hq k).1
    rw [← hrr] at hle hsz
    have HRR := hide hrr
    have OW := hide hown
    have c2 := cells_at hrd 2
    simp at c2
    have RD := hide hrd
    have hzw := hg.size
    clear hown hrd hrr
    obtain ⟨l, q, c⟩ := r
    simp only [] at *
    by_cases hkn : k < n
    · have hk0 : (0 : Int) < (n : Int) - (k : Int) := by omega
      cases c
      · have HST := hide (nearA_good (s := s) (p := q0) (b := c0) (k := k) (by rw [← HRR.out]))
        rw [← HRR.out] at HST
        simp only [] at HST
        go_wp2_with fail
        refine (HO.out q false _ hle RD.out).mono ?_
        rintro e w2 ⟨rfl, hh2, hg2⟩
        have hle2 := oneR_le (b := false) hle
        have hrt := oneR_range s q false
        have ow2 := kept_other OW.out hg2 hz
        generalize oneR s q false = r1 at HST hh2 hle2 hrt ⊢
        obtain ⟨t1, q1, c1⟩ := r1
        simp only [] at HST hh2 hle2 hrt ⊢
        have OW2 := hide ow2
        have RD2 := hide hh2
        have G2 := hide (grown_trans hg hg2)
        clear ow2 hh2 hg2 OW RD hg c2
        go_wp2_with fail
        refine (HN.out q1 c1 _ hle2 RD2.out).mono ?_
        rintro e w3 ⟨rfl, hh3, hg3⟩
        have ow3 := kept_other OW2.out hg3 hz
        generalize varR s q1 c1 = r2 at HST hh3 ⊢
        obtain ⟨t2, q2, c2⟩ := r2
        simp only [] at HST hh3 ⊢
        have hs3 : w.heap.size ≤ w3.heap.size := Nat.le_trans G2.out.size hg3.size
        have OW3 := hide ow3
        have RD3 := hide hh3
        have G3 := hide (grown_trans G2.out hg3)
        clear ow3 hh3 hg3 OW2 RD2 G2
        go_wp2_with (first
          | (at_builtin; refine wpList_append_struct nrE_len (by omega) nrE_one (by omega) _ rfl _ _ 49 rfl w.heap.size 100 Tryz.underlying49 (nrV nr0) rfl Tryz.infoNr u3 l ⟨t1, t2⟩ rfl (OW3.out.alloc _) ⟨w3.heap.size, 0, none⟩ 1 rfl (news_struct (cs := nrE ⟨t1, t2⟩)) (by omega) (by simp; omega) ?_))
        intro v' w4 l' hl' hown' hgrow
        have RD4 := hide (rd_app RD3.out hgrow OW3.out hz)
        have G4 := hide (grown_app G3.out hgrow OW3.out rfl)
        have OW4 := hide hown'
        clear hown' hgrow
        go_wp2
        go_roundw
        case rel => exact ⟨k + 1, ⟨l', q2, c2⟩, by omega, by simp; omega, by rw [HST.out, hl'.out], OW4.out, RD4.out, G4.out⟩
        case measure => simp [intOf]; omega
      · have HB := hide (nearA_bad (s := s) (p := q0) (b := c0) (k := k) (by rw [← HRR.out]) (n - k))
        go_wp2
        go_ret
        have e := HB.out
        rw [show k + (n - k) = n by omega] at e
        rw [e, ← HRR.out]
        exact ⟨_, rfl, OW.out, RD.out, hg⟩
    · have hkn' : k = n := by omega
      have hk0 : ¬ (0 : Int) < (n : Int) - (k : Int) := by omega
      have HKN := hide hkn'
      clear hkn'
      go_wp2
      go_ret
      rw [← HKN.out, ← HRR.out]
      exact ⟨_, rfl, OW.out, RD.out, hg⟩
end Go.Proofs.YtchmmekhfcojgaaGreatDoor
