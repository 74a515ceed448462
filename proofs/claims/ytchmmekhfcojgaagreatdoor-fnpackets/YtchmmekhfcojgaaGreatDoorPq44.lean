/-
  spec.ReadVar: its contract.
  spec.ReadVar at every text up to 1048576 bytes and every place.
  The specification's cursor over a text: l04Take, l04One, l04Var: their contracts.
  spec.l04Take at any number: its contract.
-/
import Derived.Test.YtchmmekhfcojgaaGreatDoorPq20
import Derived.Test.YtchmmekhfcojgaaGreatDoorPq4
import Derived.Test.YtchmmekhfcojgaaGreatDoorPq28
import Derived.Deep.RegionHeld3
import Derived.Deep.QuietTactic
import Derived.BigQuiet
import Derived.Test.YtchmmekhfcojgaaGreatDoorPq29
import Derived.Test.YtchmmekhfcojgaaGreatDoorPq30
namespace Go.Proofs.YtchmmekhfcojgaaGreatDoor
open Go.RowKit

set_option maxRecDepth 100000 in
set_option maxHeartbeats 1000000 in
theorem srv_in (s : ByteArray) (p : Nat) (w : World) (hs : s.size ≤ 1048576) (hp : p ≤ s.size) :
    Calls Tryz.prog 68 #[.string s, .int .i64 (p : Int)] w fun e w' => e = .returned (rdT p (rdO s p)) ∧ Below w.heap.size w w' := by
  have hin : inB (p : Int) 0 (s.size : Int) = true := by simp [inB]; omega
  go_enter Tryz.func68, Tryz.ntmps68
  go_wp2_with (first | (go_at_call 88; refine (in_any _ _ _ _).mono ?_; rintro e w' ⟨rfl, rfl⟩))
  go_loopw [7, 8, 9] (fun n sc i wr => (∃ (q m z : Nat) (pre : List UInt8), i = .int .i64 q ∧ n = .int .i64 m ∧ sc = .int .i64 z ∧ Rd s p q pre m z) ∧ Below w.heap.size w wr) (fun _ _ i _ => p + 5 - (intOf i).toNat)
  case atStart => exact ⟨⟨p, 0, 1, [], rfl, rfl, rfl, Rd.first s p hp⟩, Below.refl _ _⟩
  case round =>
    obtain ⟨⟨q, m, z, pre, rfl, rfl, rfl, R⟩, hnx⟩ := hrel
    have h1 := R.le
    have h2 := R.five
    have h3 := R.size
    have h4 := R.lt
    have hcs := R.cases
    by_cases hq : q < s.size
    · obtain ⟨c, hc⟩ : ∃ c : Nat, c = s[q].toNat := ⟨_, rfl⟩
      have hcb : c < 256 := by have := s[q].toNat_lt; omega
      have hix := idx_str Tryz.underlying9 s q c hq hc
      obtain ⟨t, ht⟩ : ∃ t : ByteArray, t = s.extract p (q + 1) := ⟨_, rfl⟩
      have hsl := sl_str Tryz.underlying9 s t (p : Int) ((q : Int) + 1) (by omega) (by omega) (by omega) (by rw [ht]; rfl)
      have TT : Hid (t = s.extract p (q + 1)) := ht
      clear ht
      have C : Hid (c = s[q].toNat) := hc
      clear hc
      rcases hcs with ⟨e, rfl⟩ | ⟨e, rfl⟩ | ⟨e, rfl⟩ | ⟨e, rfl⟩ | ⟨e, rfl⟩ | ⟨e, rfl⟩
      · have h5 : q < p + 5 := by omega
        by_cases hlo : c < 128
        · by_cases hbig : (1000000000 : Int) < (m : Int) + (c : Int) % 128
          · exact absurd hbig (by omega)
          · have E := hide e
            clear e
            have hd : decide ((1000000000 : Int) < (m : Int) + (c : Int) % 128) = false := by simpa using hbig
            go_wp2
            have hI0 : (0 : Int) ≤ (p : Int) := by omega
            have hI1 : (p : Int) ≤ (q : Int) + 1 := by omega
            have hI2 : (q : Int) + 1 ≤ (s.size : Int) := by omega
            have hI3 : (0 : Int) ≤ (q : Int) + 1 := by omega
            have hI4 : IntKind.i64.wrap ((q : Int) + 1) = (q : Int) + 1 := wrap_fit _ (by omega) (by omega)
            go_region_held3 (fun _ => True) (trivial) (first | (go_at_call 59; refine (var_any _ _ (by omega) (by omega)).mono ?_; rintro e w' ⟨rfl, hb⟩))
            go_wp2
            · go_ret3
              refine ⟨ret_no (R.cmp_no hq C.out h5 (by omega) TT.out ?_ ‹_›), ?_⟩
              · omega
              · exact hnx.drew.trans (hb.mono hnx.size)
            · go_ret3
              refine ⟨ret_yes (R.cmp_yes hq C.out h5 (by omega) TT.out ?_ (by omega) ‹_›) (by omega) (by omega), ?_⟩
              · omega
              · exact hnx.drew.trans (hb.mono hnx.size)
        · have E := hide e
          clear e
          go_wp2
          go_roundw
          case rel => exact ⟨⟨q + 1, _, _, _, by go_num, by go_num, by go_num, R.next' hq C.out h5 (by omega)⟩, hnx⟩
          case measure => simp [intOf]; omega
      · have h5 : q < p + 5 := by omega
        by_cases hlo : c < 128
        · by_cases hbig : (1000000000 : Int) < (m : Int) + (c : Int) % 128 * 128
          · exact absurd hbig (by omega)
          · have E := hide e
            clear e
            have hd : decide ((1000000000 : Int) < (m : Int) + (c : Int) % 128 * 128) = false := by simpa using hbig
            go_wp2
            have hI0 : (0 : Int) ≤ (p : Int) := by omega
            have hI1 : (p : Int) ≤ (q : Int) + 1 := by omega
            have hI2 : (q : Int) + 1 ≤ (s.size : Int) := by omega
            have hI3 : (0 : Int) ≤ (q : Int) + 1 := by omega
            have hI4 : IntKind.i64.wrap ((q : Int) + 1) = (q : Int) + 1 := wrap_fit _ (by omega) (by omega)
            go_region_held3 (fun _ => True) (trivial) (first | (go_at_call 59; refine (var_any _ _ (by omega) (by omega)).mono ?_; rintro e w' ⟨rfl, hb⟩))
            go_wp2
            · go_ret3
              refine ⟨ret_no (R.cmp_no hq C.out h5 (by omega) TT.out ?_ ‹_›), ?_⟩
              · omega
              · exact hnx.drew.trans (hb.mono hnx.size)
            · go_ret3
              refine ⟨ret_yes (R.cmp_yes hq C.out h5 (by omega) TT.out ?_ (by omega) ‹_›) (by omega) (by omega), ?_⟩
              · omega
              · exact hnx.drew.trans (hb.mono hnx.size)
        · have E := hide e
          clear e
          go_wp2
          go_roundw
          case rel => exact ⟨⟨q + 1, _, _, _, by go_num, by go_num, by go_num, R.next' hq C.out h5 (by omega)⟩, hnx⟩
          case measure => simp [intOf]; omega
      · have h5 : q < p + 5 := by omega
        by_cases hlo : c < 128
        · by_cases hbig : (1000000000 : Int) < (m : Int) + (c : Int) % 128 * 16384
          · exact absurd hbig (by omega)
          · have E := hide e
            clear e
            have hd : decide ((1000000000 : Int) < (m : Int) + (c : Int) % 128 * 16384) = false := by simpa using hbig
            go_wp2
            have hI0 : (0 : Int) ≤ (p : Int) := by omega
            have hI1 : (p : Int) ≤ (q : Int) + 1 := by omega
            have hI2 : (q : Int) + 1 ≤ (s.size : Int) := by omega
            have hI3 : (0 : Int) ≤ (q : Int) + 1 := by omega
            have hI4 : IntKind.i64.wrap ((q : Int) + 1) = (q : Int) + 1 := wrap_fit _ (by omega) (by omega)
            go_region_held3 (fun _ => True) (trivial) (first | (go_at_call 59; refine (var_any _ _ (by omega) (by omega)).mono ?_; rintro e w' ⟨rfl, hb⟩))
            go_wp2
            · go_ret3
              refine ⟨ret_no (R.cmp_no hq C.out h5 (by omega) TT.out ?_ ‹_›), ?_⟩
              · omega
              · exact hnx.drew.trans (hb.mono hnx.size)
            · go_ret3
              refine ⟨ret_yes (R.cmp_yes hq C.out h5 (by omega) TT.out ?_ (by omega) ‹_›) (by omega) (by omega), ?_⟩
              · omega
              · exact hnx.drew.trans (hb.mono hnx.size)
        · have E := hide e
          clear e
          go_wp2
          go_roundw
          case rel => exact ⟨⟨q + 1, _, _, _, by go_num, by go_num, by go_num, R.next' hq C.out h5 (by omega)⟩, hnx⟩
          case measure => simp [intOf]; omega
      · have h5 : q < p + 5 := by omega
        by_cases hlo : c < 128
        · by_cases hbig : (1000000000 : Int) < (m : Int) + (c : Int) % 128 * 2097152
          · exact absurd hbig (by omega)
          · have E := hide e
            clear e
            have hd : decide ((1000000000 : Int) < (m : Int) + (c : Int) % 128 * 2097152) = false := by simpa using hbig
            go_wp2
            have hI0 : (0 : Int) ≤ (p : Int) := by omega
            have hI1 : (p : Int) ≤ (q : Int) + 1 := by omega
            have hI2 : (q : Int) + 1 ≤ (s.size : Int) := by omega
            have hI3 : (0 : Int) ≤ (q : Int) + 1 := by omega
            have hI4 : IntKind.i64.wrap ((q : Int) + 1) = (q : Int) + 1 := wrap_fit _ (by omega) (by omega)
            go_region_held3 (fun _ => True) (trivial) (first | (go_at_call 59; refine (var_any _ _ (by omega) (by omega)).mono ?_; rintro e w' ⟨rfl, hb⟩))
            go_wp2
            · go_ret3
              refine ⟨ret_no (R.cmp_no hq C.out h5 (by omega) TT.out ?_ ‹_›), ?_⟩
              · omega
              · exact hnx.drew.trans (hb.mono hnx.size)
            · go_ret3
              refine ⟨ret_yes (R.cmp_yes hq C.out h5 (by omega) TT.out ?_ (by omega) ‹_›) (by omega) (by omega), ?_⟩
              · omega
              · exact hnx.drew.trans (hb.mono hnx.size)
        · have E := hide e
          clear e
          go_wp2
          go_roundw
          case rel => exact ⟨⟨q + 1, _, _, _, by go_num, by go_num, by go_num, R.next' hq C.out h5 (by omega)⟩, hnx⟩
          case measure => simp [intOf]; omega
      · have h5 : q < p + 5 := by omega
        by_cases hlo : c < 128
        · by_cases hbig : (1000000000 : Int) < (m : Int) + (c : Int) % 128 * 268435456
          · have hno : rdO s p = none := R.no' hq C.out h5 (by omega) (by omega)
            have HN := hide hno
            clear hno
            have E := hide e
            clear e
            have hd : decide ((1000000000 : Int) < (m : Int) + (c : Int) % 128 * 268435456) = true := by simpa using hbig
            go_wp2
            go_quiet (fail)
            go_wp2
            go_ret3
            exact ⟨ret_no HN.out, below_drewN hnx _⟩
          · have E := hide e
            clear e
            have hd : decide ((1000000000 : Int) < (m : Int) + (c : Int) % 128 * 268435456) = false := by simpa using hbig
            go_wp2
            have hI0 : (0 : Int) ≤ (p : Int) := by omega
            have hI1 : (p : Int) ≤ (q : Int) + 1 := by omega
            have hI2 : (q : Int) + 1 ≤ (s.size : Int) := by omega
            have hI3 : (0 : Int) ≤ (q : Int) + 1 := by omega
            have hI4 : IntKind.i64.wrap ((q : Int) + 1) = (q : Int) + 1 := wrap_fit _ (by omega) (by omega)
            go_region_held3 (fun _ => True) (trivial) (first | (go_at_call 59; refine (var_any _ _ (by omega) (by omega)).mono ?_; rintro e w' ⟨rfl, hb⟩))
            go_wp2
            · go_ret3
              refine ⟨ret_no (R.cmp_no hq C.out h5 (by omega) TT.out ?_ ‹_›), ?_⟩
              · omega
              · exact hnx.drew.trans (hb.mono hnx.size)
            · go_ret3
              refine ⟨ret_yes (R.cmp_yes hq C.out h5 (by omega) TT.out ?_ (by omega) ‹_›) (by omega) (by omega), ?_⟩
              · omega
              · exact hnx.drew.trans (hb.mono hnx.size)
        · have E := hide e
          clear e
          go_wp2
          go_roundw
          case rel => exact ⟨⟨q + 1, _, _, _, by go_num, by go_num, by go_num, R.next' hq C.out h5 (by omega)⟩, hnx⟩
          case measure => simp [intOf]; omega
      · have h5 : p + 5 ≤ q := by omega
        have E := hide e
        clear e
        go_wp2
        go_ret3
        exact ⟨ret_no (R.no_byte (by omega)), hnx⟩
    · clear hcs
      go_wp2
      go_ret3
      exact ⟨ret_no (R.no_byte (by omega)), hnx⟩
end Go.Proofs.YtchmmekhfcojgaaGreatDoor
namespace Go.Proofs.YtchmmekhfcojgaaGreatDoor
open Go.RowKit

set_option maxRecDepth 100000 in
set_option maxHeartbeats 400000 in
theorem srv_any (s : ByteArray) (x : Int) (w : World) (hs : s.size ≤ 1048576) :
    Calls Tryz.prog 68 #[.string s, .int .i64 x] w fun e w' => e = .returned (rdV s x) ∧ Below w.heap.size w w' := by
  by_cases h1 : x < 0 ∨ (s.size : Int) < x
  · have hin : inB x 0 (s.size : Int) = false := by simp [inB]; omega
    rw [rdV_out s x h1]
    go_enter Tryz.func68, Tryz.ntmps68
    go_wp2_with (first | (go_at_call 88; refine (in_any _ _ _ _).mono ?_; rintro e w' ⟨rfl, rfl⟩))
    go_ret3
    exact ⟨rfl, Below.refl _ _⟩
  obtain ⟨p, rfl⟩ : ∃ p : Nat, x = (p : Int) := ⟨x.toNat, by omega⟩
  rw [rdV_in s p (by omega)]
  exact srv_in s p w hs (by omega)
end Go.Proofs.YtchmmekhfcojgaaGreatDoor
namespace Go.Proofs.YtchmmekhfcojgaaGreatDoor
open Go.RowKit

theorem sub_bs (s : ByteArray) (p c : Nat) (h : p < s.size) (hc : c = s[p].toNat) : s.extract p (p + 1) = bs [UInt8.ofNat c] := by
  apply ByteArray.ext
  apply Array.ext'
  rw [hc]
  have h2 := take_byte s p p (Nat.le_refl _) h
  have e : (s.extract p (p + 1)).data.toList = (s.data.toList.drop p).take 1 := by
    rw [Go.Lib.extract_data, Nat.add_sub_cancel_left]
  rw [e]
  have e3 : p + 1 - p = 1 := by omega
  rw [e3, Nat.sub_self] at h2
  rw [h2]
  simp [bs]

set_option maxRecDepth 100000 in
set_option maxHeartbeats 400000 in
theorem oneS_any (z p : Nat) (s : ByteArray) (b : Bool) (w : World) (hs : s.size ≤ 1048576) (hp : p ≤ s.size) (h : RdAt w z 62 s p b) :
    Calls Tryz.prog 36 #[.pointer (some ⟨z, 0, none⟩), .int .i64 1] w fun e w' => (∃ u : ByteArray, e = .returned (.string u) ∧ ((oneR s p b).b = false → ∃ c : Nat, c < 256 ∧ (oneR s p b).v = (c : Int) ∧ u = bs [UInt8.ofNat c])) ∧ RdAt w' z 62 s (oneR s p b).p (oneR s p b).b ∧ w.grownBy w' (some z) := by
  unfold RdAt at h
  have c0 := cells_at h 0
  have c1 := cells_at h 1
  have c2 := cells_at h 2
  have f1 := frozen_at h 1
  have f2 := frozen_at h 2
  simp at c0 c1 c2
  have HH := hide h
  clear h
  cases b
  · by_cases hlt : p < s.size
    · have hv : oneR s p false = ⟨(s[p].toNat : Int), p + 1, false⟩ := by unfold oneR; simp [hlt]
      obtain ⟨c, hc⟩ : ∃ c : Nat, c = s[p].toNat := ⟨_, rfl⟩
      have hcb : c < 256 := by have := s[p].toNat_lt; omega
      have hsl := sl_str Tryz.underlying9 s (bs [UInt8.ofNat c]) (p : Int) ((p : Int) + 1) (by omega) (by omega) (by omega) (by
        rw [← sub_bs s p c hlt hc]
        congr 1 <;> omega)
      rw [← hc] at hv
      have HV := hide hv
      have h1 : ¬ (s.size : Int) - (p : Int) < 1 := by omega
      have h2 : IntKind.i64.wrap ((p : Int) + 1) = (p : Int) + 1 := wrap_fit _ (by omega) (by omega)
      have h3 : IntKind.i64.wrap ((s.size : Int) - (p : Int)) = (s.size : Int) - (p : Int) := wrap_fit _ (by omega) (by omega)
      clear hc hv
      go_enter Tryz.func36, Tryz.ntmps36
      go_wp2
      go_quiet (fail)
      go_wp2
      have hh2 : ((w.drewN nq).setCell ⟨z, 1, none⟩ (.int .i64 ((p : Int) + 1))).heap[z]? = some (.cells #[.string s, .int .i64 (((p + 1 : Nat)) : Int), .bool false] 62 (0, 0)) := by
        rw [heap_setCell_same (w.drewN nq) z 1 _ _ _ HH.out]; rfl
      have hg : w.grownBy ((w.drewN nq).setCell ⟨z, 1, none⟩ (.int .i64 ((p : Int) + 1))) (some z) := grown_trans (grown_drewN w nq _) (grown_set _ z 1 _)
      generalize (w.drewN nq).setCell ⟨z, 1, none⟩ (.int .i64 ((p : Int) + 1)) = w3 at hh2 hg ⊢
      have d0 := cells_at hh2 0
      have d1 := cells_at hh2 1
      simp at d0 d1
      have HH2 := hide hh2
      clear hh2 c0 c1 c2 f1 f2 HH
      go_quiet (fail)
      go_wp2
      go_ret
      rw [HV.out]
      exact ⟨⟨_, rfl, fun _ => ⟨c, hcb, rfl, rfl⟩⟩, HH2.out, grown_trans hg (grown_drewN _ _ _)⟩
    · have hv : oneR s p false = ⟨0, p, true⟩ := by unfold oneR; simp [hlt]
      rw [hv]
      have h1 : (s.size : Int) - (p : Int) < 1 := by omega
      have h3 : IntKind.i64.wrap ((s.size : Int) - (p : Int)) = (s.size : Int) - (p : Int) := wrap_fit _ (by omega) (by omega)
      clear hv
      go_enter Tryz.func36, Tryz.ntmps36
      go_wp2
      go_quiet (fail)
      go_wp2
      go_ret
      exact ⟨⟨_, rfl, fun h => by cases h⟩, heap_setCell_same (w.drewN nq) z 2 _ _ _ HH.out, grown_trans (grown_drewN w nq _) (grown_set _ z 2 _)⟩
  · have hv : oneR s p true = ⟨0, p, true⟩ := oneR_bad s p
    rw [hv]
    clear hv
    go_enter Tryz.func36, Tryz.ntmps36
    go_wp2
    go_quiet (fail)
    go_wp2
    go_ret
    exact ⟨⟨_, rfl, fun h => by cases h⟩, heap_setCell_same (w.drewN nq) z 2 _ _ _ HH.out, grown_trans (grown_drewN w nq _) (grown_set _ z 2 _)⟩

set_option maxRecDepth 100000 in
set_option maxHeartbeats 400000 in
theorem byteS_any (z p : Nat) (s : ByteArray) (b : Bool) (w : World) (hs : s.size ≤ 1048576) (hp : p ≤ s.size) (h : RdAt w z 62 s p b) :
    Calls Tryz.prog 33 #[.pointer (some ⟨z, 0, none⟩)] w fun e w' => e = .returned (.int .i64 (oneR s p b).v) ∧ RdAt w' z 62 s (oneR s p b).p (oneR s p b).b ∧ w.grownBy w' (some z) := by
  have H1 := hide (oneS_any z p s b w hs hp h)
  have hbad : (oneR s p b).b = true → (oneR s p b).v = 0 := by
    unfold oneR
    split
    · intro; rfl
    · split
      · intro h; cases h
      · intro; rfl
  clear h
  generalize oneR s p b = r at H1 hbad ⊢
  obtain ⟨v, p', b'⟩ := r
  simp only [] at H1 hbad ⊢
  go_enter Tryz.func33, Tryz.ntmps33
  go_wp2_with fail
  refine H1.out.mono ?_
  rintro e w1 ⟨⟨u, rfl, hu⟩, hh, hg⟩
  have d2 := cells_at hh 2
  simp at d2
  have HH := hide hh
  clear hh H1
  cases b'
  · obtain ⟨c, hcb, rfl, rfl⟩ := hu rfl
    have hix := idx_str Tryz.underlying9 (bs [UInt8.ofNat c]) 0 c (by rw [bs_size]; simp) (by
      show c = (UInt8.ofNat c).toNat
      simp; omega)
    clear hu hbad hix
    have hsz : 0 < (bs [UInt8.ofNat c]).size := by rw [bs_size]; simp
    have e0 : (bs [UInt8.ofNat c])[0]'(by rw [bs_size]; simp) = UInt8.ofNat c := rfl
    have e1 : (UInt8.ofNat c).toNat = c := by simp; omega
    have E0 := hide e0
    have E1 := hide e1
    clear e0 e1
    go_wp2
    go_ret
    exact ⟨ret_i (by rw [E0.out, E1.out]; simp [wrap64]; omega), HH.out, hg⟩
  · obtain rfl := hbad rfl
    clear hu hbad
    go_wp2
    go_ret
    exact ⟨rfl, HH.out, hg⟩

set_option maxRecDepth 100000 in
set_option maxHeartbeats 400000 in
theorem numS_any (z p : Nat) (s : ByteArray) (b : Bool) (w : World) (hs : s.size ≤ 1048576) (hp : p ≤ s.size) (h : RdAt w z 62 s p b) :
    Calls Tryz.prog 34 #[.pointer (some ⟨z, 0, none⟩)] w fun e w' => e = .returned (.int .i64 (varR s p b).v) ∧ RdAt w' z 62 s (varR s p b).p (varR s p b).b ∧ w.grownBy w' (some z) := by
  unfold RdAt at h
  have c0 := cells_at h 0
  have c1 := cells_at h 1
  simp at c0 c1
  have hz := lt_of_heap h
  have HH := hide h
  have HRV := hide (srv_any s (p : Int))
  obtain ⟨v1, v2, v3, hv⟩ := rdV_three s (p : Int)
  rw [hv] at HRV
  have HV := hide hv
  clear h hv
  go_enter Tryz.func34, Tryz.ntmps34
  go_wp2
  go_region_held3 (fun W => W.cell? ⟨z, 0, none⟩ = some (.string s) ∧ W.cell? ⟨z, 1, none⟩ = some (.int .i64 (p : Int))) (first | go_keep | (refine ⟨?_, ?_⟩ <;> (refine Eq.trans (Below.cell (B := w.heap.size) (w := w.drew) ?_ ?_) ?_ <;> first | assumption | (go_grown; done)))) (first | (go_at_call 68; refine (HRV.out _ hs).mono ?_; rintro e w1 ⟨rfl, b1⟩))
  have hh1 : w1.heap[z]? = _ := (b1.block _ hz).trans HH.out
  have hg1 : w.grownBy w1 (some z) := ⟨b1.os, b1.tape, b1.output, b1.size, fun k hk _ => b1.block k hk⟩
  have d2 := cells_at hh1 2
  have f1 := frozen_at hh1 1
  have f2 := frozen_at hh1 2
  have d1 := cells_at hh1 1
  simp at d1 d2
  have HH1 := hide hh1
  clear hh1 b1 c0 c1 HH HRV
  cases b
  · cases hr : rdO s p with
    | none =>
      have e := (rdV_none hp hr).symm.trans HV.out
      simp only [Value.tuple.injEq, Array.mk.injEq, List.cons.injEq, Value.int.injEq, Value.bool.injEq, true_and, and_true] at e
      obtain ⟨e1, e2, rfl⟩ := e
      have hvr : varR s p false = ⟨0, p, true⟩ := by unfold varR; rw [hr]; rfl
      have HVR := hide hvr
      clear hvr e1 e2 hr
      go_wp2
      go_ret
      rw [HVR.out]
      exact ⟨rfl, heap_setCell_same _ z 2 _ _ _ HH1.out, grown_trans hg1 (grown_set _ z 2 _)⟩
    | some x =>
      obtain ⟨v, k⟩ := x
      have e := (rdV_good hp hr).symm.trans HV.out
      simp only [Value.tuple.injEq, Array.mk.injEq, List.cons.injEq, Value.int.injEq, Value.bool.injEq, true_and, and_true] at e
      obtain ⟨rfl, rfl, rfl⟩ := e
      have hvr : varR s p false = ⟨(v : Int), p + k, false⟩ := by unfold varR; rw [hr]; rfl
      have HVR := hide hvr
      clear hvr hr
      go_wp2
      go_ret
      rw [HVR.out]
      exact ⟨rfl, heap_setCell_same _ z 1 _ _ _ HH1.out, grown_trans hg1 (grown_set _ z 1 _)⟩
  · go_wp2
    go_ret
    rw [varR_bad]
    exact ⟨rfl, heap_setCell_same _ z 2 _ _ _ HH1.out, grown_trans hg1 (grown_set _ z 2 _)⟩
end Go.Proofs.YtchmmekhfcojgaaGreatDoor
namespace Go.Proofs.YtchmmekhfcojgaaGreatDoor
open Go.RowKit

def takeO (s : ByteArray) (p : Nat) (b : Bool) (n : Nat) : Bool := b || decide (s.size < p + n)

/-- so many bytes, or nothing at all -/
def takeB (s : ByteArray) (p : Nat) (b : Bool) (n : Nat) : ByteArray := if takeO s p b n then bs [] else s.extract p (p + n)

def takeP (s : ByteArray) (p : Nat) (b : Bool) (n : Nat) : Nat := if takeO s p b n then p else p + n

set_option maxRecDepth 100000 in
set_option maxHeartbeats 1000000 in
theorem takeS_any (z p n : Nat) (s : ByteArray) (b : Bool) (w : World) (hs : s.size ≤ 1048576) (hp : p ≤ s.size) (hn : n ≤ 1000000000) (h : RdAt w z 62 s p b) :
    Calls Tryz.prog 36 #[.pointer (some ⟨z, 0, none⟩), .int .i64 (n : Int)] w fun e w' => e = .returned (.string (takeB s p b n)) ∧ RdAt w' z 62 s (takeP s p b n) (takeO s p b n) ∧ w.grownBy w' (some z) := by
  unfold RdAt at h
  have c0 := cells_at h 0
  have c1 := cells_at h 1
  have c2 := cells_at h 2
  have f1 := frozen_at h 1
  have f2 := frozen_at h 2
  simp at c0 c1 c2
  have HH := hide h
  clear h
  cases b
  · by_cases hlt : p + n ≤ s.size
    · have ho : takeO s p false n = false := by unfold takeO; simp; omega
      have hb : takeB s p false n = s.extract p (p + n) := by unfold takeB; rw [ho]; rfl
      have hq : takeP s p false n = p + n := by unfold takeP; rw [ho]; rfl
      rw [ho, hb, hq]
      obtain ⟨u, hu⟩ : ∃ u, u = s.extract p (p + n) := ⟨_, rfl⟩
      rw [← hu]
      have hsl := sl_str Tryz.underlying9 s u (p : Int) ((p : Int) + (n : Int)) (by omega) (by omega) (by omega) (by
        rw [hu]
        congr 1 <;> omega)
      have h1 : ¬ (s.size : Int) - (p : Int) < (n : Int) := by omega
      have h2 : IntKind.i64.wrap ((p : Int) + (n : Int)) = (p : Int) + (n : Int) := wrap_fit _ (by omega) (by omega)
      have h3 : IntKind.i64.wrap ((s.size : Int) - (p : Int)) = (s.size : Int) - (p : Int) := wrap_fit _ (by omega) (by omega)
      have h4 : (p : Int) + (n : Int) - (n : Int) = (p : Int) := by omega
      have h5 : IntKind.i64.wrap ((p : Int) + (n : Int) - (n : Int)) = (p : Int) := by rw [h4]; exact wrap_fit _ (by omega) (by omega)
      have hd : decide ((s.size : Int) - (p : Int) < (n : Int)) = false := decide_eq_false h1
      clear hu ho hb hq
      go_enter Tryz.func36, Tryz.ntmps36
      go_wp2
      go_quiet (fail)
      go_wp2
      have hh2 : ((w.drewN nq).setCell ⟨z, 1, none⟩ (.int .i64 ((p : Int) + (n : Int)))).heap[z]? = some (.cells #[.string s, .int .i64 (((p + n : Nat)) : Int), .bool false] 62 (0, 0)) := by
        rw [heap_setCell_same (w.drewN nq) z 1 _ _ _ HH.out]; simp
      have hg : w.grownBy ((w.drewN nq).setCell ⟨z, 1, none⟩ (.int .i64 ((p : Int) + (n : Int)))) (some z) := grown_trans (grown_drewN w nq _) (grown_set _ z 1 _)
      generalize (w.drewN nq).setCell ⟨z, 1, none⟩ (.int .i64 ((p : Int) + (n : Int))) = w3 at hh2 hg ⊢
      have d0 := cells_at hh2 0
      have d1 := cells_at hh2 1
      simp at d0 d1
      have HH2 := hide hh2
      clear hh2 c0 c1 c2 f1 f2 HH
      go_quiet (fail)
      go_wp2
      go_ret
      exact ⟨rfl, HH2.out, grown_trans hg (grown_drewN _ _ _)⟩
    · have ho : takeO s p false n = true := by unfold takeO; simp; omega
      have hb : takeB s p false n = bs [] := by unfold takeB; rw [ho]; rfl
      have hq : takeP s p false n = p := by unfold takeP; rw [ho]; rfl
      rw [ho, hb, hq]
      have h1 : (s.size : Int) - (p : Int) < (n : Int) := by omega
      have h3 : IntKind.i64.wrap ((s.size : Int) - (p : Int)) = (s.size : Int) - (p : Int) := wrap_fit _ (by omega) (by omega)
      have hd : decide ((s.size : Int) - (p : Int) < (n : Int)) = true := decide_eq_true h1
      clear ho hb hq
      go_enter Tryz.func36, Tryz.ntmps36
      go_wp2
      go_quiet (fail)
      go_wp2
      go_ret
      exact ⟨rfl, heap_setCell_same (w.drewN nq) z 2 _ _ _ HH.out, grown_trans (grown_drewN w nq _) (grown_set _ z 2 _)⟩
  · have ho : takeO s p true n = true := rfl
    have hb : takeB s p true n = bs [] := by unfold takeB; rw [ho]; rfl
    have hq : takeP s p true n = p := by unfold takeP; rw [ho]; rfl
    rw [ho, hb, hq]
    clear ho hb hq
    go_enter Tryz.func36, Tryz.ntmps36
    go_wp2
    go_quiet (fail)
    go_wp2
    go_ret
    exact ⟨rfl, heap_setCell_same (w.drewN nq) z 2 _ _ _ HH.out, grown_trans (grown_drewN w nq _) (grown_set _ z 2 _)⟩

theorem takeP_le {s : ByteArray} {p n : Nat} {b : Bool} (hp : p ≤ s.size) : takeP s p b n ≤ s.size := by
  unfold takeP
  cases h : takeO s p b n with
  | true => simpa using hp
  | false =>
    unfold takeO at h
    simp at h
    simp
    omega
end Go.Proofs.YtchmmekhfcojgaaGreatDoor
