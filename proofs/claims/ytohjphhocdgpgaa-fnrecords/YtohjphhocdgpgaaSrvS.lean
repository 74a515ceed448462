/-
  spec.ReadVar: its contract.
-/
import Derived.Test.YtohjphhocdgpgaaVar
import Derived.Test.YtohjphhocdgpgaaInB
import Derived.Test.YtohjphhocdgpgaaReadMath
import Derived.Deep.RegionHeld3
import Derived.Deep.QuietTactic
import Derived.BigQuiet
namespace Go.Proofs.Ytohjphhocdgpgaa
open Go.RowKit

set_option maxRecDepth 100000 in
set_option maxHeartbeats 1000000 in
theorem srv_in (s : ByteArray) (p : Nat) (w : World) (hs : s.size ≤ 1048576) (hp : p ≤ s.size) :
    Calls Try.prog 102 #[.string s, .int .i64 (p : Int)] w fun e w' => e = .returned (rdT p (rdO s p)) ∧ Below w.heap.size w w' := by
  have hin : inB (p : Int) 0 (s.size : Int) = true := by simp [inB]; omega
  go_enter Try.func102, Try.ntmps102
  go_wp2_with (first | (go_at_call 64; refine (in_any _ _ _ _).mono ?_; rintro e w' ⟨rfl, rfl⟩))
  go_loopw [7, 8, 9] (fun n sc i wr => (∃ (q m z : Nat) (pre : List UInt8), i = .int .i64 q ∧ n = .int .i64 m ∧ sc = .int .i64 z ∧ Rd s p q pre m z) ∧ Below w.heap.size w wr) (fun _ _ i _ => p + 5 - (intOf i).toNat)
  case atStart => exact ⟨⟨p, 0, 1, [], rfl, rfl, rfl, Rd.first s p hp⟩, Below.refl _ _⟩
  case round =>
    obtain ⟨⟨q, m, z, pre, rfl, rfl, rfl, R⟩, hnx⟩ := hrel
    have h1 := R.le
    have h2 := R.five
    have h3 := R.size
    have h4 := R.lt
    have hcs := R.cases
    by_cases hq : q < s.size
    · obtain ⟨c, hc⟩ : ∃ c : Nat, c = s[q].toNat := ⟨_, rfl⟩
      have hcb : c < 256 := by have := s[q].toNat_lt; omega
      have hix := idx_str Try.underlying9 s q c hq hc
      obtain ⟨t, ht⟩ : ∃ t : ByteArray, t = s.extract p (q + 1) := ⟨_, rfl⟩
      have hsl := sl_str Try.underlying9 s t (p : Int) ((q : Int) + 1) (by omega) (by omega) (by omega) (by rw [ht]; rfl)
      have TT : Hid (t = s.extract p (q + 1)) := ht
      clear ht
      have C : Hid (c = s[q].toNat) := hc
      clear hc
      rcases hcs with ⟨e, rfl⟩ | ⟨e, rfl⟩ | ⟨e, rfl⟩ | ⟨e, rfl⟩ | ⟨e, rfl⟩ | ⟨e, rfl⟩
      · have h5 : q < p + 5 := by omega
        by_cases hlo : c < 128
        · by_cases hbig : (1000000000 : Int) < (m : Int) + (c : Int) % 128
          · exact absurd hbig (by omega)
          · have E := hide e
            clear e
            have hd : decide ((1000000000 : Int) < (m : Int) + (c : Int) % 128) = false := by simpa using hbig
            go_wp2
            have hI0 : (0 : Int) ≤ (p : Int) := by omega
            have hI1 : (p : Int) ≤ (q : Int) + 1 := by omega
            have hI2 : (q : Int) + 1 ≤ (s.size : Int) := by omega
            have hI3 : (0 : Int) ≤ (q : Int) + 1 := by omega
            have hI4 : IntKind.i64.wrap ((q : Int) + 1) = (q : Int) + 1 := wrap_fit _ (by omega) (by omega)
            go_region_held3 (fun _ => True) (trivial) (first | (go_at_call 99; refine (var_any _ _ (by omega) (by omega)).mono ?_; rintro e w' ⟨rfl, hb⟩))
            go_wp2
            · go_ret3
              refine ⟨ret_no (R.cmp_no hq C.out h5 (by omega) TT.out ?_ ‹_›), ?_⟩
              · omega
              · exact hnx.drew.trans (hb.mono hnx.size)
            · go_ret3
              refine ⟨ret_yes (R.cmp_yes hq C.out h5 (by omega) TT.out ?_ (by omega) ‹_›) (by omega) (by omega), ?_⟩
              · omega
              · exact hnx.drew.trans (hb.mono hnx.size)
        · have E := hide e
          clear e
          go_wp2
          go_roundw
          case rel => exact ⟨⟨q + 1, _, _, _, by go_num, by go_num, by go_num, R.next' hq C.out h5 (by omega)⟩, hnx⟩
          case measure => simp [intOf]; omega
      · have h5 : q < p + 5 := by omega
        by_cases hlo : c < 128
        · by_cases hbig : (1000000000 : Int) < (m : Int) + (c : Int) % 128 * 128
          · exact absurd hbig (by omega)
          · have E := hide e
            clear e
            have hd : decide ((1000000000 : Int) < (m : Int) + (c : Int) % 128 * 128) = false := by simpa using hbig
            go_wp2
            have hI0 : (0 : Int) ≤ (p : Int) := by omega
            have hI1 : (p : Int) ≤ (q : Int) + 1 := by omega
            have hI2 : (q : Int) + 1 ≤ (s.size : Int) := by omega
            have hI3 : (0 : Int) ≤ (q : Int) + 1 := by omega
            have hI4 : IntKind.i64.wrap ((q : Int) + 1) = (q : Int) + 1 := wrap_fit _ (by omega) (by omega)
            go_region_held3 (fun _ => True) (trivial) (first | (go_at_call 99; refine (var_any _ _ (by omega) (by omega)).mono ?_; rintro e w' ⟨rfl, hb⟩))
            go_wp2
            · go_ret3
              refine ⟨ret_no (R.cmp_no hq C.out h5 (by omega) TT.out ?_ ‹_›), ?_⟩
              · omega
              · exact hnx.drew.trans (hb.mono hnx.size)
            · go_ret3
              refine ⟨ret_yes (R.cmp_yes hq C.out h5 (by omega) TT.out ?_ (by omega) ‹_›) (by omega) (by omega), ?_⟩
              · omega
              · exact hnx.drew.trans (hb.mono hnx.size)
        · have E := hide e
          clear e
          go_wp2
          go_roundw
          case rel => exact ⟨⟨q + 1, _, _, _, by go_num, by go_num, by go_num, R.next' hq C.out h5 (by omega)⟩, hnx⟩
          case measure => simp [intOf]; omega
      · have h5 : q < p + 5 := by omega
        by_cases hlo : c < 128
        · by_cases hbig : (1000000000 : Int) < (m : Int) + (c : Int) % 128 * 16384
          · exact absurd hbig (by omega)
          · have E := hide e
            clear e
            have hd : decide ((1000000000 : Int) < (m : Int) + (c : Int) % 128 * 16384) = false := by simpa using hbig
            go_wp2
            have hI0 : (0 : Int) ≤ (p : Int) := by omega
            have hI1 : (p : Int) ≤ (q : Int) + 1 := by omega
            have hI2 : (q : Int) + 1 ≤ (s.size : Int) := by omega
            have hI3 : (0 : Int) ≤ (q : Int) + 1 := by omega
            have hI4 : IntKind.i64.wrap ((q : Int) + 1) = (q : Int) + 1 := wrap_fit _ (by omega) (by omega)
            go_region_held3 (fun _ => True) (trivial) (first | (go_at_call 99; refine (var_any _ _ (by omega) (by omega)).mono ?_; rintro e w' ⟨rfl, hb⟩))
            go_wp2
            · go_ret3
              refine ⟨ret_no (R.cmp_no hq C.out h5 (by omega) TT.out ?_ ‹_›), ?_⟩
              · omega
              · exact hnx.drew.trans (hb.mono hnx.size)
            · go_ret3
              refine ⟨ret_yes (R.cmp_yes hq C.out h5 (by omega) TT.out ?_ (by omega) ‹_›) (by omega) (by omega), ?_⟩
              · omega
              · exact hnx.drew.trans (hb.mono hnx.size)
        · have E := hide e
          clear e
          go_wp2
          go_roundw
          case rel => exact ⟨⟨q + 1, _, _, _, by go_num, by go_num, by go_num, R.next' hq C.out h5 (by omega)⟩, hnx⟩
          case measure => simp [intOf]; omega
      · have h5 : q < p + 5 := by omega
        by_cases hlo : c < 128
        · by_cases hbig : (1000000000 : Int) < (m : Int) + (c : Int) % 128 * 2097152
          · exact absurd hbig (by omega)
          · have E := hide e
            clear e
            have hd : decide ((1000000000 : Int) < (m : Int) + (c : Int) % 128 * 2097152) = false := by simpa using hbig
            go_wp2
            have hI0 : (0 : Int) ≤ (p : Int) := by omega
            have hI1 : (p : Int) ≤ (q : Int) + 1 := by omega
            have hI2 : (q : Int) + 1 ≤ (s.size : Int) := by omega
            have hI3 : (0 : Int) ≤ (q : Int) + 1 := by omega
            have hI4 : IntKind.i64.wrap ((q : Int) + 1) = (q : Int) + 1 := wrap_fit _ (by omega) (by omega)
            go_region_held3 (fun _ => True) (trivial) (first | (go_at_call 99; refine (var_any _ _ (by omega) (by omega)).mono ?_; rintro e w' ⟨rfl, hb⟩))
            go_wp2
            · go_ret3
              refine ⟨ret_no (R.cmp_no hq C.out h5 (by omega) TT.out ?_ ‹_›), ?_⟩
              · omega
              · exact hnx.drew.trans (hb.mono hnx.size)
            · go_ret3
              refine ⟨ret_yes (R.cmp_yes hq C.out h5 (by omega) TT.out ?_ (by omega) ‹_›) (by omega) (by omega), ?_⟩
              · omega
              · exact hnx.drew.trans (hb.mono hnx.size)
        · have E := hide e
          clear e
          go_wp2
          go_roundw
          case rel => exact ⟨⟨q + 1, _, _, _, by go_num, by go_num, by go_num, R.next' hq C.out h5 (by omega)⟩, hnx⟩
          case measure => simp [intOf]; omega
      · have h5 : q < p + 5 := by omega
        by_cases hlo : c < 128
        · by_cases hbig : (1000000000 : Int) < (m : Int) + (c : Int) % 128 * 268435456
          · have hno : rdO s p = none := R.no' hq C.out h5 (by omega) (by omega)
            have HN := hide hno
            clear hno
            have E := hide e
            clear e
            have hd : decide ((1000000000 : Int) < (m : Int) + (c : Int) % 128 * 268435456) = true := by simpa using hbig
            go_wp2
            go_quiet (fail)
            go_wp2
            go_ret3
            exact ⟨ret_no HN.out, below_drewN hnx _⟩
          · have E := hide e
            clear e
            have hd : decide ((1000000000 : Int) < (m : Int) + (c : Int) % 128 * 268435456) = false := by simpa using hbig
            go_wp2
            have hI0 : (0 : Int) ≤ (p : Int) := by omega
            have hI1 : (p : Int) ≤ (q : Int) + 1 := by omega
            have hI2 : (q : Int) + 1 ≤ (s.size : Int) := by omega
            have hI3 : (0 : Int) ≤ (q : Int) + 1 := by omega
            have hI4 : IntKind.i64.wrap ((q : Int) + 1) = (q : Int) + 1 := wrap_fit _ (by omega) (by omega)
            go_region_held3 (fun _ => True) (trivial) (first | (go_at_call 99; refine (var_any _ _ (by omega) (by omega)).mono ?_; rintro e w' ⟨rfl, hb⟩))
            go_wp2
            · go_ret3
              refine ⟨ret_no (R.cmp_no hq C.out h5 (by omega) TT.out ?_ ‹_›), ?_⟩
              · omega
              · exact hnx.drew.trans (hb.mono hnx.size)
            · go_ret3
              refine ⟨ret_yes (R.cmp_yes hq C.out h5 (by omega) TT.out ?_ (by omega) ‹_›) (by omega) (by omega), ?_⟩
              · omega
              · exact hnx.drew.trans (hb.mono hnx.size)
        · have E := hide e
          clear e
          go_wp2
          go_roundw
          case rel => exact ⟨⟨q + 1, _, _, _, by go_num, by go_num, by go_num, R.next' hq C.out h5 (by omega)⟩, hnx⟩
          case measure => simp [intOf]; omega
      · have h5 : p + 5 ≤ q := by omega
        have E := hide e
        clear e
        go_wp2
        go_ret3
        exact ⟨ret_no (R.no_byte (by omega)), hnx⟩
    · clear hcs
      go_wp2
      go_ret3
      exact ⟨ret_no (R.no_byte (by omega)), hnx⟩
end Go.Proofs.Ytohjphhocdgpgaa
