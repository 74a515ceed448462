/-
  impl.ReadVar: its contract.
-/
import Derived.Test.YtohjphhocdgpgaaBase
import Derived.Test.YtohjphhocdgpgaaReadMath
namespace Go.Proofs.Ytohjphhocdgpgaa
open Go.RowKit

set_option maxHeartbeats 1000000 in
theorem irv_in (s : ByteArray) (p : Nat) (w : World) (hs : s.size ≤ 1048576) (hp : p ≤ s.size) :
    Calls Try.prog 96 #[.string s, .int .i64 (p : Int)] w fun e w' => e = .returned (rdT p (rdO s p)) ∧ w' = w := by
  go_enter Try.func96, Try.ntmps96
  go_wp2
  go_loop [7, 8, 9] (fun n i sc => ∃ (q m z : Nat) (pre : List UInt8), i = .int .i64 q ∧ n = .int .i64 m ∧ sc = .int .i64 z ∧ Rd s p q pre m z) (fun _ i _ => p + 5 - (intOf i).toNat)
  case atStart => exact ⟨p, 0, 1, [], rfl, rfl, rfl, Rd.first s p hp⟩
  case round =>
    obtain ⟨q, m, z, pre, rfl, rfl, rfl, R⟩ := hrel
    have h1 := R.le
    have h2 := R.five
    have h3 := R.size
    have h4 := R.lt
    have hcs := R.cases
    by_cases hq : q < s.size
    · obtain ⟨c, hc⟩ : ∃ c : Nat, c = s[q].toNat := ⟨_, rfl⟩
      have hcb : c < 256 := by have := s[q].toNat_lt; omega
      have hix : ∀ w, (Instr.index 9 (.string s) (.int .i64 (q : Int))).run Try.prog w = .ok (.int .u8 (c : Int)) w := fun w => by
        rw [hc]; simp [go_sem, hq]
      have C : Hid (c = s[q].toNat) := hc
      clear hc
      rcases hcs with ⟨e, rfl⟩ | ⟨e, rfl⟩ | ⟨e, rfl⟩ | ⟨e, rfl⟩ | ⟨e, rfl⟩ | ⟨e, rfl⟩
      iterate 5
        · have h5 : q < p + 5 := by omega
          have E := hide e
          clear e
          go_wp2
          all_goals first
            | (go_ret3; have e := unhide E; first | exact ⟨ret_no (R.no' hq C.out h5 (by omega) (by omega)), rfl⟩ | exact ⟨ret_yes (R.yes' hq C.out h5 (by omega) (by omega) (by omega)) (by omega) (by omega), rfl⟩)
            | (go_round; (case rel => exact ⟨q + 1, _, _, _, by go_num, by go_num, by go_num, R.next' hq C.out h5 (by omega)⟩); (case measure => simp [intOf]; omega))
      · have E := hide e
        clear e
        go_wp2
        go_ret3
        exact ⟨ret_no (R.no_byte (by have e := unhide E; omega)), rfl⟩
    · clear hcs
      go_wp2
      go_ret3
      exact ⟨ret_no (R.no_byte (by omega)), rfl⟩
end Go.Proofs.Ytohjphhocdgpgaa
