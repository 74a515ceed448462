/-
  impl.ReadDecimal: its contract.
-/
import Derived.Test.YteagdicpefchaaaDoorBase
import Derived.Test.YteagdicpefchaaaDoorDecMath
import Derived.WalkMore
namespace Go.Proofs.YteagdicpefchaaaDoor
open Go.RowKit

theorem retD_no {s : ByteArray} (h : ¬ (canon s.data.toList = true ∧ valD s.data.toList ≤ 1000000000)) : Ending.returned (.tuple #[.int .i64 0, .bool false]) = .returned (rdDV s) := by rw [rdDV_no h]

theorem retD_yes {s : ByteArray} {a : Int} (h : canon s.data.toList = true) (h2 : valD s.data.toList ≤ 1000000000) (ha : a = (valD s.data.toList : Int)) : Ending.returned (.tuple #[.int .i64 a, .bool true]) = .returned (rdDV s) := by rw [rdDV_yes h h2, ha]

theorem canon_pos {c : UInt8} {t : List UInt8} (h : canon (c :: t) = true) (h48 : c.toNat ≠ 48) : 0 < valD (c :: t) := by
  have hd := canon_allD h
  have hc : 48 ≤ c.toNat ∧ c.toNat ≤ 57 := by simp [allD, isD] at hd; exact hd.1
  have ht : allD t = true := by simp [allD] at hd ⊢; exact hd.2
  have := dec_val c (by omega) hc.2 t.reverse (by simpa using ht)
  rw [List.reverse_reverse] at this
  exact this.1

theorem canon_snoc {l : List UInt8} {c : UInt8} (h : canon l = true) (hv : 0 < valD l) (hc : isD c = true) : canon (l ++ [c]) = true := by
  cases l with
  | nil => simp [canon] at h
  | cons b t =>
    have hd := canon_allD h
    have hb : b.toNat ≠ 48 := by
      intro e
      simp only [canon, Bool.and_eq_true, Bool.or_eq_true] at h
      rcases h.2 with h2 | h2
      · have : t = [] := List.isEmpty_iff.1 h2
        subst this
        simp [valD, val10] at hv
        omega
      · simp [e] at h2
    have hd2 : allD (b :: t ++ [c]) = true := by rw [allD_snoc, hd, hc]; rfl
    show (allD (b :: (t ++ [c])) && _) = true
    rw [List.cons_append] at hd2
    rw [hd2]
    simp [hb]

theorem canon_stop {l r : List UInt8} (h : canon l = true) (hv : valD l = 0) (hr : r ≠ []) : canon (l ++ r) = false := by
  cases l with
  | nil => simp [canon] at h
  | cons b t =>
    have hb : b.toNat = 48 := Classical.byContradiction fun e => by have := canon_pos h e; omega
    have ht : t ++ r ≠ [] := by simp [hr]
    show (_ && ((t ++ r).isEmpty || decide (b.toNat ≠ 48))) = false
    cases hh : t ++ r with
    | nil => exact absurd hh ht
    | cons x y => simp [hb]

theorem split_at (s : ByteArray) (k : Nat) (h : k < s.size) : s.data.toList = s.data.toList.take k ++ (s[k] :: s.data.toList.drop (k + 1)) := by
  have : s.data.toList.drop k = s[k] :: s.data.toList.drop (k + 1) := by
    rw [List.drop_eq_getElem_cons (by simpa using h)]; rfl
  rw [← this, List.take_append_drop]

set_option maxRecDepth 100000 in
set_option maxHeartbeats 1000000 in
theorem ird_any (s : ByteArray) (w : World) (hs : s.size ≤ 1048576) : Calls Tryd.prog 10 #[.string s] w fun e w' => e = .returned (rdDV s) ∧ Below w.heap.size w w' := by
  go_enter Tryd.func10, Tryd.ntmps10
  go_wp2
  go_step3
  go_wp2
  go_step3
  go_wp2
  go_loop [4, 5, 10] (fun n r i => ∃ (k m : Nat), k ≤ s.size ∧ m ≤ 1000000000 ∧ i = .int .i64 k ∧ r = .int .i64 k ∧ n = .int .i64 m ∧ Hid (m = valD (s.data.toList.take k) ∧ (0 < k → canon (s.data.toList.take k) = true))) (fun _ _ i => s.size - (intOf i).toNat)
  case atStart => exact ⟨0, 0, by omega, by omega, rfl, rfl, rfl, ⟨rfl, fun h => absurd h (by omega)⟩⟩
  case round =>
    obtain ⟨k, m, hk, hm, rfl, rfl, rfl, hl⟩ := hrel
    by_cases hlt : k < s.size
    · obtain ⟨c, hc⟩ : ∃ c : Nat, c = s[k].toNat := ⟨_, rfl⟩
      have hcb : c < 256 := by have := s[k].toNat_lt; omega
      have hix := idx_str Tryd.underlying9 s k c hlt hc
      have C : Hid (c = s[k].toNat) := hc
      clear hc
      have h3 : (48 ≤ c ∧ c ≤ 57) ∨ c < 48 ∨ 57 < c := by omega
      rcases h3 with ⟨ha, hb⟩ | h | h
      · have hdig : isD s[k] = true := by have := C.out; simp [isD]; omega
        by_cases hk0 : 0 < k
        · by_cases hm0 : 0 < m
          · have hme : ((m : Int) == 0) = false := by simp; omega
            by_cases hbig : (1000000000 : Int) < 10 * (m : Int) + ((c : Int) - 48)
            · have hno : ¬ (canon s.data.toList = true ∧ valD s.data.toList ≤ 1000000000) := by
                rintro ⟨h1, h2⟩
                have e5 : valD (s.data.toList.take (k + 1)) = 10 * m + (c - 48) := by rw [takeD_one s k hlt, valD_snoc, ← hl.out.1, ← C.out]
                have e6 := valD_ge (s.data.toList.take (k + 1)) (s.data.toList.drop (k + 1))
                rw [List.take_append_drop] at e6
                omega
              have NO := hide hno
              clear hno
              go_wp2
              all_goals first | go_ret2 | (rw [Exit.noGoto_ret]; go_ret2)
              all_goals exact ⟨retD_no NO.out, Below.refl _ _⟩
            · go_wp2
              go_round
              case rel =>
                obtain ⟨e1, e2⟩ := hl.out
                have e3 := C.out
                have e5 : valD (s.data.toList.take (k + 1)) = 10 * m + (c - 48) := by rw [takeD_one s k hlt, valD_snoc, ← e1, ← e3]
                exact ⟨k + 1, 10 * m + (c - 48), by omega, by omega, by go_num, by go_num, by go_num, ⟨e5.symm, fun _ => by rw [takeD_one s k hlt]; exact canon_snoc (e2 hk0) (by omega) hdig⟩⟩
              case measure => simp [intOf]; omega
          · have hme : ((m : Int) == 0) = true := by simp; omega
            have hno : ¬ (canon s.data.toList = true ∧ valD s.data.toList ≤ 1000000000) := by
              rintro ⟨h1, h2⟩
              rw [split_at s k hlt, canon_stop (hl.out.2 hk0) (by have := hl.out.1; omega) (by simp)] at h1
              cases h1
            have NO := hide hno
            clear hno
            go_wp2
            all_goals first | go_ret2 | (rw [Exit.noGoto_ret]; go_ret2)
            all_goals exact ⟨retD_no NO.out, Below.refl _ _⟩
        · have hm0 : m = 0 := by
            have := hl.out.1
            rw [show k = 0 by omega] at this
            simpa [valD, val10] using this
          have hm1 : m ≤ 0 := by omega
          have MZ := hide hm0
          clear hm0
          go_wp2
          go_round
          case rel =>
            have e3 := C.out
            have e5 : valD (s.data.toList.take (k + 1)) = 10 * m + (c - 48) := by rw [takeD_one s k hlt, valD_snoc, ← hl.out.1, ← e3]
            refine ⟨k + 1, 10 * m + (c - 48), by omega, by omega, by go_num, by go_num, by go_num, ⟨e5.symm, fun _ => ?_⟩⟩
            rw [takeD_one s k hlt, show s.data.toList.take k = [] from by rw [show k = 0 by omega]; rfl]
            simp [canon, allD, hdig]
          case measure => simp [intOf]; omega
      all_goals
        have hno : ¬ (canon s.data.toList = true ∧ valD s.data.toList ≤ 1000000000) := by
          rintro ⟨h1, h2⟩
          have h5 := canon_allD h1
          have h6 := allD_bad s k hlt (by have := C.out; omega)
          rw [h6] at h5
          cases h5
        have NO := hide hno
        clear hno
        go_wp2
        all_goals first | go_ret2 | (rw [Exit.noGoto_ret]; go_ret2)
        all_goals exact ⟨retD_no NO.out, Below.refl _ _⟩
    · have hall : s.data.toList.take k = s.data.toList := List.take_of_length_le (by simp; omega)
      have hl2 := hl.out
      rw [hall] at hl2
      have L := hide hl2
      clear hall hl hl2
      by_cases hk0 : 0 < k
      · have hke : ((k : Int) == 0) = false := by simp; omega
        go_wp2
        first | go_ret2 | (rw [Exit.noGoto_ret]; go_ret2)
        have e1 := L.out.1
        exact ⟨retD_yes (L.out.2 hk0) (by rw [← e1]; exact hm) (by rw [← e1]), Below.refl _ _⟩
      · have hke : ((k : Int) == 0) = true := by simp; omega
        have hno : ¬ (canon s.data.toList = true ∧ valD s.data.toList ≤ 1000000000) := by
          rintro ⟨h1, _⟩
          have e0 : s.data.toList.length = s.size := by simp
          have : s.data.toList = [] := List.length_eq_zero_iff.1 (by omega)
          rw [this] at h1
          simp [canon] at h1
        have NO := hide hno
        clear hno
        go_wp2
        first | go_ret2 | (rw [Exit.noGoto_ret]; go_ret2)
        exact ⟨retD_no NO.out, Below.refl _ _⟩
end Go.Proofs.YteagdicpefchaaaDoor
