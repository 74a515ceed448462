/-
  spec.l01Value, spec.Unhex, impl.Unhex: their contracts; the law's walk.
-/
import Derived.Test.YtkpedpaffjoifaaVarText
import Derived.Test.YtkpedpaffjoifaaUnMath
import Derived.Deep.RegionHeld3
import Derived.WalkMore
namespace Go.Proofs.Ytkpedpaffjoifaa
open Go.RowKit

theorem retI {k : IntKind} {a b : Int} (h : a = b) : Ending.returned (.int k a) = .returned (.int k b) := by rw [h]

set_option maxHeartbeats 400000 in
theorem val_any (c : Nat) (w : World) (hc : c < 256) : Calls Try.prog 28 #[.int .u8 (c : Int)] w fun e w' => e = .returned (.int .i64 (fv c)) ∧ w = w' := by
  by_cases h1 : 48 ≤ c ∧ c ≤ 57
  · rw [fv_dig h1]
    obtain ⟨h1, h2⟩ := h1
    go_enter Try.func28, Try.ntmps28
    go_wp2
    go_ret
    exact ⟨retI (by omega), rfl⟩
  by_cases h2 : 97 ≤ c ∧ c ≤ 102
  · rw [fv_let h2]
    obtain ⟨h2, h3⟩ := h2
    have h4 : 57 < c := by omega
    go_enter Try.func28, Try.ntmps28
    go_wp2
    go_ret
    exact ⟨retI (by omega), rfl⟩
  rw [fv_no h1 h2]
  have h3 : c < 48 ∨ (57 < c ∧ c < 97) ∨ 102 < c := by omega
  clear h1 h2
  rcases h3 with h | ⟨h, h'⟩ | h
  all_goals
    go_enter Try.func28, Try.ntmps28
    go_wp2
    go_ret
    exact ⟨rfl, rfl⟩

set_option maxRecDepth 100000 in
set_option maxHeartbeats 1000000 in
theorem iuh_in (s : ByteArray) (w : World) (hs : s.size ≤ 40000) (he : (s.size : Int) % 2 = 0) :
    Calls Try.prog 21 #[.string s] w fun e w' => e = .returned (unV s) ∧ Below w.heap.size w w' := by
  obtain ⟨m, hm⟩ : ∃ m : Nat, m = s.size / 2 := ⟨_, rfl⟩
  obtain ⟨i0, hi, hz0, hz1, hz2⟩ := info_parts Try.info5
  have hmI : (s.size : Int) / 2 = (m : Int) := by omega
  have hm2 : m ≤ 20000 := by omega
  have hm3 : s.size = 2 * m := by omega
  have M := hide hm
  have M3 := hide hm3
  clear hm hm3
  go_enter Try.func21, Try.ntmps21
  go_wp2
  go_step3
  go_wp2_with (first | (at_make; refine wpList_make_full _ rfl _ _ 36 rfl w.heap.size 5 i0 (.int .u8 0) 1 Try.underlying36 hi hz0 hz1 .i64 .i64 _ _ m rfl rfl ?_ ?_ ?_ ?_ ?_ ?_; omega; omega; (rw [hz2]; omega); (unfold maxLen; omega); exact Nat.le_refl _; intro w1 hown hgrow))
  go_step3
  go_wp2
  rw [cells_rep] at hown
  have hb1 : Below w.heap.size w w1 := (Below.refl _ _).grown hgrow (Nat.le_refl _) (fun k hk => by cases hk)
  clear hgrow
  go_loopw [5, 23] (fun n i wr => ∃ (k : Nat) (l : List UInt8), k ≤ s.size ∧ i = .int .i64 k ∧ n = .int .i64 k ∧ Hid (l = s.data.toList.take k ∧ l.length = k ∧ okF l = true) ∧ wr.ownsRow w.heap.size 5 1 (.slice (some ⟨w.heap.size, 0, none⟩) m m) m (cellsOf (rowU m l)) ∧ Below w.heap.size w wr)
    (fun _ i _ => s.size - (intOf i).toNat)
  case atStart => exact ⟨0, [], by omega, rfl, rfl, ⟨rfl, rfl, rfl⟩, hown, hb1⟩
  case round =>
    clear hown hb1
    obtain ⟨k, l, hk, rfl, rfl, hl, hown, hnx⟩ := hrel
    have hsz := hnx.size
    by_cases hlt : k < s.size
    · obtain ⟨c, hc⟩ : ∃ c : Nat, c = s[k].toNat := ⟨_, rfl⟩
      have hcb : c < 256 := by have := s[k].toNat_lt; omega
      have hix := idx_str Try.underlying9 s k c hlt hc
      obtain ⟨x, hx, hx15, hst⟩ := rowU_step m l s[k] (by have := M3.out; have := hl.out.2.1; omega) hl.out.2.2
      have hlen := hl.out.2.1
      rw [hlen] at hx hst
      have hcell : wr.cell? ⟨w.heap.size, k / 2, none⟩ = some (.int .u8 (x.toNat : Int)) := by
        rw [hown.cellAt (k / 2) (by have := M3.out; omega)]; exact cellsOf_get _ _ _ hx
      have hfr := hown.frozenAt (k / 2)
      obtain ⟨y, hy⟩ : ∃ y : Nat, y = x.toNat := ⟨_, rfl⟩
      rw [← hy] at hcell hst hx15
      have hk2 : (k : Int) / 2 < (m : Int) := by have := M3.out; omega
      have C : Hid (c = s[k].toNat ∧ rowU m (l ++ [s[k]]) = (rowU m l).set (k / 2) (UInt8.ofNat (y * 16 + (fv s[k].toNat).toNat))) := ⟨hc, hst⟩
      clear hc hst hx hy hlen
      have h3 : (48 ≤ c ∧ c ≤ 57) ∨ (97 ≤ c ∧ c ≤ 102) ∨ c < 48 ∨ (57 < c ∧ c < 97) ∨ 102 < c := by omega
      rcases h3 with ⟨ha, hb⟩ | ⟨ha, hb⟩ | h | ⟨h, h'⟩ | h
      · have hf := fv_dig ⟨ha, hb⟩
        have F := hide hf
        clear hf
        go_wp2
        go_roundw
        case rel =>
          obtain ⟨e1, e2, e3⟩ := hl.out
          obtain ⟨e4, e5⟩ := C.out
          have e6 := F.out
          rw [← e4] at e5
          exact ⟨k + 1, l ++ [s[k]], by omega, by go_num, by go_num, ⟨by rw [take_one s k hlt, ← e1], by simp [e2], by rw [okF_snoc, e3, ← e4, e6]; simp; omega⟩, un_stored hown e5 (by omega) (by omega), hnx.setCell (Nat.le_refl _) _⟩
        case measure => simp [intOf]; omega
      · have hf := fv_let ⟨ha, hb⟩
        have F := hide hf
        have h57 : 57 < c := by omega
        clear hf
        go_wp2
        go_roundw
        case rel =>
          obtain ⟨e1, e2, e3⟩ := hl.out
          obtain ⟨e4, e5⟩ := C.out
          have e6 := F.out
          rw [← e4] at e5
          exact ⟨k + 1, l ++ [s[k]], by omega, by go_num, by go_num, ⟨by rw [take_one s k hlt, ← e1], by simp [e2], by rw [okF_snoc, e3, ← e4, e6]; simp; omega⟩, un_stored hown e5 (by omega) (by omega), hnx.setCell (Nat.le_refl _) _⟩
        case measure => simp [intOf]; omega
      all_goals
        have hf : okF s.data.toList = false := okF_bad s k hlt (by rw [← C.out.1, fv_no (by omega) (by omega)]; omega)
        have F := hide hf
        clear hf
        go_wp2
        first | go_ret2 | (rw [Exit.noGoto_ret]; go_ret2)
        exact ⟨by rw [unV_no F.out]; rfl, hnx⟩
    · have hstr := run_str_own (P := Try.prog) 36 9 5 Try.underlying36 Try.underlying5 Try.underlying9 hown
      have hkk : k = s.size := by omega
      have K := hide hkk
      clear hkk
      go_wp2
      first | go_ret2 | (rw [Exit.noGoto_ret]; go_ret2)
      refine ⟨?_, hnx⟩
      obtain ⟨e1, e2, e3⟩ := hl.out
      have e4 : l = s.data.toList := by rw [e1, List.take_of_length_le (by have := K.out; simp; omega)]
      have e5 := rowU_full m l (by have := M3.out; have := K.out; omega)
      rw [e4] at e3 e5
      rw [unV_yes e3, ← e5, e4]
      rfl

theorem pair_int (a b : UInt8) (x y : Int) (hx : x = fv a.toNat) (hy : y = fv b.toNat) (h0 : 0 ≤ x) (h1 : 0 ≤ y) : 16 * x + y = ((pairB a b).toNat : Int) := by
  have h2 := fv_le a.toNat
  have h3 := fv_le b.toNat
  subst hx hy
  simp [pairB]
  omega

set_option maxRecDepth 100000 in
set_option maxHeartbeats 1000000 in
theorem suh_in (s : ByteArray) (w : World) (hs : s.size ≤ 40000) (he : (s.size : Int) % 2 = 0) :
    Calls Try.prog 20 #[.string s] w fun e w' => e = .returned (unV s) ∧ Below w.heap.size w w' := by
  go_enter Try.func20, Try.ntmps20
  go_wp2
  go_loopw [4, 5] (fun v i wr => ∃ (k : Nat) (l : List UInt8), k ≤ s.size ∧ i = .int .i64 k ∧ Hid (k % 2 = 0 ∧ okF (s.data.toList.take k) = true ∧ l = unL (s.data.toList.take k)) ∧ wr.ownsRow w.heap.size 5 1 v l.length (cellsOf l) ∧ Below w.heap.size w wr)
    (fun _ i _ => s.size - (intOf i).toNat)
  case atStart =>
    refine ⟨0, [], by omega, rfl, ⟨rfl, rfl, rfl⟩, ?_, (Below.refl _ _).alloc (Nat.le_refl _) _⟩
    exact World.ownsRow_lit _ _ 0 (by simp) (by decide) rfl
  case round =>
    obtain ⟨k, l, hk, rfl, hl, hown, hnx⟩ := hrel
    have hsz := hnx.size
    have hll : l.length ≤ k := by
      rw [hl.out.2.2]
      have := unL_len (s.data.toList.take k)
      have := List.length_take_le k s.data.toList
      omega
    by_cases hlt : k < s.size
    · have hlt2 : k + 1 < s.size := by have := hl.out.1; omega
      obtain ⟨c, hc⟩ : ∃ c : Nat, c = s[k].toNat := ⟨_, rfl⟩
      obtain ⟨d, hd⟩ : ∃ d : Nat, d = s[k + 1].toNat := ⟨_, rfl⟩
      have hcb : c < 256 := by have := s[k].toNat_lt; omega
      have hdb : d < 256 := by have := s[k + 1].toNat_lt; omega
      have hix := idx_str Try.underlying9 s k c hlt hc
      have hiy := idx_str Try.underlying9 s (k + 1) d hlt2 hd
      rw [show ((k + 1 : Nat) : Int) = (k : Int) + 1 from by omega] at hiy
      obtain ⟨x, hx⟩ : ∃ x : Int, x = fv c := ⟨_, rfl⟩
      obtain ⟨y, hy⟩ : ∃ y : Int, y = fv d := ⟨_, rfl⟩
      have hx1 := fv_le c
      have hy1 := fv_le d
      rw [← hx] at hx1
      rw [← hy] at hy1
      have C : Hid (c = s[k].toNat ∧ d = s[k + 1].toNat ∧ x = fv c ∧ y = fv d) := ⟨hc, hd, hx, hy⟩
      have hvc : ∀ w, Calls Try.prog 28 #[.int .u8 (c : Int)] w fun e w' => e = .returned (.int .i64 x) ∧ w = w' := fun w => by rw [hx]; exact val_any c w hcb
      have hvd : ∀ w, Calls Try.prog 28 #[.int .u8 (d : Int)] w fun e w' => e = .returned (.int .i64 y) ∧ w = w' := fun w => by rw [hy]; exact val_any d w hdb
      have VC := hide hvc
      have VD := hide hvd
      clear hc hd hx hy hvc hvd
      by_cases hx0 : x < 0
      · have hf : okF s.data.toList = false := okF_bad s k hlt (by obtain ⟨e1, e2, e3, e4⟩ := C.out; rw [← e1, ← e3]; exact hx0)
        have F := hide hf
        clear hf
        go_wp2_with fail
        refine (VC.out _).mono ?_
        rintro e w' ⟨rfl, rfl⟩
        go_wp2_with fail
        refine (VD.out _).mono ?_
        rintro e w' ⟨rfl, rfl⟩
        go_wp2
        go_ret2
        exact ⟨by rw [unV_no F.out]; rfl, hnx⟩
      by_cases hy0 : y < 0
      · have hf : okF s.data.toList = false := okF_bad s (k + 1) hlt2 (by obtain ⟨e1, e2, e3, e4⟩ := C.out; rw [← e2, ← e4]; exact hy0)
        have F := hide hf
        clear hf
        go_wp2_with fail
        refine (VC.out _).mono ?_
        rintro e w' ⟨rfl, rfl⟩
        go_wp2_with fail
        refine (VD.out _).mono ?_
        rintro e w' ⟨rfl, rfl⟩
        go_wp2
        go_ret2
        exact ⟨by rw [unV_no F.out]; rfl, hnx⟩
      have hpr := pair_int s[k] s[k + 1] x y (by obtain ⟨e1, e2, e3, e4⟩ := C.out; rw [← e1]; exact e3) (by obtain ⟨e1, e2, e3, e4⟩ := C.out; rw [← e2]; exact e4) (by omega) (by omega)
      have P := hide hpr
      clear hpr
      go_wp2_with fail
      refine (VC.out _).mono ?_
      rintro e w' ⟨rfl, rfl⟩
      go_wp2_with fail
      refine (VD.out _).mono ?_
      rintro e w' ⟨rfl, rfl⟩
      go_wp2_with (first
        | (at_builtin; refine wpList_append_bytes _ rfl _ _ 36 rfl w.heap.size 5 Try.underlying36 Try.info5 u4 l [pairB s[k] s[k + 1]] rfl (hown.alloc _) ⟨wr.heap.size, 0, none⟩ 1 rfl (news_one _ _ _ P.out) (by simp; omega) (by simp; omega) ?_))
      intro v' w1 l' hl' hown' hgrow
      have hb := below_append _ hnx hown (Nat.le_refl _) hsz hgrow
      clear hgrow hnx hown
      go_wp2
      go_roundw
      case rel =>
        obtain ⟨e1, e2, e3⟩ := hl.out
        obtain ⟨f1, f2, f3, f4⟩ := C.out
        have g1 : s.data.toList.take (k + 2) = s.data.toList.take k ++ [s[k], s[k + 1]] := by
          rw [take_one s (k + 1) hlt2, take_one s k hlt]; simp
        refine ⟨k + 2, l', by omega, by go_num, ⟨by omega, ?_, ?_⟩, hown', hb⟩
        · rw [g1, okF_append, e2]
          simp [okF]
          rw [← f1, ← f2, ← f3, ← f4]
          omega
        · rw [g1, unL_snoc _ _ _ (by simp; omega), ← e3]
          exact hl'.out
      case measure => simp [intOf]; omega
    · have hstr := run_str_own (P := Try.prog) 36 9 5 Try.underlying36 Try.underlying5 Try.underlying9 hown
      go_wp2
      go_ret2
      refine ⟨?_, hnx⟩
      obtain ⟨e1, e2, e3⟩ := hl.out
      have e4 : s.data.toList.take k = s.data.toList := List.take_of_length_le (by simp; omega)
      rw [e4] at e2 e3
      rw [unV_yes e2, ← e3]
      rfl
end Go.Proofs.Ytkpedpaffjoifaa
