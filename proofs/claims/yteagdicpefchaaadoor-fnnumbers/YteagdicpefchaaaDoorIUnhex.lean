/-
  impl.Unhex: its contract.
-/
import Derived.Test.YteagdicpefchaaaDoorBase
import Derived.Test.YteagdicpefchaaaDoorUnMath
import Derived.Deep.RegionHeld3
import Derived.WalkMore
namespace Go.Proofs.YteagdicpefchaaaDoor
open Go.RowKit

set_option maxRecDepth 100000 in
set_option maxHeartbeats 1000000 in
theorem iuh_in (s : ByteArray) (w : World) (hs : s.size ≤ 40000) (he : (s.size : Int) % 2 = 0) :
    Calls Tryd.prog 16 #[.string s] w fun e w' => e = .returned (unV s) ∧ Below w.heap.size w w' := by
  obtain ⟨m, hm⟩ : ∃ m : Nat, m = s.size / 2 := ⟨_, rfl⟩
  obtain ⟨i0, hi, hz0, hz1, hz2⟩ := info_parts Tryd.info5
  have hmI : (s.size : Int) / 2 = (m : Int) := by omega
  have hm2 : m ≤ 20000 := by omega
  have hm3 : s.size = 2 * m := by omega
  have M := hide hm
  have M3 := hide hm3
  clear hm hm3
  go_enter Tryd.func16, Tryd.ntmps16
  go_wp2
  go_step3
  go_wp2_with (first | (at_make; refine wpList_make_full _ rfl _ _ 22 rfl w.heap.size 5 i0 (.int .u8 0) 1 Tryd.underlying22 hi hz0 hz1 .i64 .i64 _ _ m rfl rfl ?_ ?_ ?_ ?_ ?_ ?_; omega; omega; (rw [hz2]; omega); (unfold maxLen; omega); exact Nat.le_refl _; intro w1 hown hgrow))
  go_step3
  go_wp2
  rw [cells_rep] at hown
  have hb1 : Below w.heap.size w w1 := (Below.refl _ _).grown hgrow (Nat.le_refl _) (fun k hk => by cases hk)
  clear hgrow
  go_loopw [5, 23] (fun n i wr => ∃ (k : Nat) (l : List UInt8), k ≤ s.size ∧ i = .int .i64 k ∧ n = .int .i64 k ∧ Hid (l = s.data.toList.take k ∧ l.length = k ∧ okF l = true) ∧ wr.ownsRow w.heap.size 5 1 (.slice (some ⟨w.heap.size, 0, none⟩) m m) m (cellsOf (rowU m l)) ∧ Below w.heap.size w wr)
    (fun _ i _ => s.size - (intOf i).toNat)
  case atStart => exact ⟨0, [], by omega, rfl, rfl, ⟨rfl, rfl, rfl⟩, hown, hb1⟩
  case round =>
    clear hown hb1
    obtain ⟨k, l, hk, rfl, rfl, hl, hown, hnx⟩ := hrel
    have hsz := hnx.size
    by_cases hlt : k < s.size
    · obtain ⟨c, hc⟩ : ∃ c : Nat, c = s[k].toNat := ⟨_, rfl⟩
      have hcb : c < 256 := by have := s[k].toNat_lt; omega
      have hix := idx_str Tryd.underlying9 s k c hlt hc
      obtain ⟨x, hx, hx15, hst⟩ := rowU_step m l s[k] (by have := M3.out; have := hl.out.2.1; omega) hl.out.2.2
      have hlen := hl.out.2.1
      rw [hlen] at hx hst
      have hcell : wr.cell? ⟨w.heap.size, k / 2, none⟩ = some (.int .u8 (x.toNat : Int)) := by
        rw [hown.cellAt (k / 2) (by have := M3.out; omega)]; exact cellsOf_get _ _ _ hx
      have hfr := hown.frozenAt (k / 2)
      obtain ⟨y, hy⟩ : ∃ y : Nat, y = x.toNat := ⟨_, rfl⟩
      rw [← hy] at hcell hst hx15
      have hk2 : (k : Int) / 2 < (m : Int) := by have := M3.out; omega
      have C : Hid (c = s[k].toNat ∧ rowU m (l ++ [s[k]]) = (rowU m l).set (k / 2) (UInt8.ofNat (y * 16 + (fv s[k].toNat).toNat))) := ⟨hc, hst⟩
      clear hc hst hx hy hlen
      have h3 : (48 ≤ c ∧ c ≤ 57) ∨ (97 ≤ c ∧ c ≤ 102) ∨ c < 48 ∨ (57 < c ∧ c < 97) ∨ 102 < c := by omega
      rcases h3 with ⟨ha, hb⟩ | ⟨ha, hb⟩ | h | ⟨h, h'⟩ | h
      · have hf := fv_dig ⟨ha, hb⟩
        have F := hide hf
        clear hf
        go_wp2
        go_roundw
        case rel =>
          obtain ⟨e1, e2, e3⟩ := hl.out
          obtain ⟨e4, e5⟩ := C.out
          have e6 := F.out
          rw [← e4] at e5
          exact ⟨k + 1, l ++ [s[k]], by omega, by go_num, by go_num, ⟨by rw [take_one s k hlt, ← e1], by simp [e2], by rw [okF_snoc, e3, ← e4, e6]; simp; omega⟩, un_stored hown e5 (by omega) (by omega), hnx.setCell (Nat.le_refl _) _⟩
        case measure => simp [intOf]; omega
      · have hf := fv_let ⟨ha, hb⟩
        have F := hide hf
        have h57 : 57 < c := by omega
        clear hf
        go_wp2
        go_roundw
        case rel =>
          obtain ⟨e1, e2, e3⟩ := hl.out
          obtain ⟨e4, e5⟩ := C.out
          have e6 := F.out
          rw [← e4] at e5
          exact ⟨k + 1, l ++ [s[k]], by omega, by go_num, by go_num, ⟨by rw [take_one s k hlt, ← e1], by simp [e2], by rw [okF_snoc, e3, ← e4, e6]; simp; omega⟩, un_stored hown e5 (by omega) (by omega), hnx.setCell (Nat.le_refl _) _⟩
        case measure => simp [intOf]; omega
      all_goals
        have hf : okF s.data.toList = false := okF_bad s k hlt (by rw [← C.out.1, fv_no (by omega) (by omega)]; omega)
        have F := hide hf
        clear hf
        go_wp2
        first | go_ret2 | (rw [Exit.noGoto_ret]; go_ret2)
        exact ⟨by rw [unV_no F.out]; rfl, hnx⟩
    · have hstr := run_str_own (P := Tryd.prog) 22 9 5 Tryd.underlying22 Tryd.underlying5 Tryd.underlying9 hown
      have hkk : k = s.size := by omega
      have K := hide hkk
      clear hkk
      go_wp2
      first | go_ret2 | (rw [Exit.noGoto_ret]; go_ret2)
      refine ⟨?_, hnx⟩
      obtain ⟨e1, e2, e3⟩ := hl.out
      have e4 : l = s.data.toList := by rw [e1, List.take_of_length_le (by have := K.out; simp; omega)]
      have e5 := rowU_full m l (by have := M3.out; have := K.out; omega)
      rw [e4] at e3 e5
      rw [unV_yes e3, ← e5, e4]
      rfl

def unW (s : ByteArray) : Value := if s.size ≤ 40000 ∧ (s.size : Int) % 2 = 0 then unV s else .tuple #[.string (bs []), .bool false]

theorem unW_in {s : ByteArray} (h : s.size ≤ 40000) (h2 : (s.size : Int) % 2 = 0) : unW s = unV s := by unfold unW; rw [if_pos ⟨h, h2⟩]

theorem unW_out {s : ByteArray} (h : ¬ (s.size ≤ 40000 ∧ (s.size : Int) % 2 = 0)) : unW s = .tuple #[.string (bs []), .bool false] := by unfold unW; rw [if_neg h]

set_option maxRecDepth 100000 in
set_option maxHeartbeats 400000 in
theorem iuh_any (s : ByteArray) (w : World) (hs : s.size ≤ 1048576) : Calls Tryd.prog 16 #[.string s] w fun e w' => e = .returned (unW s) ∧ Below w.heap.size w w' := by
  by_cases h2 : (s.size : Int) % 2 = 0
  · by_cases h1 : (40000 : Int) < (s.size : Int)
    · rw [unW_out (by omega)]
      go_enter Tryd.func16, Tryd.ntmps16
      go_wp2
      go_step3
      go_wp2
      first | go_ret2 | (rw [Exit.noGoto_ret]; go_ret2)
      exact ⟨rfl, Below.refl _ _⟩
    rw [unW_in (by omega) h2]
    exact iuh_in s w (by omega) h2
  · rw [unW_out (by omega)]
    have h3 : (s.size : Int) % 2 = 1 := by omega
    clear h2
    go_enter Tryd.func16, Tryd.ntmps16
    go_wp2
    go_step3
    go_wp2
    first | go_ret2 | (rw [Exit.noGoto_ret]; go_ret2)
    exact ⟨rfl, Below.refl _ _⟩

theorem unW_two (s : ByteArray) : ∃ (t : ByteArray) (b : Bool), unW s = .tuple #[.string t, .bool b] := by
  unfold unW unV
  split
  · split <;> exact ⟨_, _, rfl⟩
  · exact ⟨_, _, rfl⟩
end Go.Proofs.YteagdicpefchaaaDoor
