/-
  impl.Hex: its contract.
-/
import Derived.Test.YteagdicpefchaaaDoorBase
import Derived.Deep.RegionHeld3
namespace Go.Proofs.YteagdicpefchaaaDoor
open Go.RowKit

def hexL : List UInt8 → List UInt8
  | [] => []
  | c :: r => fig ((c.toNat : Int) / 16) :: fig ((c.toNat : Int) % 16) :: hexL r

theorem hexL_snoc : ∀ (l : List UInt8) (c : UInt8), hexL (l ++ [c]) = hexL l ++ [fig ((c.toNat : Int) / 16), fig ((c.toNat : Int) % 16)]
  | [], _ => rfl
  | b :: r, c => by simp [hexL, hexL_snoc r c]

theorem hexL_len : ∀ l : List UInt8, (hexL l).length = 2 * l.length
  | [] => rfl
  | b :: r => by simp [hexL, hexL_len r]; omega

theorem take_snoc (s : ByteArray) (k : Nat) (h : k < s.size) : s.data.toList.take (k + 1) = s.data.toList.take k ++ [s[k]] := by
  rw [List.take_succ_eq_append_getElem (by simpa using h)]; rfl

theorem hexL_take (s : ByteArray) (k c : Nat) (h : k < s.size) (hc : c = s[k].toNat) : hexL (s.data.toList.take (k + 1)) = hexL (s.data.toList.take k) ++ [fig ((c : Int) / 16), fig ((c : Int) % 16)] := by
  rw [take_snoc s k h, hexL_snoc, hc]

theorem hexL_all (s : ByteArray) (k : Nat) (h : ¬ k < s.size) : hexL (s.data.toList.take k) = hexL s.data.toList := by
  rw [List.take_of_length_le (by simp; omega)]

theorem hexL_size (s : ByteArray) (k : Nat) : (hexL (s.data.toList.take k)).length ≤ 2 * k := by
  rw [hexL_len]; have := List.length_take_le k s.data.toList; omega

def hexFigs : ByteArray := ⟨#[48, 49, 50, 51, 52, 53, 54, 55, 56, 57, 97, 98, 99, 100, 101, 102]⟩

theorem hex_at (x : Int) (h0 : 0 ≤ x) (h1 : x < 16) (k : IntKind) (w : World) : (Instr.index 9 (.string ⟨#[48, 49, 50, 51, 52, 53, 54, 55, 56, 57, 97, 98, 99, 100, 101, 102]⟩) (.int k x)).run Tryd.prog w = .ok (.int .u8 ((fig x).toNat : Int)) w := by
  have : x = 0 ∨ x = 1 ∨ x = 2 ∨ x = 3 ∨ x = 4 ∨ x = 5 ∨ x = 6 ∨ x = 7 ∨ x = 8 ∨ x = 9 ∨ x = 10 ∨ x = 11 ∨ x = 12 ∨ x = 13 ∨ x = 14 ∨ x = 15 := by omega
  rw [run_index_string _ _ _ _ _ Tryd.underlying9]
  rcases this with h | h | h | h | h | h | h | h | h | h | h | h | h | h | h | h <;> subst h <;> rfl

set_option maxRecDepth 100000 in
set_option maxHeartbeats 1000000 in
theorem ihx_any (s : ByteArray) (w : World) (hs : s.size ≤ 20000) :
    Calls Tryd.prog 15 #[.string s] w fun e w' => e = .returned (.tuple #[.string (bs (hexL s.data.toList)), .bool true]) ∧ Below w.heap.size w w' := by
  obtain ⟨i0, hi, hz0, hz1, hz2⟩ := info_parts Tryd.info5
  go_enter Tryd.func15, Tryd.ntmps15
  go_wp2_with (first | (at_make; refine wpList_make_own _ rfl _ _ 22 rfl w.heap.size 5 i0 (.int .u8 0) 1 Tryd.underlying22 hi hz0 hz1 .i64 .i64 _ (2 * s.size) rfl rfl ?_ ?_ ?_ ?_ ?_; omega; (rw [hz2]; omega); (unfold maxLen; omega); exact Nat.le_refl _; intro w1 hown hgrow))
  have hb1 : Below w.heap.size w w1 := (Below.refl _ _).grown hgrow (Nat.le_refl _) (fun k hk => by cases hk)
  clear hgrow
  go_loopw [4, 15] (fun v i wr => ∃ (k : Nat) (l : List UInt8), k ≤ s.size ∧ i = .int .i64 k ∧ Hid (l = hexL (s.data.toList.take k)) ∧ wr.ownsRow w.heap.size 5 1 v l.length (cellsOf l) ∧ Below w.heap.size w wr)
    (fun _ i _ => s.size - (intOf i).toNat)
  case atStart => exact ⟨0, [], by omega, rfl, rfl, hown, hb1⟩
  case round =>
    clear hown hb1
    obtain ⟨k, l, hk, rfl, hl, hown, hnx⟩ := hrel
    have hsz := hnx.size
    have hll : l.length ≤ 2 * k := by rw [hl.out]; exact hexL_size s k
    by_cases hlt : k < s.size
    · obtain ⟨c, hc⟩ : ∃ c : Nat, c = s[k].toNat := ⟨_, rfl⟩
      have hcb : c < 256 := by have := s[k].toNat_lt; omega
      have hix := idx_str Tryd.underlying9 s k c hlt hc
      have C : Hid (c = s[k].toNat) := hc
      clear hc
      have hx1 := hex_at ((c : Int) / 16) (by omega) (by omega) .u8
      have hx2 := hex_at ((c : Int) % 16) (by omega) (by omega) .u8
      have hw2 : IntKind.u8.wrap ((c : Int) / 16) = (c : Int) / 16 := by rw [IntKind.wrap_u8]; omega
      have hw3 : IntKind.u8.wrap ((c : Int) % 16) = (c : Int) % 16 := by rw [IntKind.wrap_u8]; omega
      have hw4 : (c : Int).tmod 16 = (c : Int) % 16 := Int.tmod_eq_emod_of_nonneg (by omega)
      have hw5 : (c : Int).tdiv 16 = (c : Int) / 16 := Int.tdiv_eq_ediv_of_nonneg (by omega)
      have hi0 : (0 : Int) ≤ (k : Int) := by omega
      have hi1 : (k : Int) < (s.size : Int) := by omega
      go_wp2
      go_region_held3 (fun _ => True) (trivial) (first | (refine step_append_bytes rfl _ _ 22 rfl w.heap.size 5 Tryd.underlying22 Tryd.info5 u4 l [fig ((c : Int) / 16), fig ((c : Int) % 16)] rfl ?_ ⟨wr.heap.size, 0, none⟩ 2 rfl ?_ ?_ ?_ ?_; exact (hown.alloc _).drew; exact news_two (w := wr) _ _ _ _ _ rfl rfl; (simp; omega); (simp; omega); intro v' w1 l' hl' hown' hgrow))
      all_goals
        have hb := below_append _ hnx hown (Nat.le_refl _) hsz (grown_drew hgrow)
        clear hgrow
        go_wp2
        go_roundw
        case rel => exact ⟨k + 1, l', by omega, by go_num, by rw [hl'.out, hl.out, hexL_take s k c hlt C.out]; rfl, hown', hb⟩
        case measure => simp [intOf]; omega
    · have hstr := run_str_own (P := Tryd.prog) 22 9 5 Tryd.underlying22 Tryd.underlying5 Tryd.underlying9 hown
      go_wp2
      go_ret2
      exact ⟨by rw [← hexL_all s k hlt, ← hl.out]; rfl, hnx⟩
end Go.Proofs.YteagdicpefchaaaDoor
