/-
  spec.Unsealed, impl.Unsealed: their contracts.
-/
import Derived.Test.YtejlgmdpdimknaaDoorSeal
import Derived.Test.YtejlgmdpdimknaaDoorShelf
import Derived.Deep.RegionHeld3
import Derived.Deep.QuietTactic
import Derived.BigQuiet
namespace Go.Proofs.YtejlgmdpdimknaaDoor
open Go.RowKit

theorem neq_lists {u t : ByteArray} (h : ¬ u = t) : (u.toList == t.toList) = false := by
  rw [beq_eq_false_iff_ne]
  intro e
  refine h ?_
  rw [ByteArray.toList_eq, ByteArray.toList_eq] at e
  cases u
  cases t
  congr 1
  exact Array.toList_inj.1 e

theorem steps_drew {w : World} (h : Steps w) : Steps w.drew := h

def unT (s : ByteArray) (n : Nat) : Prop := s.extract n s.size = bs (fourL (sumS (s.extract 0 n)))

instance (s : ByteArray) (n : Nat) : Decidable (unT s n) := by unfold unT; exact inferInstance

def unV (s : ByteArray) : Value := if 4 ≤ s.size ∧ s.size - 4 ≤ 20000 ∧ unT s (s.size - 4) then .tuple #[.string (s.extract 0 (s.size - 4)), .bool true] else .tuple #[.string (bs []), .bool false]

theorem unV_two (s : ByteArray) : ∃ (t : ByteArray) (c : Bool), unV s = .tuple #[.string t, .bool c] := by
  unfold unV
  split <;> exact ⟨_, _, rfl⟩

theorem sl_hi {P : Program} {t : TypeId} (hu : P.underlying t = some .string) (s u : ByteArray) (n : Nat) (h : n ≤ s.size) (he : u = s.extract 0 n) (w : World) :
    (Instr.slice t (.string s) none (some (.int .i64 (n : Int))) none).run P w = .ok (.string u) w := by
  rw [he, run_slice_string_h w t s hu .i64 (n : Int) (by omega) (by omega)]
  rfl

theorem sl_lo {P : Program} {t : TypeId} (hu : P.underlying t = some .string) (s u : ByteArray) (n : Nat) (h : n ≤ s.size) (he : u = s.extract n s.size) (w : World) :
    (Instr.slice t (.string s) (some (.int .i64 (n : Int))) none none).run P w = .ok (.string u) w := by
  rw [he, run_slice_string_l w t s hu .i64 (n : Int) (by omega) (by omega)]
  rfl

theorem unV_no {s : ByteArray} (h : ¬ (4 ≤ s.size ∧ s.size - 4 ≤ 20000 ∧ unT s (s.size - 4))) : unV s = .tuple #[.string (bs []), .bool false] := by
  unfold unV; rw [if_neg h]

theorem unV_yes {s : ByteArray} (h1 : 4 ≤ s.size) (h2 : s.size - 4 ≤ 20000) (h3 : unT s (s.size - 4)) : unV s = .tuple #[.string (s.extract 0 (s.size - 4)), .bool true] := by
  unfold unV; rw [if_pos ⟨h1, h2, h3⟩]

set_option maxRecDepth 100000 in
set_option maxHeartbeats 1000000 in
theorem sun_any (s : ByteArray) (w : World) (hs : s.size ≤ 1048576) :
    Calls Tryd.prog 14 #[.string s] w fun e w' => e = .returned (unV s) ∧ Below w.heap.size w w' := by
  by_cases h : (s.size : Int) - 4 < 0
  · rw [unV_no (by omega)]
    have hd : decide ((s.size : Int) - 4 < 0) = true := by simpa using h
    go_enter Tryd.func14, Tryd.ntmps14
    go_wp2
    go_quiet (fail)
    go_wp2
    go_ret2
    exact ⟨rfl, rfl, rfl, rfl, Nat.le_refl _, fun _ _ => rfl⟩
  · by_cases h2 : 20000 < (s.size : Int) - 4
    · rw [unV_no (by omega)]
      have hd : decide ((s.size : Int) - 4 < 0) = false := by simpa using h
      have hd2 : decide (20000 < (s.size : Int) - 4) = true := by simpa using h2
      go_enter Tryd.func14, Tryd.ntmps14
      go_wp2
      go_quiet (fail)
      go_wp2
      go_ret2
      exact ⟨rfl, rfl, rfl, rfl, Nat.le_refl _, fun _ _ => rfl⟩
    · obtain ⟨n, hn⟩ : ∃ n : Nat, n = s.size - 4 := ⟨_, rfl⟩
      have hn2 : (s.size : Int) - 4 = (n : Int) := by omega
      obtain ⟨u, hu⟩ : ∃ u, u = s.extract n s.size := ⟨_, rfl⟩
      obtain ⟨b, hb⟩ : ∃ b, b = s.extract 0 n := ⟨_, rfl⟩
      have hbz : b.size ≤ 1048576 := by rw [hb]; exact Nat.le_trans (by simp; omega) hs
      have hlo := sl_lo Tryd.underlying9 s u n (by omega) hu
      have hhi := sl_hi Tryd.underlying9 s b n (by omega) hb
      obtain ⟨x, hx⟩ : ∃ x, x = sumS b := ⟨_, rfl⟩
      have hxl : x < 4294967296 := by rw [hx]; exact sumS_lt b
      obtain ⟨t, ht⟩ : ∃ t, t = bs (fourL x) := ⟨_, rfl⟩
      have hut : unT s n ↔ u = t := by unfold unT; rw [ht, hx, hb, hu]
      have hso : ∀ W, Calls Tryd.prog 10 #[.string b] W fun e w' => e = .returned (.int .u32 (x : Int)) ∧ W = w' := by
        intro W; rw [hx]; exact sso_any b W (by omega)
      have hfo : ∀ W, Calls Tryd.prog 20 #[.int .u32 (x : Int)] W fun e w' => e = .returned (.string t) ∧ Below W.heap.size W w' := by
        intro W; rw [ht]; exact sfour_any x W hxl
      have HSO := hide hso
      have HFO := hide hfo
      have hV : unV s = if u = t then .tuple #[.string b, .bool true] else .tuple #[.string (bs []), .bool false] := by
        by_cases hc : u = t
        · rw [if_pos hc, unV_yes (by omega) (by omega) (by rw [← hn]; exact hut.2 hc), ← hn, ← hb]
        · rw [if_neg hc, unV_no (by rw [← hn, hut]; exact fun k => hc k.2.2)]
      rw [hV]
      clear hV hso hfo hu hb hx ht hut
      have hd : decide ((n : Int) < 0) = false := by simp
      have hd2 : decide (20000 < (n : Int)) = false := by simp; omega
      by_cases hc : u = t
      · subst hc
        rw [if_pos rfl]
        go_enter Tryd.func14, Tryd.ntmps14
        go_wp2
        rw [← hn]
        have HN := hide hn
        clear hn h h2 hn2
        go_region_held3 (fun _ => True) (trivial) (first | (go_at_call 10; refine (HSO.out _).mono ?_; rintro e w1 ⟨rfl, rfl⟩) | (go_at_call 20; refine (HFO.out _).mono ?_; rintro e w2 ⟨rfl, hbl⟩))
        go_wp2
        go_ret2
        refine ⟨rfl, ?_⟩
        exact ⟨hbl.os, hbl.tape, hbl.output, hbl.size, hbl.block⟩
      · rw [if_neg hc]
        have hq := neq_lists hc
        go_enter Tryd.func14, Tryd.ntmps14
        go_wp2
        rw [← hn]
        have HN := hide hn
        clear hn h h2 hn2
        go_region_held3 (fun _ => True) (trivial) (first | (go_at_call 10; refine (HSO.out _).mono ?_; rintro e w1 ⟨rfl, rfl⟩) | (go_at_call 20; refine (HFO.out _).mono ?_; rintro e w2 ⟨rfl, hbl⟩))
        go_wp2
        go_ret2
        refine ⟨rfl, ?_⟩
        exact ⟨hbl.os, hbl.tape, hbl.output, hbl.size, hbl.block⟩

set_option maxHeartbeats 400000 in
theorem clone_any (s : ByteArray) (w : World) (hs : s.size ≤ 1048576) : Calls Tryd.prog 22 #[.string s] w fun e w' => e = .returned (.string s) ∧ Below w.heap.size w w' := by
  go_enter Tryd.func22, Tryd.ntmps22
  go_wp2_with (first | (go_at_call 28; refine (Tryd.stringslite_Clone _ _ (by omega)).mono ?_; rintro e w' ⟨rfl, hb⟩))
  go_ret
  exact ⟨rfl, hb⟩

set_option maxRecDepth 100000 in
set_option maxHeartbeats 1000000 in
theorem iun_any (s : ByteArray) (w : World) (hs : s.size ≤ 1048576) (hT : Steps w) :
    Calls Tryd.prog 15 #[.string s] w fun e w' => e = .returned (unV s) ∧ Below w.heap.size w w' := by
  have HT := hide hT
  clear hT
  by_cases h : (s.size : Int) - 4 < 0
  · rw [unV_no (by omega)]
    have hd : decide ((s.size : Int) - 4 < 0) = true := by simpa using h
    go_enter Tryd.func15, Tryd.ntmps15
    go_wp2
    go_ret2
    exact ⟨rfl, Below.refl _ _⟩
  · by_cases h2 : 20000 < (s.size : Int) - 4
    · rw [unV_no (by omega)]
      have hd : decide ((s.size : Int) - 4 < 0) = false := by simpa using h
      have hd2 : decide (20000 < (s.size : Int) - 4) = true := by simpa using h2
      go_enter Tryd.func15, Tryd.ntmps15
      go_wp2
      go_ret2
      exact ⟨rfl, Below.refl _ _⟩
    · obtain ⟨n, hn⟩ : ∃ n : Nat, n = s.size - 4 := ⟨_, rfl⟩
      have hn2 : (s.size : Int) - 4 = (n : Int) := by omega
      obtain ⟨u, hu⟩ : ∃ u, u = s.extract n s.size := ⟨_, rfl⟩
      obtain ⟨b, hb⟩ : ∃ b, b = s.extract 0 n := ⟨_, rfl⟩
      have hbz : b.size ≤ 1048576 := by rw [hb]; exact Nat.le_trans (by simp; omega) hs
      have hlo := sl_lo Tryd.underlying9 s u n (by omega) hu
      have hhi := sl_hi Tryd.underlying9 s b n (by omega) hb
      obtain ⟨x, hx⟩ : ∃ x, x = sumS b := ⟨_, rfl⟩
      have hxl : x < 4294967296 := by rw [hx]; exact sumS_lt b
      obtain ⟨t, ht⟩ : ∃ t, t = bs (fourL x) := ⟨_, rfl⟩
      have hut : unT s n ↔ u = t := by unfold unT; rw [ht, hx, hb, hu]
      have hso : ∀ W, Steps W → Calls Tryd.prog 11 #[.string b] W fun e w' => e = .returned (.int .u32 (x : Int)) ∧ W = w' := by
        intro W hW; rw [hx]; exact iso_any b W (by omega) hW
      have hfo : ∀ W, Calls Tryd.prog 21 #[.int .u32 (x : Int)] W fun e w' => e = .returned (.string t) ∧ Below W.heap.size W w' := by
        intro W; rw [ht]; exact ifour_any x W hxl
      have HSO := hide hso
      have HFO := hide hfo
      have hV : unV s = if u = t then .tuple #[.string b, .bool true] else .tuple #[.string (bs []), .bool false] := by
        by_cases hc : u = t
        · rw [if_pos hc, unV_yes (by omega) (by omega) (by rw [← hn]; exact hut.2 hc), ← hn, ← hb]
        · rw [if_neg hc, unV_no (by rw [← hn, hut]; exact fun k => hc k.2.2)]
      rw [hV]
      have HB := hide hb
      clear hV hso hfo hu hb hx ht hut
      have hd : decide ((n : Int) < 0) = false := by simp
      have hd2 : decide (20000 < (n : Int)) = false := by simp; omega
      by_cases hc : u = t
      · subst hc
        rw [if_pos rfl]
        go_enter Tryd.func15, Tryd.ntmps15
        go_wp2
        rw [← hn, ← HB.out]
        have HN := hide hn
        clear hn h h2 hn2
        go_region_held3 (fun _ => True) (trivial) (first | (go_at_call 11; refine (HSO.out _ (by first | exact HT.out | exact steps_drew HT.out)).mono ?_; rintro e w1 ⟨rfl, rfl⟩) | (go_at_call 21; refine (HFO.out _).mono ?_; rintro e w2 ⟨rfl, hbl⟩))
        go_wp2_with fail
        refine (clone_any b _ hbz).mono ?_
        rintro e w3 ⟨rfl, hb3⟩
        go_wp2
        go_ret2
        refine ⟨rfl, ?_⟩
        have hb4 : Below w.heap.size w w2 := ⟨hbl.os, hbl.tape, hbl.output, hbl.size, hbl.block⟩
        exact hb4.trans (hb3.mono hb4.size)
      · rw [if_neg hc]
        have hq := neq_lists (fun k : t = u => hc k.symm)
        go_enter Tryd.func15, Tryd.ntmps15
        go_wp2
        rw [← hn, ← HB.out]
        have HN := hide hn
        clear hn h h2 hn2
        go_region_held3 (fun _ => True) (trivial) (first | (go_at_call 11; refine (HSO.out _ (by first | exact HT.out | exact steps_drew HT.out)).mono ?_; rintro e w1 ⟨rfl, rfl⟩) | (go_at_call 21; refine (HFO.out _).mono ?_; rintro e w2 ⟨rfl, hbl⟩))
        go_wp2
        go_ret2
        refine ⟨rfl, ?_⟩
        exact ⟨hbl.os, hbl.tape, hbl.output, hbl.size, hbl.block⟩
end Go.Proofs.YtejlgmdpdimknaaDoor
