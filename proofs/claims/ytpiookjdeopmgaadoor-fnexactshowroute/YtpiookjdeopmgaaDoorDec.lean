/-
  spec.Decimal: its contract at every int.
-/
import Derived.Test.YtpiookjdeopmgaaDoorFig
import Derived.Test.YtpiookjdeopmgaaDoorDecMath
namespace Go.Proofs.YtpiookjdeopmgaaDoor
open Go.RowKit

/-- 'string([]byte{x})' -/
theorem str_one (b : UInt8) (W : World) : (convert 95 9 (.slice (some ⟨W.heap.size, 0, none⟩) 1 1)).run Tryd.prog (W.alloc (.cells #[.int .u8 (b.toNat : Int)] 5)) = .ok (.string (bs [b])) (W.alloc (.cells #[.int .u8 (b.toNat : Int)] 5)) :=
  run_convert_bytes_back _ 95 9 5 ⟨W.heap.size, 0, none⟩ 1 [b] Tryd.underlying95 Tryd.underlying5 Tryd.underlying9 (news_one _ _ _ rfl)

theorem fig_dig (m : Nat) : fig ((m : Int) % 10) = digB m := by
  unfold fig digB
  rw [if_pos (by omega)]
  congr 1

theorem bsz (l : List UInt8) : (bs l).size = l.length := by simp [bs, ByteArray.size]

/-- what holds at the head of a round of Decimal: m: what is left; t: the figures so far -/
structure Dc (n m : Nat) (t : List UInt8) : Prop where
  all : decN n = decN m ++ t
  len : t.length ≤ 64
  lt : m < 2 ^ (64 - t.length)

theorem Dc.next {n m : Nat} {t : List UInt8} (h : Dc n m t) (hm : 0 < m) : Dc n (m / 10) (digB m :: t) := by
  obtain ⟨h1, h2, h3⟩ := h
  have hl : t.length < 64 := by
    rcases Nat.lt_or_ge t.length 64 with h | h
    · exact h
    · rw [show 64 - t.length = 0 by omega] at h3; simp at h3; omega
  refine ⟨by rw [h1, decN_pos hm]; simp, by simp; omega, ?_⟩
  have e : 64 - t.length = (64 - (digB m :: t).length) + 1 := by simp; omega
  rw [e, Nat.pow_succ] at h3
  omega

set_option maxRecDepth 100000 in
set_option maxHeartbeats 1000000 in
theorem dec_pos (n : Nat) (w : World) (h0 : 0 < n) (h1 : (n : Int) ≤ 9223372036854775807) :
    Calls Tryd.prog 37 #[.int .i64 (n : Int)] w fun e w' => e = .returned (.string (bs (decN n))) ∧ Below w.heap.size w w' := by
  have hn0 : ((n : Int) == 0) = false := by simp; omega
  have hst := str_one
  go_enter Tryd.func37, Tryd.ntmps37
  go_wp2
  go_loopw [4, 0] (fun v i wr => ∃ (m : Nat) (t : List UInt8), (m : Int) ≤ 9223372036854775807 ∧ i = .int .i64 m ∧ v = .string (bs t) ∧ Dc n m t ∧ Below w.heap.size w wr) (fun _ i _ => (intOf i).toNat)
  case atStart => exact ⟨n, [], h1, rfl, rfl, ⟨by simp, by simp, by simp; omega⟩, Below.refl _ _⟩
  case round =>
    clear hn0
    obtain ⟨m, t, hm, rfl, rfl, D, hnx⟩ := hrel
    have hsz := hnx.size
    have htl : (bs t).size ≤ 64 := by rw [bsz]; exact D.len
    by_cases hz : 0 < m
    · have hne : ((m : Int) != 0) = true := by simp; omega
      have hs1 : (bs [fig ((m : Int) % 10)]).size ≤ 64 := by rw [bsz]; simp
      go_wp2_with (first | (go_at_call 62; refine (fig_any _ _ (by omega) (by omega)).mono ?_; rintro e w' ⟨rfl, rfl⟩))
      go_roundw
      case rel => exact ⟨m / 10, digB m :: t, by omega, by go_num, by rw [fig_dig, bs_append]; rfl, D.next hz, hnx.alloc hsz _⟩
      case measure => simp [intOf]; omega
    · have hne : ((m : Int) != 0) = false := by simp; omega
      have hm0 : m = 0 := by omega
      have Z := hide hm0
      clear hm0
      go_wp2
      go_ret
      refine ⟨?_, hnx⟩
      have e := D.all
      rw [Z.out, decN_zero, List.nil_append] at e
      rw [e]
      rfl

set_option maxRecDepth 100000 in
set_option maxHeartbeats 1000000 in
theorem dec_neg (n : Nat) (w : World) (h0 : 0 < n) (h1 : (n : Int) ≤ 9223372036854775808) :
    Calls Tryd.prog 37 #[.int .i64 (-(n : Int))] w fun e w' => e = .returned (.string (bs (45 :: decN n))) ∧ Below w.heap.size w w' := by
  have hn0 : (-(n : Int) == 0) = false := by simp; omega
  have hst := str_one
  go_enter Tryd.func37, Tryd.ntmps37
  go_wp2
  go_loopw [4, 0] (fun v i wr => ∃ (m : Nat) (t : List UInt8), (m : Int) ≤ 9223372036854775808 ∧ i = .int .i64 (-(m : Int)) ∧ v = .string (bs t) ∧ Dc n m t ∧ Below w.heap.size w wr) (fun _ i _ => (intOf i).natAbs)
  case atStart => exact ⟨n, [], h1, rfl, rfl, ⟨by simp, by simp, by simp; omega⟩, Below.refl _ _⟩
  case round =>
    clear hn0
    obtain ⟨m, t, hm, rfl, rfl, D, hnx⟩ := hrel
    have hsz := hnx.size
    have htl : (bs t).size ≤ 64 := by rw [bsz]; exact D.len
    have htm : (-(m : Int)).tmod 10 = -((m : Int) % 10) := by rw [Int.neg_tmod, Int.tmod_eq_emod_of_nonneg (by omega)]
    have htd : (-(m : Int)).tdiv 10 = -((m : Int) / 10) := by rw [Int.neg_tdiv, Int.tdiv_eq_ediv_of_nonneg (by omega)]
    by_cases hz : 0 < m
    · have hne : (-(m : Int) != 0) = true := by simp; omega
      have hs1 : (bs [fig ((m : Int) % 10)]).size ≤ 64 := by rw [bsz]; simp
      by_cases hd : 0 < (m : Int) % 10
      · go_wp2_with (first | (go_at_call 62; refine (fig_any _ _ (by omega) (by omega)).mono ?_; rintro e w' ⟨rfl, rfl⟩))
        go_roundw
        case rel => exact ⟨m / 10, digB m :: t, by omega, by go_num, by rw [fig_dig, bs_append]; rfl, D.next hz, hnx.alloc hsz _⟩
        case measure => simp [intOf]; omega
      · have hd0 : (m : Int) % 10 = 0 := by omega
        have hs2 : (bs [fig 0]).size ≤ 64 := by rw [bsz]; simp
        go_wp2_with (first | (go_at_call 62; refine (fig_any _ _ (by omega) (by omega)).mono ?_; rintro e w' ⟨rfl, rfl⟩))
        go_roundw
        case rel => exact ⟨m / 10, digB m :: t, by omega, by go_num, by rw [← hd0, fig_dig, bs_append]; rfl, D.next hz, hnx.alloc hsz _⟩
        case measure => simp [intOf]; omega
    · have hne : (-(m : Int) != 0) = false := by simp; omega
      have hm0 : m = 0 := by omega
      have Z := hide hm0
      clear hm0
      go_wp2
      go_ret
      refine ⟨?_, hnx⟩
      have e := D.all
      rw [Z.out, decN_zero, List.nil_append] at e
      rw [e, show (45 :: t) = [45] ++ t from rfl, ← bs_append]
      rfl

set_option maxHeartbeats 400000 in
theorem dec_zero (w : World) : Calls Tryd.prog 37 #[.int .i64 0] w fun e w' => e = .returned (.string (bs [48])) ∧ Below w.heap.size w w' := by
  go_enter Tryd.func37, Tryd.ntmps37
  go_wp2
  go_ret
  exact ⟨rfl, Below.refl _ _⟩

/-- the decimal text of an int -/
def decI (n : Int) : List UInt8 := if n < 0 then 45 :: decN n.natAbs else decS n.natAbs

theorem dec_any (n : Int) (w : World) (h0 : -9223372036854775808 ≤ n) (h1 : n ≤ 9223372036854775807) :
    Calls Tryd.prog 37 #[.int .i64 n] w fun e w' => e = .returned (.string (bs (decI n))) ∧ Below w.heap.size w w' := by
  by_cases hz : n = 0
  · subst hz; exact dec_zero w
  by_cases hn : n < 0
  · have e : n = -(n.natAbs : Int) := by omega
    have e2 : decI n = 45 :: decN n.natAbs := by unfold decI; rw [if_pos hn]
    rw [e2]
    have := dec_neg n.natAbs w (by omega) (by omega)
    rw [← e] at this
    exact this
  · have e : n = (n.natAbs : Int) := by omega
    have e2 : decI n = decN n.natAbs := by unfold decI decS; rw [if_neg hn, if_neg (by omega)]
    rw [e2]
    have := dec_pos n.natAbs w (by omega) (by omega)
    rw [← e] at this
    exact this
end Go.Proofs.YtpiookjdeopmgaaDoor
