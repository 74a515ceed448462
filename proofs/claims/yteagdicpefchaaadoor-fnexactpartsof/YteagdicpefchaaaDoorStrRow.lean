/-
  Rows of strings that a call made: laws.markText, eqStringS, markStringS, heldStringS.
-/
import Derived.Test.YteagdicpefchaaaDoorDec
import Derived.Deep.RegionHeld3
import Derived.Deep.QuietTactic
import Derived.BigQuiet
namespace Go.Proofs.YteagdicpefchaaaDoor
open Go.RowKit

def strs (xs : List (List UInt8)) : List Value := xs.map fun l => Value.string (bs l)
theorem strs_length (xs : List (List UInt8)) : (strs xs).length = xs.length := by simp [strs]
theorem strs_at (xs : List (List UInt8)) (i : Nat) (h : i < xs.length) : (strs xs)[i]? = some (.string (bs xs[i])) := by simp [strs, List.getElem?_eq_getElem h]

theorem owns_below {w w' : World} {base B : Nat} {e : TypeId} {size : Nat} {v : Value} {n : Nat} {xs : List Value} (h : w.ownsRow base e size v n xs) (hb : Below B w w') (hB : w.heap.size ≤ B) : w'.ownsRow base e size v n xs := by
  refine ⟨h.1, ?_⟩
  rcases h.2 with h2 | ⟨g, cap, cur, hv, hg, hh, r⟩
  · exact .inl h2
  · have hlt : g < w.heap.size := by
      rcases Nat.lt_or_ge g w.heap.size with hl | hl
      · exact hl
      · rw [Array.getElem?_eq_none hl] at hh; cases hh
    exact .inr ⟨g, cap, cur, hv, hg, by rw [hb.block g (by omega)]; exact hh, r⟩

theorem owns_shape {w : World} {base : Nat} {e : TypeId} {v : Value} {n : Nat} {xs : List Value} (h : w.ownsRow base e 1 v n xs) (hn : 0 < n) :
    ∃ g cap, v = .slice (some ⟨g, 0, none⟩) n cap ∧ base ≤ g ∧ g < w.heap.size := by
  rcases h.2 with ⟨_, h0⟩ | ⟨g, cap, cur, hv, hb, hg, _⟩
  · omega
  · refine ⟨g, cap, hv, hb, ?_⟩
    rcases Nat.lt_or_ge g w.heap.size with hlt | hge
    · exact hlt
    · rw [Array.getElem?_eq_none hge] at hg; cases hg

theorem owns_len {w : World} {base : Nat} {e : TypeId} {v : Value} {n : Nat} {xs : List Value} (h : w.ownsRow base e 1 v n xs) : ∃ a cap, v = .slice a n cap := by
  rcases h.2 with ⟨h1, h0⟩ | ⟨g, cap, cur, hv, _⟩
  · exact ⟨none, 0, by rw [h1, h0]⟩
  · exact ⟨_, cap, hv⟩

/-- the mark of a number -/
def mkT (k : Int) : List UInt8 := if k ≤ 0 then [109, 48] else 109 :: decN k.toNat

set_option maxRecDepth 100000 in
set_option maxHeartbeats 1000000 in
theorem mark_pos (n : Nat) (w : World) (h0 : 0 < n) (h1 : (n : Int) ≤ 9223372036854775807) :
    Calls Tryd.prog 33 #[.int .i64 (n : Int)] w fun e w' => e = .returned (.string (bs (109 :: decN n))) ∧ Below w.heap.size w w' := by
  have hst := str_one
  go_enter Tryd.func33, Tryd.ntmps33
  go_wp2
  go_loopw [3, 0] (fun v i wr => ∃ (m : Nat) (t : List UInt8), (m : Int) ≤ 9223372036854775807 ∧ i = .int .i64 m ∧ v = .string (bs t) ∧ Dc n m t ∧ Below w.heap.size w wr) (fun _ i _ => (intOf i).toNat)
  case atStart => exact ⟨n, [], h1, rfl, rfl, ⟨by simp, by simp, by simp; omega⟩, Below.refl _ _⟩
  case round =>
    obtain ⟨m, t, hm, rfl, rfl, D, hnx⟩ := hrel
    have hsz := hnx.size
    have htl : (bs t).size ≤ 64 := by rw [bsz]; exact D.len
    by_cases hz : 0 < m
    · have hs1 : (bs [digB m]).size ≤ 64 := by rw [bsz]; simp
      have hdg : (48 : Int) + (m : Int) % 10 = ((digB m).toNat : Int) := by simp [digB]; omega
      go_wp2
      go_roundw
      case rel => exact ⟨m / 10, digB m :: t, by omega, by go_num, by rw [bs_append]; rfl, D.next hz, hnx.alloc hsz _⟩
      case measure => simp [intOf]; omega
    · have hm0 : m = 0 := by omega
      have Z := hide hm0
      clear hm0
      go_wp2
      go_ret
      refine ⟨?_, hnx⟩
      have e := D.all
      rw [Z.out, decN_zero, List.nil_append] at e
      rw [e, show (109 :: t) = [109] ++ t from rfl, ← bs_append]
      rfl

theorem mark_any (k : Int) (w : World) (h1 : k ≤ 9223372036854775807) :
    Calls Tryd.prog 33 #[.int .i64 k] w fun e w' => e = .returned (.string (bs (mkT k))) ∧ Below w.heap.size w w' := by
  by_cases hk : k ≤ 0
  · have e : mkT k = [109, 48] := by unfold mkT; rw [if_pos hk]
    rw [e]
    go_enter Tryd.func33, Tryd.ntmps33
    go_wp2
    go_ret
    exact ⟨rfl, Below.refl _ _⟩
  · have e : mkT k = 109 :: decN k.toNat := by unfold mkT; rw [if_neg hk]
    have e2 : k = (k.toNat : Int) := by omega
    rw [e]
    have := mark_pos k.toNat w (by omega) (by omega)
    rw [← e2] at this
    exact this
end Go.Proofs.YteagdicpefchaaaDoor
