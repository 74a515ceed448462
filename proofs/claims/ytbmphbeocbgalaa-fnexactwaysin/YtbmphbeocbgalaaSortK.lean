/-
  slices.Sort and slices.Compact of a row of the call's own; what they make of it.
-/
import Derived.Test.YtbmphbeocbgalaaGrA
import Derived.Test.YtbmphbeocbgalaaGrI
import Derived.Test.YtbmphbeocbgalaaShelf
import Derived.Lib.OwnBridge
import Derived.Sort.OwnSortedInts
namespace Go.Proofs.Ytbmphbeocbgalaa
open Go.RowKit

open Go.Sort Go.Lib in
/-- slices.Sort of a row of the call's own -/
theorem sort_own (base : Nat) (u : Value) (zs : List Int) (w : World) (hown : w.ownsRow base 3 1 u zs.length (intsOf zs)) (hz : zs.length ≤ 1000000000) :
    Calls Try.prog 115 #[u] w fun e w' => e = .returned (.tuple #[]) ∧ w'.ownsRow base 3 1 u (zs.mergeSort fun x y => decide (x ≤ y)).length (intsOf (zs.mergeSort fun x y => decide (x ≤ y))) ∧ (∀ B w0, B ≤ base → Below B w0 w → Below B w0 w') := by
  by_cases h0 : zs = []
  · subst h0
    obtain ⟨a, cap, rfl⟩ := owns_len hown
    refine (Try.slices_Sort_int_none a cap w).mono ?_
    rintro e w' ⟨rfl, rfl⟩
    exact ⟨rfl, by simpa using hown, fun _ _ _ h => h⟩
  · have hne : 0 < zs.length := List.length_pos_iff.2 h0
    obtain ⟨g, cap, hv, hg, hlt, hnc, hcm, _, hH⟩ := holds_of_ownsRow (enc := Value.int .i64) hown (fun e => by
      obtain ⟨g, cp, e2, _⟩ := owns_shape hown hne
      rw [e2] at e; cases e)
    subst hv
    have hh := hown.2
    rcases hh with ⟨e0, _⟩ | ⟨g', cap', cur, e0, _, hc, _, _, hs, _⟩
    · cases e0
    · cases e0
      refine (Try.slices_Sort_int g 0 cap zs w hH hlt (by omega)).mono ?_
      rintro e w' ⟨rfl, n, os, rfl⟩
      have hl : (zs.mergeSort fun x y => decide (x ≤ y)).length = zs.length := List.length_mergeSort _
      refine ⟨rfl, ?_, fun B w0 hB h => h.grown (grownBy_sortedI _) (by omega) (fun k hk => by simp at hk; omega)⟩
      rw [hl]
      exact ownsRow_sortedI hl hg hc hnc hcm hs

open Go.Sort Go.Lib in
/-- slices.Compact of a row of the call's own -/
theorem compact_own (base : Nat) (u : Value) (zs : List Int) (w : World) (hown : w.ownsRow base 3 1 u zs.length (intsOf zs)) (hz : zs.length ≤ 1000000000) :
    Calls Try.prog 116 #[u] w fun e w' => ∃ x, e = .returned x ∧ w'.ownsRow base 3 1 x (Lib.compact zs).length (intsOf (Lib.compact zs)) ∧ (∀ B w0, B ≤ base → Below B w0 w → Below B w0 w') := by
  by_cases h0 : zs = []
  · subst h0
    obtain ⟨a, cap, rfl⟩ := owns_len hown
    refine (Try.slices_Compact_int_empty a cap w).mono ?_
    rintro e w' ⟨rfl, rfl⟩
    exact ⟨_, rfl, by simpa [Lib.compact, Lib.compactUpTo] using hown, fun _ _ _ h => h⟩
  · have hne : 0 < zs.length := List.length_pos_iff.2 h0
    obtain ⟨g, cap, hv, hg, hlt, hnc, hcm, _, hH⟩ := holds_of_ownsRow (enc := Value.int .i64) hown (fun e => by
      obtain ⟨g, cp, e2, _⟩ := owns_shape hown hne
      rw [e2] at e; cases e)
    subst hv
    refine (Try.slices_Compact_int g 0 cap zs w hH (by omega) hnc).mono ?_
    rintro e w' ⟨rfl, q, rfl⟩
    have hle := Lib.compact_length_le zs
    have ho := ownsRow_putRow (q := q) (k := (Lib.compact zs).length) (ys := Lib.compact zs ++ List.replicate (zs.length - (Lib.compact zs).length) 0) hown (by simp; omega) hle
    rw [List.take_append_of_le_length (Nat.le_refl _), List.take_length] at ho
    exact ⟨_, rfl, ho, fun B w0 hB h => below_putRow h (by omega)⟩

theorem upTo_mem (d : Array Int) : ∀ (m j : Nat), j < m → d[j]! ∈ Lib.compactUpTo d m
  | 0, j, h => by omega
  | m + 1, j, h => by
    rw [Lib.compactUpTo_succ]
    by_cases hj : j < m
    · exact List.mem_append_left _ (upTo_mem d m j hj)
    · obtain rfl : j = m := by omega
      by_cases hk : Lib.keeps d j = true
      · rw [if_pos hk]; simp
      · have hk2 : ¬ (j = 0 ∨ d[j]! ≠ d[j - 1]!) := by simpa [Lib.keeps] using hk
        have h0 : 0 < j := by omega
        have he : d[j]! = d[j - 1]! := by
          by_cases e : d[j]! = d[j - 1]!
          · exact e
          · exact absurd (Or.inr e) hk2
        rw [he]
        exact List.mem_append_left _ (upTo_mem d j (j - 1) (by omega))

theorem mem_compact {zs : List Int} {x : Int} : x ∈ Lib.compact zs ↔ x ∈ zs := by
  constructor
  · intro h
    simp only [Lib.compact, Lib.compactUpTo, List.mem_map, List.mem_filter, List.mem_range] at h
    obtain ⟨j, ⟨hj, _⟩, rfl⟩ := h
    have : zs.toArray[j]! = zs[j] := by simp [hj]
    rw [this]
    exact List.getElem_mem hj
  · intro h
    obtain ⟨j, hj, rfl⟩ := List.mem_iff_getElem.1 h
    have e : zs[j] = zs.toArray[j]! := by simp [hj]
    rw [e]
    exact upTo_mem _ _ j hj

theorem upTo_asc (d : Array Int) (n : Nat) (hs : ∀ i j, i ≤ j → j < n → d[i]! ≤ d[j]!) : ∀ m, m ≤ n → (Lib.compactUpTo d m).Pairwise (· < ·)
  | 0, _ => by simp [Lib.compactUpTo]
  | m + 1, h => by
    rw [Lib.compactUpTo_succ, List.pairwise_append]
    refine ⟨upTo_asc d n hs m (by omega), by split <;> simp, fun x hx y hy => ?_⟩
    simp only [Lib.compactUpTo, List.mem_map, List.mem_filter, List.mem_range] at hx
    obtain ⟨j, ⟨hj, _⟩, rfl⟩ := hx
    split at hy
    · rename_i hk
      have e : y = d[m]! := by simpa using hy
      subst e
      have hk2 : m = 0 ∨ d[m]! ≠ d[m - 1]! := by simpa [Lib.keeps] using hk
      have h1 := hs j (m - 1) (by omega) (by omega)
      have h2 := hs (m - 1) m (by omega) (by omega)
      rcases hk2 with h3 | h3
      · omega
      · omega
    · cases hy

theorem sorted_get {zs : List Int} (hp : zs.Pairwise (fun a b => decide (a ≤ b) = true)) : ∀ i j, i ≤ j → j < zs.length → zs.toArray[i]! ≤ zs.toArray[j]! := by
  intro i j hij hj
  have hi : i < zs.length := by omega
  have e1 : zs.toArray[i]! = zs[i] := by simp [hi]
  have e2 : zs.toArray[j]! = zs[j] := by simp [hj]
  rw [e1, e2]
  by_cases e : i = j
  · subst e; exact Int.le_refl _
  · have := List.pairwise_iff_getElem.1 hp i j hi hj (by omega)
    simpa using this

def hopsI (a b : List Int) : List Int := Lib.compact ((a ++ b).mergeSort fun x y => decide (x ≤ y))

theorem hopsI_mem {a b : List Int} {x : Int} : x ∈ hopsI a b ↔ x ∈ a ∨ x ∈ b := by
  unfold hopsI
  rw [mem_compact, List.mem_mergeSort, List.mem_append]

theorem hopsI_asc (a b : List Int) : (hopsI a b).Pairwise (· < ·) := by
  unfold hopsI Lib.compact
  refine upTo_asc _ _ ?_ _ (Nat.le_refl _)
  have hp := List.pairwise_mergeSort (le := fun x y : Int => decide (x ≤ y)) (fun a b c h1 h2 => by simp at h1 h2 ⊢; omega) (fun a b => by simp; omega) (a ++ b)
  exact sorted_get hp

theorem hopsI_len (a b : List Int) : (hopsI a b).length ≤ a.length + b.length := by
  unfold hopsI
  have := Lib.compact_length_le ((a ++ b).mergeSort fun x y => decide (x ≤ y))
  rw [List.length_mergeSort, List.length_append] at this
  exact this
end Go.Proofs.Ytbmphbeocbgalaa
