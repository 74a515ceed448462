/-
  append onto a row of bytes none of whose cells is frozen (what a conversion of a text leaves).
-/
import Derived.Test.YtchmmekhfcojgaaGreatDoorPq1
import Derived.Lib.FrozenHead2
namespace Go.Proofs.YtchmmekhfcojgaaGreatDoor
open Go.RowKit

set_option linter.unusedSimpArgs false

/-- a row of bytes of the call's own, from base on, none of whose cells is frozen -/
def RowX (w : World) (base : Nat) (v : Value) (l : List UInt8) : Prop :=
  ∃ g cap cur fz, v = .slice (some ⟨g, 0, none⟩) l.length cap ∧ base ≤ g ∧ w.heap[g]? = some (.cells cur 5 fz) ∧ (cur.size ≤ fz.1 ∨ fz.2 = 0) ∧ l.length ≤ cap ∧ cap ≤ maxLen ∧ cur.size = cap ∧ cur.toList.take l.length = cellsOf l

theorem free_cell {w : World} {g : Nat} {cur : Array Value} {t : TypeId} {fz : Nat × Nat} (h : w.heap[g]? = some (.cells cur t fz)) (hf : cur.size ≤ fz.1 ∨ fz.2 = 0) (j : Nat) (hj : j < cur.size) : w.frozen? ⟨g, j, none⟩ = false := by
  obtain ⟨a, b⟩ := fz
  simp only [World.frozen?, h, Bool.and_eq_false_iff, decide_eq_false_iff_not]
  simp only at hf
  omega

/-- cells stored one behind another into such a row -/
theorem lay_cells (P : Program) (g o : Nat) (t : TypeId) (fz : Nat × Nat) : ∀ (vs : List Value) (i : Nat) (cur : Array Value) (w : World), w.heap[g]? = some (.cells cur t fz) → (cur.size ≤ fz.1 ∨ fz.2 = 0) → o + i + vs.length ≤ cur.size → (∀ v ∈ vs, v.oneCell' = true) →
    ∃ cur' : Array Value, (storeCells ⟨g, o, none⟩ vs i).run P w = .ok () (w.setRow g cur') ∧ cur'.size = cur.size ∧ cur'.toList.take (o + i + vs.length) = cur.toList.take (o + i) ++ vs := by
  intro vs
  induction vs with
  | nil =>
    intro i cur w hg _ _ _
    refine ⟨cur, ?_, rfl, by simp⟩
    rw [setRow_self w g cur t fz hg]
    rfl
  | cons v rest ih =>
    intro i cur w hg hf hl h1
    simp only [List.length_cons] at hl
    have hlt : o + i < cur.size := by omega
    have hadd : (⟨g, o, none⟩ : Addr).add i = ⟨g, o + i, none⟩ := by unfold Addr.add; split <;> simp_all
    have hc : w.cell? ⟨g, o + i, none⟩ = some cur[o + i] := by simp [World.cell?, hg, hlt]
    have hst : (store ((⟨g, o, none⟩ : Addr).add i) v).run P w = .ok () (w.setRow g (cur.setIfInBounds (o + i) v)) := by
      rw [hadd, run_store P w _ v _ (h1 v (List.mem_cons_self ..)), hc]
      simp [free_cell hg hf _ hlt, setCell_eq_setRow w g (o + i) cur t fz v hg]
    obtain ⟨cur', r1, r2, r3⟩ := ih (i + 1) (cur.setIfInBounds (o + i) v) (w.setRow g (cur.setIfInBounds (o + i) v)) (setRow_heap w g cur _ t _ hg) (by simpa using hf) (by simp; omega) (fun u hu => h1 u (List.mem_cons_of_mem _ hu))
    refine ⟨cur', ?_, by simpa using r2, ?_⟩
    · simp only [storeCells, Sem.run_bind, hst, Result.andThen_ok, r1, setRow_setRow]
    · have e1 : o + i + (v :: rest).length = o + (i + 1) + rest.length := by simp only [List.length_cons]; omega
      have e2 : (cur.setIfInBounds (o + i) v).toList.take (o + (i + 1)) = cur.toList.take (o + i) ++ [v] := by
        have hl2 : o + i < (cur.toList.set (o + i) v).length := by simpa using hlt
        rw [Array.toList_setIfInBounds, show o + (i + 1) = o + i + 1 by omega, List.take_succ_eq_append_getElem hl2, List.take_set_of_le (Nat.le_refl _)]
        simp
      rw [e1, r3, e2, List.append_assoc]
      rfl

theorem RowX.cells {w : World} {base : Nat} {v : Value} {l : List UInt8} (h : RowX w base v l) : ∃ g cap, v = .slice (some ⟨g, 0, none⟩) l.length cap ∧ base ≤ g ∧ g < w.heap.size ∧ ∀ j u, (cellsOf l)[j]? = some u → w.cell? ((⟨g, 0, none⟩ : Addr).add j) = some u := by
  obtain ⟨g, cap, cur, fz, rfl, hb, hg, _, _, _, _, ht⟩ := h
  refine ⟨g, cap, rfl, hb, (Array.getElem?_eq_some_iff.1 hg).1, fun j u hu => ?_⟩
  have hadd : (⟨g, 0, none⟩ : Addr).add j = ⟨g, j, none⟩ := by unfold Addr.add; split <;> simp_all
  rw [hadd, cell_of_row w g j cur 5 fz hg]
  rw [← ht, List.getElem?_take] at hu
  split at hu
  · simpa using hu
  · cases hu

theorem RowX.keep {w w' : World} {base : Nat} {v : Value} {l : List UInt8} (h : RowX w base v l) (hk : ∀ k, base ≤ k → k < w.heap.size → w'.heap[k]? = w.heap[k]?) : RowX w' base v l := by
  obtain ⟨g, cap, cur, fz, hv, hb, hg, r⟩ := h
  exact ⟨g, cap, cur, fz, hv, hb, (hk g hb (Array.getElem?_eq_some_iff.1 hg).1).trans hg, r⟩

theorem cellsOf_one (l : List UInt8) : ∀ u ∈ cellsOf l, u.oneCell' = true := by
  intro u hu
  obtain ⟨b, _, rfl⟩ := List.mem_map.1 hu
  rfl

theorem append_X {P : Program} (w : World) (base : Nat) (t ty : TypeId) (i : TypeInfo) (ht : P.underlying t = some (.slice 5)) (hi : P.info? 5 = some i) (hz : i.zero = some (.int .u8 0)) (hs : i.size = 1) (hby : i.bytes = 1)
    (v : Value) (l nb : List UInt8) (hown : RowX w base v l) (a : Addr) (c : Nat) (hnews : ∀ j u, (cellsOf nb)[j]? = some u → w.cell? (a.add j) = some u) (hlen : l.length + nb.length ≤ 1000000) (hbase : base ≤ w.heap.size) :
    ∃ v' w', (Builtin.append_ #[t, t] ty #[v, .slice (some a) nb.length c]).run P w = .ok v' w' ∧ RowX w' base v' (l ++ nb) ∧ w.grownBy w' v.ownBlock := by
  have hcl : (cellsOf nb).length = nb.length * i.size := by rw [hs, cellsOf_length]; omega
  obtain ⟨g, cap, hv0, _, _, holds⟩ := hown.cells
  obtain ⟨g1, cap1, cur, fz, rfl, hb, hg, hf, h1, h2, h3, h4⟩ := hown
  cases hv0
  by_cases hroom : l.length + nb.length ≤ cap
  · obtain ⟨cur', r1, r2, r3⟩ := lay_cells P g l.length 5 fz (cellsOf nb) 0 cur w hg hf (by rw [cellsOf_length]; omega) (cellsOf_one nb)
    have hfc := run_firstCells_some (P := P) w i.size nb.length a nb.length c (cellsOf nb) hcl hnews
    refine ⟨.slice (some ⟨g, 0, none⟩) (l.length + nb.length) cap, w.setRow g cur', ?_, ?_, ⟨rfl, rfl, rfl, by simp, fun k _ hk => setRow_other w g k _ (fun e => hk (by simp [Value.ownBlock, e]))⟩⟩
    · have r1' : (storeCells ⟨g, l.length * i.size, none⟩ (cellsOf nb)).run P w = .ok () (w.setRow g cur') := by rw [hs, Nat.mul_one]; exact r1
      simp [Builtin.append_, run_underlying ht, sizeOf, typeInfo, hi, Builtin.lenOf, hroom, hfc, Addr.add_lit, r1']
    · refine ⟨g, cap, cur', fz, by simp, hb, setRow_heap w g cur _ 5 _ hg, by rw [r2]; exact hf, by simp; omega, h2, by rw [r2]; exact h3, ?_⟩
      rw [cellsOf_length, Nat.add_zero] at r3
      rw [List.length_append, r3, h4, cellsOf_append]
  · have hr := run_append_grow (P := P) w t ty 5 i (.int .u8 0) ht hi hz ⟨g, 0, none⟩ l.length cap (cellsOf l) (by rw [hs, cellsOf_length]; omega) holds a nb.length c (cellsOf nb) hcl hnews (by omega) (by omega) (growslice_fits (by omega) (by rw [hby]; omega))
    have hge := grownCap_ge w (l.length + nb.length) cap 5
    have hle : grownCap w (l.length + nb.length) cap 5 ≤ maxLen := grownCap_le_maxLen w _ cap 5 (by unfold maxLen; omega)
    refine ⟨_, _, hr, ⟨w.heap.size, _, _, (0, 0), by simp, hbase, heap_alloc_new w.drew _, .inr rfl, by simpa using hge, hle, ?_, ?_⟩, ⟨rfl, rfl, rfl, by simp, fun k hk _ => Below.heap_alloc w.drew _ k hk⟩⟩
    · simp [size_zeroCells, cellsOf_length, hs, Value.cells]
      omega
    · simp only [Array.toList_append, List.append_assoc]
      rw [← List.append_assoc, ← cellsOf_append, List.take_left' (by rw [cellsOf_length])]
end Go.Proofs.YtchmmekhfcojgaaGreatDoor
