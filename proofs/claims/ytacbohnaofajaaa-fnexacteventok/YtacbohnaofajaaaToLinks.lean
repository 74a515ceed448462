/-
  laws.toLinkS, toThingS: copies in new rows.
-/
import Derived.Test.YtacbohnaofajaaaRowAt
import Derived.OwnWalk
import Derived.Test.YtacbohnaofajaaaCostS
namespace Go.Proofs.Ytacbohnaofajaaa
open Go.RowKit

def lk0 : Lk := ⟨0, 0, 0, 0⟩

theorem Try.infoLk : (Try.prog.info? 48).map (fun i => (i.zero, i.size, i.bytes)) = some (some (lkV lk0), 4, 32) := by kernel_rfl

set_option maxRecDepth 100000 in
set_option maxHeartbeats 1000000 in
theorem toLinkS_any (v : Value) (ls : List Lk) (w : World) (hls : ls.length ≤ 1048576) (hv : LinksAt w v ls w.heap.size) :
    Calls Try.prog 14 #[v] w fun e w' => ∃ x, e = .returned x ∧ w'.ownsRow w.heap.size 48 4 x ls.length (flat lkE ls) ∧ Below w.heap.size w w' := by
  obtain ⟨a, cap, rfl⟩ := hv.shape
  have HV := hide hv
  clear hv
  obtain ⟨i0, hi, hz0, hz1, hz2⟩ := info_parts Try.infoLk
  have HI := hide hi
  have HZ := hide hz0
  clear hi hz0
  go_enter Try.func14, Try.ntmps14
  go_wp2_with (first
    | (refine wpList_make_structs lkE_len (by omega) _ rfl _ _ 31 rfl w.heap.size 48 i0 (lkV lk0) lk0 rfl Try.underlying31 HI.out HZ.out hz1 ls.length rfl rfl (by rw [hz2]; omega) (by unfold maxLen; omega) (Nat.le_refl _) ?_))
  intro w1 hown hg
  have b1 : Below w.heap.size w w1 := (Below.refl _ _).grown hg (Nat.le_refl _) (fun k hk => by simp at hk)
  have hg1 : w.heap.size < w1.heap.size := by
    rcases hown.2 with ⟨h0, _⟩ | ⟨g, cp, cur, hv, _, hh, _⟩
    · cases h0
    · cases hv; exact lt_of_heap hh
  have OW := hide hown
  clear hown hg
  go_wp2
  go_loopw [4] (fun i wr => ∃ k : Nat, k ≤ ls.length ∧ i = .int .i64 k ∧ wr.ownsRow w.heap.size 48 4 (.slice (some ⟨w.heap.size, 0, none⟩) ls.length ls.length) ls.length (flat lkE (part ls lk0 k)) ∧ Below w.heap.size w wr) (fun i _ => ls.length - (intOf i).toNat)
  case atStart => exact ⟨0, by omega, rfl, (by simpa [part] using OW.out), b1⟩
  case round =>
    obtain ⟨k, hk, rfl, hown, hnx⟩ := hrel
    by_cases hlt : k < ls.length
    · obtain ⟨l, hl⟩ : ∃ l, ls[k]? = some l := ⟨ls[k], List.getElem?_eq_getElem hlt⟩
      obtain ⟨b, off, cap', hve, hbb, c0, c1, c2, c3⟩ := HV.out.cells k l hl
      cases hve
      rw [← hnx.cell (p := ⟨b, off + k * 4, none⟩) hbb] at c0
      rw [← hnx.cell (p := ⟨b, off + k * 4 + 1, none⟩) hbb] at c1
      rw [← hnx.cell (p := ⟨b, off + k * 4 + 2, none⟩) hbb] at c2
      rw [← hnx.cell (p := ⟨b, off + k * 4 + 3, none⟩) hbb] at c3
      have HL := hide hl
      have OW2 := hide hown
      clear hl hown
      have hki : (0 : Int) ≤ (k : Int) := by omega
      have hkj : (k : Int) < (ls.length : Int) := by omega
      have hto := toLink_any l
      unfold lkV at hto
      have HTO := hide hto
      clear hto
      go_wp2_with fail
      refine (HTO.out _).mono ?_
      rintro e w2 ⟨rfl, b2⟩
      have hown2 := owns_below OW2.out b2 (Nat.le_refl _)
      have hex : ∀ r, r < 4 → ∃ u, w2.cell? ⟨w.heap.size, k * 4 + r, none⟩ = some u := fun r hr => by
        have hj : k * 4 + r < ls.length * 4 := by omega
        rw [hown2.cellAt _ hj]
        have hln : k * 4 + r < (flat lkE (part ls lk0 k)).length := by rw [hown2.1]; exact hj
        exact ⟨_, List.getElem?_eq_getElem hln⟩
      obtain ⟨u0, d0⟩ := hex 0 (by omega)
      obtain ⟨u1, d1⟩ := hex 1 (by omega)
      obtain ⟨u2, d2⟩ := hex 2 (by omega)
      obtain ⟨u3, d3⟩ := hex 3 (by omega)
      rw [Nat.add_zero] at d0
      have f0 := hown2.frozenAt (k * 4)
      have f1 := hown2.frozenAt (k * 4 + 1)
      have f2 := hown2.frozenAt (k * 4 + 2)
      have f3 := hown2.frozenAt (k * 4 + 3)
      have OW3 := hide hown2
      clear hown2 hex
      go_wp2
      refine ⟨⟨k + 1, by omega, by go_num, ?_, ((((hnx.trans (b2.mono hnx.size)).setCell (Nat.le_refl _) _).setCell (Nat.le_refl _) _).setCell (Nat.le_refl _) _).setCell (Nat.le_refl _) _⟩, by simp [intOf]; omega⟩
      have h4 := ((((OW3.out.stored (k * 4) (.int .i64 l.a)).1.stored (k * 4 + 1) (.int .i64 l.b)).1.stored (k * 4 + 2) (.int .i64 l.c)).1.stored (k * 4 + 3) (.int .i64 l.r)).1
      have e4 : ((((flat lkE (part ls lk0 k)).set (k * 4) (.int .i64 l.a)).set (k * 4 + 1) (.int .i64 l.b)).set (k * 4 + 2) (.int .i64 l.c)).set (k * 4 + 3) (.int .i64 l.r) = flat lkE (part ls lk0 (k + 1)) := by
        rw [← part_step ls lk0 l k HL.out, ← flat_set lkE_len _ _ _ (by rw [part_len _ _ _ hk]; exact hlt)]
        rfl
      rw [e4] at h4
      exact h4
    · have hkn : k = ls.length := by omega
      have KN := hide hkn
      have OW2 := hide hown
      clear hkn hown
      go_wp2
      go_ret
      refine ⟨_, rfl, ?_, hnx⟩
      have h := OW2.out
      rw [KN.out, part_all] at h
      exact h
def th0 : Th := ⟨0, 0, 0, false⟩

theorem Try.infoTh : (Try.prog.info? 52).map (fun i => (i.zero, i.size, i.bytes)) = some (some (thV th0), 4, 32) := by kernel_rfl

set_option maxRecDepth 100000 in
set_option maxHeartbeats 1000000 in
theorem toThingS_any (v : Value) (ls : List Th) (w : World) (hls : ls.length ≤ 1048576) (hv : ThingsAt w v ls w.heap.size) :
    Calls Try.prog 15 #[v] w fun e w' => ∃ x, e = .returned x ∧ w'.ownsRow w.heap.size 52 4 x ls.length (flat thE ls) ∧ Below w.heap.size w w' := by
  obtain ⟨a, cap, rfl⟩ := hv.shape
  have HV := hide hv
  clear hv
  obtain ⟨i0, hi, hz0, hz1, hz2⟩ := info_parts Try.infoTh
  have HI := hide hi
  have HZ := hide hz0
  clear hi hz0
  go_enter Try.func15, Try.ntmps15
  go_wp2_with (first
    | (refine wpList_make_structs thE_len (by omega) _ rfl _ _ 32 rfl w.heap.size 52 i0 (thV th0) th0 rfl Try.underlying32 HI.out HZ.out hz1 ls.length rfl rfl (by rw [hz2]; omega) (by unfold maxLen; omega) (Nat.le_refl _) ?_))
  intro w1 hown hg
  have b1 : Below w.heap.size w w1 := (Below.refl _ _).grown hg (Nat.le_refl _) (fun k hk => by simp at hk)
  have hg1 : w.heap.size < w1.heap.size := by
    rcases hown.2 with ⟨h0, _⟩ | ⟨g, cp, cur, hv, _, hh, _⟩
    · cases h0
    · cases hv; exact lt_of_heap hh
  have OW := hide hown
  clear hown hg
  go_wp2
  go_loopw [4] (fun i wr => ∃ k : Nat, k ≤ ls.length ∧ i = .int .i64 k ∧ wr.ownsRow w.heap.size 52 4 (.slice (some ⟨w.heap.size, 0, none⟩) ls.length ls.length) ls.length (flat thE (part ls th0 k)) ∧ Below w.heap.size w wr) (fun i _ => ls.length - (intOf i).toNat)
  case atStart => exact ⟨0, by omega, rfl, (by simpa [part] using OW.out), b1⟩
  case round =>
    obtain ⟨k, hk, rfl, hown, hnx⟩ := hrel
    by_cases hlt : k < ls.length
    · obtain ⟨l, hl⟩ : ∃ l, ls[k]? = some l := ⟨ls[k], List.getElem?_eq_getElem hlt⟩
      obtain ⟨b, off, cap', hve, hbb, c0, c1, c2, c3⟩ := HV.out.cells k l hl
      cases hve
      rw [← hnx.cell (p := ⟨b, off + k * 4, none⟩) hbb] at c0
      rw [← hnx.cell (p := ⟨b, off + k * 4 + 1, none⟩) hbb] at c1
      rw [← hnx.cell (p := ⟨b, off + k * 4 + 2, none⟩) hbb] at c2
      rw [← hnx.cell (p := ⟨b, off + k * 4 + 3, none⟩) hbb] at c3
      have HL := hide hl
      have OW2 := hide hown
      clear hl hown
      have hki : (0 : Int) ≤ (k : Int) := by omega
      have hkj : (k : Int) < (ls.length : Int) := by omega
      have hto := toThing_any l
      unfold thV at hto
      have HTO := hide hto
      clear hto
      go_wp2_with fail
      refine (HTO.out _).mono ?_
      rintro e w2 ⟨rfl, b2⟩
      have hown2 := owns_below OW2.out b2 (Nat.le_refl _)
      have hex : ∀ r, r < 4 → ∃ u, w2.cell? ⟨w.heap.size, k * 4 + r, none⟩ = some u := fun r hr => by
        have hj : k * 4 + r < ls.length * 4 := by omega
        rw [hown2.cellAt _ hj]
        have hln : k * 4 + r < (flat thE (part ls th0 k)).length := by rw [hown2.1]; exact hj
        exact ⟨_, List.getElem?_eq_getElem hln⟩
      obtain ⟨u0, d0⟩ := hex 0 (by omega)
      obtain ⟨u1, d1⟩ := hex 1 (by omega)
      obtain ⟨u2, d2⟩ := hex 2 (by omega)
      obtain ⟨u3, d3⟩ := hex 3 (by omega)
      rw [Nat.add_zero] at d0
      have f0 := hown2.frozenAt (k * 4)
      have f1 := hown2.frozenAt (k * 4 + 1)
      have f2 := hown2.frozenAt (k * 4 + 2)
      have f3 := hown2.frozenAt (k * 4 + 3)
      have OW3 := hide hown2
      clear hown2 hex
      go_wp2
      refine ⟨⟨k + 1, by omega, by go_num, ?_, ((((hnx.trans (b2.mono hnx.size)).setCell (Nat.le_refl _) _).setCell (Nat.le_refl _) _).setCell (Nat.le_refl _) _).setCell (Nat.le_refl _) _⟩, by simp [intOf]; omega⟩
      have h4 := ((((OW3.out.stored (k * 4) (.int .i64 l.o)).1.stored (k * 4 + 1) (.int .i64 l.k)).1.stored (k * 4 + 2) (.int .i64 l.c)).1.stored (k * 4 + 3) (.bool l.f)).1
      have e4 : ((((flat thE (part ls th0 k)).set (k * 4) (.int .i64 l.o)).set (k * 4 + 1) (.int .i64 l.k)).set (k * 4 + 2) (.int .i64 l.c)).set (k * 4 + 3) (.bool l.f) = flat thE (part ls th0 (k + 1)) := by
        rw [← part_step ls th0 l k HL.out, ← flat_set thE_len _ _ _ (by rw [part_len _ _ _ hk]; exact hlt)]
        rfl
      rw [e4] at h4
      exact h4
    · have hkn : k = ls.length := by omega
      have KN := hide hkn
      have OW2 := hide hown
      clear hkn hown
      go_wp2
      go_ret
      refine ⟨_, rfl, ?_, hnx⟩
      have h := OW2.out
      rw [KN.out, part_all] at h
      exact h
end Go.Proofs.Ytacbohnaofajaaa
