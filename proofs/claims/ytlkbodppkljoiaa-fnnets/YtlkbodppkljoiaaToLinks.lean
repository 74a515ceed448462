/-
  laws.toLinkS, toThingS: copies in new rows.
-/
import Derived.Test.YtlkbodppkljoiaaRowAt
import Derived.OwnWalk
import Derived.Test.YtlkbodppkljoiaaCostS
namespace Go.Proofs.Ytlkbodppkljoiaa
open Go.RowKit

def lk0 : Lk := ⟨0, 0, 0, 0⟩

theorem Try.infoLk : (Try.prog.info? 39).map (fun i => (i.zero, i.size, i.bytes)) = some (some (lkV lk0), 4, 32) := by kernel_rfl

/-- 'make([]T, n)' of structs -/
theorem wpList_make_structs {α : Type} {enc : α → List Value} {sz : Nat} (hsz : ∀ a, (enc a).length = sz) (hpos : 0 < sz) {P : Program} (w : World) {ops : Array Oper} {rest : List Oper} {o : Oper} {a : Act} {Q : Exit → Act → World → Prop}
    (hg : o.guard = none) (l c : Operand) (t : TypeId) (hop : o.op = Op.makeSlice t l c) (base : Nat) (e : TypeId) (i : TypeInfo) (z : Value) (x : α) (hz : z.cells.toList = enc x)
    (h1 : P.underlying t = some (.slice e)) (h2 : P.info? e = some i) (h3 : i.zero = some z) (h4 : i.size = sz) (n : Nat) (hl : a.eval l = .int .i64 (n : Int)) (hc : a.eval c = .int .i64 (n : Int)) (b2 : i.bytes * n ≤ 281474976710656) (b3 : n ≤ maxLen) (b4 : base ≤ w.heap.size)
    (hK : ∀ w', w'.ownsRow base e sz (.slice (some ⟨w.heap.size, 0, none⟩) n n) n (flat enc (List.replicate n x)) → w.grownBy w' none → wpList P ops Q rest (a.put o.dst (.slice (some ⟨w.heap.size, 0, none⟩) n n)) w') :
    wpList P ops Q (o :: rest) a w :=
  wpList_make_full w hg l c t hop base e i z sz h1 h2 h3 h4 .i64 .i64 (n : Int) (n : Int) n hl hc rfl rfl b2 b3 b4 (fun w' k1 k2 => hK w' (by rw [← made_flat hsz z.cells x hz hpos]; exact k1) k2)

/-- k of them copied -/
def part {α : Type} (xs : List α) (z : α) (k : Nat) : List α := xs.take k ++ List.replicate (xs.length - k) z

theorem part_len {α : Type} (xs : List α) (z : α) (k : Nat) (h : k ≤ xs.length) : (part xs z k).length = xs.length := by simp [part]; omega

theorem part_step {α : Type} (xs : List α) (z x : α) (k : Nat) (h : xs[k]? = some x) : (part xs z k).set k x = part xs z (k + 1) := by
  obtain ⟨hk, e⟩ := List.getElem?_eq_some_iff.1 h
  unfold part
  rw [List.set_append_right _ _ (by simp; omega), List.length_take, Nat.min_eq_left (by omega), Nat.sub_self]
  have e2 : xs.length - k = (xs.length - (k + 1)) + 1 := by omega
  rw [e2, List.replicate_succ, List.set_cons_zero, List.take_succ_eq_append_getElem hk, e]
  simp

theorem part_all {α : Type} (xs : List α) (z : α) : part xs z xs.length = xs := by simp [part]

set_option maxRecDepth 100000 in
set_option maxHeartbeats 1000000 in
theorem toLinkS_any (v : Value) (ls : List Lk) (w : World) (hls : ls.length ≤ 1048576) (hv : LinksAt w v ls w.heap.size) :
    Calls Try.prog 38 #[v] w fun e w' => ∃ x, e = .returned x ∧ w'.ownsRow w.heap.size 39 4 x ls.length (flat lkE ls) ∧ Below w.heap.size w w' := by
  obtain ⟨a, cap, rfl⟩ := hv.shape
  have HV := hide hv
  clear hv
  obtain ⟨i0, hi, hz0, hz1, hz2⟩ := info_parts Try.infoLk
  have HI := hide hi
  have HZ := hide hz0
  clear hi hz0
  go_enter Try.func38, Try.ntmps38
  go_wp2_with (first
    | (refine wpList_make_structs lkE_len (by omega) _ rfl _ _ 24 rfl w.heap.size 39 i0 (lkV lk0) lk0 rfl Try.underlying24 HI.out HZ.out hz1 ls.length rfl rfl (by rw [hz2]; omega) (by unfold maxLen; omega) (Nat.le_refl _) ?_))
  intro w1 hown hg
  have b1 : Below w.heap.size w w1 := (Below.refl _ _).grown hg (Nat.le_refl _) (fun k hk => by simp at hk)
  have hg1 : w.heap.size < w1.heap.size := by
    rcases hown.2 with ⟨h0, _⟩ | ⟨g, cp, cur, hv, _, hh, _⟩
    · cases h0
    · cases hv; exact lt_of_heap hh
  have OW := hide hown
  clear hown hg
  go_wp2
  go_loopw [4] (fun i wr => ∃ k : Nat, k ≤ ls.length ∧ i = .int .i64 k ∧ wr.ownsRow w.heap.size 39 4 (.slice (some ⟨w.heap.size, 0, none⟩) ls.length ls.length) ls.length (flat lkE (part ls lk0 k)) ∧ Below w.heap.size w wr) (fun i _ => ls.length - (intOf i).toNat)
  case atStart => exact ⟨0, by omega, rfl, (by simpa [part] using OW.out), b1⟩
  case round =>
    obtain ⟨k, hk, rfl, hown, hnx⟩ := hrel
    by_cases hlt : k < ls.length
    · obtain ⟨l, hl⟩ : ∃ l, ls[k]? = some l := ⟨ls[k], List.getElem?_eq_getElem hlt⟩
      obtain ⟨b, off, cap', hve, hbb, c0, c1, c2, c3⟩ := HV.out.cells k l hl
      cases hve
      rw [← hnx.cell (p := ⟨b, off + k * 4, none⟩) hbb] at c0
      rw [← hnx.cell (p := ⟨b, off + k * 4 + 1, none⟩) hbb] at c1
      rw [← hnx.cell (p := ⟨b, off + k * 4 + 2, none⟩) hbb] at c2
      rw [← hnx.cell (p := ⟨b, off + k * 4 + 3, none⟩) hbb] at c3
      have HL := hide hl
      have OW2 := hide hown
      clear hl hown
      have hki : (0 : Int) ≤ (k : Int) := by omega
      have hkj : (k : Int) < (ls.length : Int) := by omega
      have hto := toLink_any l
      unfold lkV at hto
      have HTO := hide hto
      clear hto
      go_wp2_with fail
      refine (HTO.out _).mono ?_
      rintro e w2 ⟨rfl, b2⟩
      have hown2 := owns_below OW2.out b2 (Nat.le_refl _)
      have hex : ∀ r, r < 4 → ∃ u, w2.cell? ⟨w.heap.size, k * 4 + r, none⟩ = some u := fun r hr => by
        have hj : k * 4 + r < ls.length * 4 := by omega
        rw [hown2.cellAt _ hj]
        have hln : k * 4 + r < (flat lkE (part ls lk0 k)).length := by rw [hown2.1]; exact hj
        exact ⟨_, List.getElem?_eq_getElem hln⟩
      obtain ⟨u0, d0⟩ := hex 0 (by omega)
      obtain ⟨u1, d1⟩ := hex 1 (by omega)
      obtain ⟨u2, d2⟩ := hex 2 (by omega)
      obtain ⟨u3, d3⟩ := hex 3 (by omega)
      rw [Nat.add_zero] at d0
      have f0 := hown2.frozenAt (k * 4)
      have f1 := hown2.frozenAt (k * 4 + 1)
      have f2 := hown2.frozenAt (k * 4 + 2)
      have f3 := hown2.frozenAt (k * 4 + 3)
      have OW3 := hide hown2
      clear hown2 hex
      go_wp2
      refine ⟨⟨k + 1, by omega, by go_num, ?_, ((((hnx.trans (b2.mono hnx.size)).setCell (Nat.le_refl _) _).setCell (Nat.le_refl _) _).setCell (Nat.le_refl _) _).setCell (Nat.le_refl _) _⟩, by simp [intOf]; omega⟩
      have h4 := ((((OW3.out.stored (k * 4) (.int .i64 l.a)).1.stored (k * 4 + 1) (.int .i64 l.b)).1.stored (k * 4 + 2) (.int .i64 l.c)).1.stored (k * 4 + 3) (.int .i64 l.r)).1
      have e4 : ((((flat lkE (part ls lk0 k)).set (k * 4) (.int .i64 l.a)).set (k * 4 + 1) (.int .i64 l.b)).set (k * 4 + 2) (.int .i64 l.c)).set (k * 4 + 3) (.int .i64 l.r) = flat lkE (part ls lk0 (k + 1)) := by
        rw [← part_step ls lk0 l k HL.out, ← flat_set lkE_len _ _ _ (by rw [part_len _ _ _ hk]; exact hlt)]
        rfl
      rw [e4] at h4
      exact h4
    · have hkn : k = ls.length := by omega
      have KN := hide hkn
      have OW2 := hide hown
      clear hkn hown
      go_wp2
      go_ret
      refine ⟨_, rfl, ?_, hnx⟩
      have h := OW2.out
      rw [KN.out, part_all] at h
      exact h
def th0 : Th := ⟨0, 0, 0, false⟩

theorem Try.infoTh : (Try.prog.info? 68).map (fun i => (i.zero, i.size, i.bytes)) = some (some (thV th0), 4, 32) := by kernel_rfl

set_option maxRecDepth 100000 in
set_option maxHeartbeats 1000000 in
theorem toThingS_any (v : Value) (ls : List Th) (w : World) (hls : ls.length ≤ 1048576) (hv : ThingsAt w v ls w.heap.size) :
    Calls Try.prog 39 #[v] w fun e w' => ∃ x, e = .returned x ∧ w'.ownsRow w.heap.size 68 4 x ls.length (flat thE ls) ∧ Below w.heap.size w w' := by
  obtain ⟨a, cap, rfl⟩ := hv.shape
  have HV := hide hv
  clear hv
  obtain ⟨i0, hi, hz0, hz1, hz2⟩ := info_parts Try.infoTh
  have HI := hide hi
  have HZ := hide hz0
  clear hi hz0
  go_enter Try.func39, Try.ntmps39
  go_wp2_with (first
    | (refine wpList_make_structs thE_len (by omega) _ rfl _ _ 25 rfl w.heap.size 68 i0 (thV th0) th0 rfl Try.underlying25 HI.out HZ.out hz1 ls.length rfl rfl (by rw [hz2]; omega) (by unfold maxLen; omega) (Nat.le_refl _) ?_))
  intro w1 hown hg
  have b1 : Below w.heap.size w w1 := (Below.refl _ _).grown hg (Nat.le_refl _) (fun k hk => by simp at hk)
  have hg1 : w.heap.size < w1.heap.size := by
    rcases hown.2 with ⟨h0, _⟩ | ⟨g, cp, cur, hv, _, hh, _⟩
    · cases h0
    · cases hv; exact lt_of_heap hh
  have OW := hide hown
  clear hown hg
  go_wp2
  go_loopw [4] (fun i wr => ∃ k : Nat, k ≤ ls.length ∧ i = .int .i64 k ∧ wr.ownsRow w.heap.size 68 4 (.slice (some ⟨w.heap.size, 0, none⟩) ls.length ls.length) ls.length (flat thE (part ls th0 k)) ∧ Below w.heap.size w wr) (fun i _ => ls.length - (intOf i).toNat)
  case atStart => exact ⟨0, by omega, rfl, (by simpa [part] using OW.out), b1⟩
  case round =>
    obtain ⟨k, hk, rfl, hown, hnx⟩ := hrel
    by_cases hlt : k < ls.length
    · obtain ⟨l, hl⟩ : ∃ l, ls[k]? = some l := ⟨ls[k], List.getElem?_eq_getElem hlt⟩
      obtain ⟨b, off, cap', hve, hbb, c0, c1, c2, c3⟩ := HV.out.cells k l hl
      cases hve
      rw [← hnx.cell (p := ⟨b, off + k * 4, none⟩) hbb] at c0
      rw [← hnx.cell (p := ⟨b, off + k * 4 + 1, none⟩) hbb] at c1
      rw [← hnx.cell (p := ⟨b, off + k * 4 + 2, none⟩) hbb] at c2
      rw [← hnx.cell (p := ⟨b, off + k * 4 + 3, none⟩) hbb] at c3
      have HL := hide hl
      have OW2 := hide hown
      clear hl hown
      have hki : (0 : Int) ≤ (k : Int) := by omega
      have hkj : (k : Int) < (ls.length : Int) := by omega
      have hto := toThing_any l
      unfold thV at hto
      have HTO := hide hto
      clear hto
      go_wp2_with fail
      refine (HTO.out _).mono ?_
      rintro e w2 ⟨rfl, b2⟩
      have hown2 := owns_below OW2.out b2 (Nat.le_refl _)
      have hex : ∀ r, r < 4 → ∃ u, w2.cell? ⟨w.heap.size, k * 4 + r, none⟩ = some u := fun r hr => by
        have hj : k * 4 + r < ls.length * 4 := by omega
        rw [hown2.cellAt _ hj]
        have hln : k * 4 + r < (flat thE (part ls th0 k)).length := by rw [hown2.1]; exact hj
        exact ⟨_, List.getElem?_eq_getElem hln⟩
      obtain ⟨u0, d0⟩ := hex 0 (by omega)
      obtain ⟨u1, d1⟩ := hex 1 (by omega)
      obtain ⟨u2, d2⟩ := hex 2 (by omega)
      obtain ⟨u3, d3⟩ := hex 3 (by omega)
      rw [Nat.add_zero] at d0
      have f0 := hown2.frozenAt (k * 4)
      have f1 := hown2.frozenAt (k * 4 + 1)
      have f2 := hown2.frozenAt (k * 4 + 2)
      have f3 := hown2.frozenAt (k * 4 + 3)
      have OW3 := hide hown2
      clear hown2 hex
      go_wp2
      refine ⟨⟨k + 1, by omega, by go_num, ?_, ((((hnx.trans (b2.mono hnx.size)).setCell (Nat.le_refl _) _).setCell (Nat.le_refl _) _).setCell (Nat.le_refl _) _).setCell (Nat.le_refl _) _⟩, by simp [intOf]; omega⟩
      have h4 := ((((OW3.out.stored (k * 4) (.int .i64 l.o)).1.stored (k * 4 + 1) (.int .i64 l.k)).1.stored (k * 4 + 2) (.int .i64 l.c)).1.stored (k * 4 + 3) (.bool l.f)).1
      have e4 : ((((flat thE (part ls th0 k)).set (k * 4) (.int .i64 l.o)).set (k * 4 + 1) (.int .i64 l.k)).set (k * 4 + 2) (.int .i64 l.c)).set (k * 4 + 3) (.bool l.f) = flat thE (part ls th0 (k + 1)) := by
        rw [← part_step ls th0 l k HL.out, ← flat_set thE_len _ _ _ (by rw [part_len _ _ _ hk]; exact hlt)]
        rfl
      rw [e4] at h4
      exact h4
    · have hkn : k = ls.length := by omega
      have KN := hide hkn
      have OW2 := hide hown
      clear hkn hown
      go_wp2
      go_ret
      refine ⟨_, rfl, ?_, hnx⟩
      have h := OW2.out
      rw [KN.out, part_all] at h
      exact h
end Go.Proofs.Ytlkbodppkljoiaa
