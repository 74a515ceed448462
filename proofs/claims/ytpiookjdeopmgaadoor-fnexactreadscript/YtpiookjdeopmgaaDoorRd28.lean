/-
  impl.newScript$2: its contract.
  (*impl.script).nodeWord$1: its contract.
-/
import Derived.Test.YtpiookjdeopmgaaDoorRd22
import Derived.Test.YtpiookjdeopmgaaDoorRd21
namespace Go.Proofs.YtpiookjdeopmgaaDoor
open Go.RowKit

set_option linter.unusedSimpArgs false
set_option linter.unusedVariables false

def lnkW (s : SD) (ps : List (List UInt8)) : Option SD := if numsN 4 ps = true then putLF s ⟨numI (ps.getD 0 []), numI (ps.getD 1 []), numI (ps.getD 2 []), numI (ps.getD 3 [])⟩ else none

set_option maxRecDepth 100000 in
set_option maxHeartbeats 4000000 in
theorem lnkW_any (lo sa m p1 p2 : Nat) (s : SD) (v : Value) (ps : List (List UInt8)) (v1 v2 v3 : Value) (w : World) (h : ScAt w lo sa m s v1 v2 v3) (hlo : lo ≤ w.heap.size) (hl : s.ls.length ≤ 900) (ht : s.ts.length ≤ 900) (hm : ∀ l, ∀ a t, a ≤ t → t < s.ls.length → ltL s.ls l t → ltL s.ls l a)
    (hp1 : w.heap[p1]? = some (.cells #[.pointer (some ⟨sa, 0, none⟩)] 57)) (hv : StrsAt w v ps w.heap.size) (hn : ps.length ≤ 1048576) (hps : ∀ l ∈ ps, l.length ≤ 1048576) :
    Calls Tryd.prog 52 #[v, .pointer (some ⟨p1, 0, none⟩)] w fun e w' => e = .returned (.bool (lnkW s ps).isSome) ∧ FrS lo w w' ∧ ∀ s', lnkW s ps = some s' → ScIn w' lo sa m s' := by
  obtain ⟨G, hG⟩ : ∃ G, G = lnkW s ps := ⟨_, rfl⟩
  rw [← hG]
  have G0 := hide hG
  clear hG
  have HI := hide (inums_any v ps 4 w hv hn hps)
  have HS := hide h
  have HP1 := hide hp1
  have HM := hide hm
  clear h hv hp1 hm hps
  obtain ⟨q, hq⟩ : ∃ q, q = numsN 4 ps := ⟨_, rfl⟩
  rw [← hq] at HI
  have HQ := hide hq
  clear hq
  go_enter Tryd.func52, Tryd.ntmps52
  go_wp2_with fail
  refine HI.out.mono ?_
  rintro e w2 ⟨u, rfl, hou, b2⟩
  have ST2 := hide (HS.out.below b2)
  have F2 := hide (FrS.of b2 hlo)
  have g1 := (b2.block _ (lt_of_heap HP1.out)).trans HP1.out
  clear b2
  cases q
  · have g := hide (show G = none by rw [G0.out, lnkW, ← HQ.out]; rfl)
    clear hou
    go_wp2
    refine wp_region_start (S := fun _ => True) (by kernel_rfl) 19 rfl trivial (fun ops hops hHeld => ?_)
    refine take_do 0 (oi := ?_) (v := ?_) ?_ (by rw [hops.out]; kernel_rfl) ?_ ?_ ?_ (by assumption) ?_
    rotate_left 2
    · rw [hops.out]; simp only [List.getElem?_toArray, List.getElem?_cons_succ, List.getElem?_cons_zero]; rfl
    · rw [hops.out]; kernel_rfl
    · intro W hW; (try dsimp only at hW); go_simp <;> with_reducible rfl
    · exact fun _ _ _ h => h
    try simp only [Act.put, List.setIfInBounds_toArray, List.set_cons_zero, List.set_cons_succ]
    refine take_do 1 (oi := ?_) (v := ?_) ?_ (by rw [hops.out]; kernel_rfl) ?_ ?_ ?_ (by assumption) ?_
    rotate_left 2
    · rw [hops.out]; simp only [List.getElem?_toArray, List.getElem?_cons_succ, List.getElem?_cons_zero]; rfl
    · rw [hops.out]; kernel_rfl
    · intro W hW; (try dsimp only at hW); go_simp <;> with_reducible rfl
    · exact fun _ _ _ h => h
    try simp only [Act.put, List.setIfInBounds_toArray, List.set_cons_zero, List.set_cons_succ]
    refine take_skip 2 13 (by rw [hops.out]; kernel_rfl) (by rw [hops.out]; kernel_rfl) (by rw [hops.out]; kernel_rfl) (fun _ _ _ h => h) (by assumption) ?_
    try simp only [Act.put, List.setIfInBounds_toArray, List.set_cons_zero, List.set_cons_succ]
    refine take_skip 3 14 (by rw [hops.out]; kernel_rfl) (by rw [hops.out]; kernel_rfl) (by rw [hops.out]; kernel_rfl) (fun _ _ _ h => h) (by assumption) ?_
    try simp only [Act.put, List.setIfInBounds_toArray, List.set_cons_zero, List.set_cons_succ]
    refine take_skip 4 15 (by rw [hops.out]; kernel_rfl) (by rw [hops.out]; kernel_rfl) (by rw [hops.out]; kernel_rfl) (fun _ _ _ h => h) (by assumption) ?_
    try simp only [Act.put, List.setIfInBounds_toArray, List.set_cons_zero, List.set_cons_succ]
    refine take_skip 5 16 (by rw [hops.out]; kernel_rfl) (by rw [hops.out]; kernel_rfl) (by rw [hops.out]; kernel_rfl) (fun _ _ _ h => h) (by assumption) ?_
    try simp only [Act.put, List.setIfInBounds_toArray, List.set_cons_zero, List.set_cons_succ]
    refine take_skip 6 17 (by rw [hops.out]; kernel_rfl) (by rw [hops.out]; kernel_rfl) (by rw [hops.out]; kernel_rfl) (fun _ _ _ h => h) (by assumption) ?_
    try simp only [Act.put, List.setIfInBounds_toArray, List.set_cons_zero, List.set_cons_succ]
    refine take_skip 7 18 (by rw [hops.out]; kernel_rfl) (by rw [hops.out]; kernel_rfl) (by rw [hops.out]; kernel_rfl) (fun _ _ _ h => h) (by assumption) ?_
    try simp only [Act.put, List.setIfInBounds_toArray, List.set_cons_zero, List.set_cons_succ]
    refine take_skip 8 19 (by rw [hops.out]; kernel_rfl) (by rw [hops.out]; kernel_rfl) (by rw [hops.out]; kernel_rfl) (fun _ _ _ h => h) (by assumption) ?_
    try simp only [Act.put, List.setIfInBounds_toArray, List.set_cons_zero, List.set_cons_succ]
    refine take_skip 9 20 (by rw [hops.out]; kernel_rfl) (by rw [hops.out]; kernel_rfl) (by rw [hops.out]; kernel_rfl) (fun _ _ _ h => h) (by assumption) ?_
    try simp only [Act.put, List.setIfInBounds_toArray, List.set_cons_zero, List.set_cons_succ]
    refine take_skip 10 21 (by rw [hops.out]; kernel_rfl) (by rw [hops.out]; kernel_rfl) (by rw [hops.out]; kernel_rfl) (fun _ _ _ h => h) (by assumption) ?_
    try simp only [Act.put, List.setIfInBounds_toArray, List.set_cons_zero, List.set_cons_succ]
    refine take_skip 11 22 (by rw [hops.out]; kernel_rfl) (by rw [hops.out]; kernel_rfl) (by rw [hops.out]; kernel_rfl) (fun _ _ _ h => h) (by assumption) ?_
    try simp only [Act.put, List.setIfInBounds_toArray, List.set_cons_zero, List.set_cons_succ]
    refine take_skip 12 23 (by rw [hops.out]; kernel_rfl) (by rw [hops.out]; kernel_rfl) (by rw [hops.out]; kernel_rfl) (fun _ _ _ h => h) (by assumption) ?_
    try simp only [Act.put, List.setIfInBounds_toArray, List.set_cons_zero, List.set_cons_succ]
    refine take_skip 13 24 (by rw [hops.out]; kernel_rfl) (by rw [hops.out]; kernel_rfl) (by rw [hops.out]; kernel_rfl) (fun _ _ _ h => h) (by assumption) ?_
    try simp only [Act.put, List.setIfInBounds_toArray, List.set_cons_zero, List.set_cons_succ]
    refine take_skip 14 25 (by rw [hops.out]; kernel_rfl) (by rw [hops.out]; kernel_rfl) (by rw [hops.out]; kernel_rfl) (fun _ _ _ h => h) (by assumption) ?_
    try simp only [Act.put, List.setIfInBounds_toArray, List.set_cons_zero, List.set_cons_succ]
    refine take_skip 15 26 (by rw [hops.out]; kernel_rfl) (by rw [hops.out]; kernel_rfl) (by rw [hops.out]; kernel_rfl) (fun _ _ _ h => h) (by assumption) ?_
    try simp only [Act.put, List.setIfInBounds_toArray, List.set_cons_zero, List.set_cons_succ]
    refine take_skip 16 27 (by rw [hops.out]; kernel_rfl) (by rw [hops.out]; kernel_rfl) (by rw [hops.out]; kernel_rfl) (fun _ _ _ h => h) (by assumption) ?_
    try simp only [Act.put, List.setIfInBounds_toArray, List.set_cons_zero, List.set_cons_succ]
    refine take_do 17 (oi := ?_) (v := ?_) ?_ (by rw [hops.out]; kernel_rfl) ?_ ?_ ?_ (by assumption) ?_
    rotate_left 2
    · rw [hops.out]; simp only [List.getElem?_toArray, List.getElem?_cons_succ, List.getElem?_cons_zero]; rfl
    · rw [hops.out]; kernel_rfl
    · intro W hW; (try dsimp only at hW); go_simp <;> with_reducible rfl
    · exact fun _ _ _ h => h
    try simp only [Act.put, List.setIfInBounds_toArray, List.set_cons_zero, List.set_cons_succ]
    refine take_do 18 (oi := ?_) (v := ?_) ?_ (by rw [hops.out]; kernel_rfl) ?_ ?_ ?_ (by assumption) ?_
    rotate_left 2
    · rw [hops.out]; simp only [List.getElem?_toArray, List.getElem?_cons_succ, List.getElem?_cons_zero]; rfl
    · rw [hops.out]; kernel_rfl
    · intro W hW; (try dsimp only at hW); go_simp <;> with_reducible rfl
    · exact fun _ _ _ h => h
    try simp only [Act.put, List.setIfInBounds_toArray, List.set_cons_zero, List.set_cons_succ]
    refine wpAnyH_done (by rw [hops.out]; kernel_rfl) ?_ _
    clear hops ops
    go_wp2
    go_ret
    exact ⟨by rw [g.out]; rfl, F2.out.drew, fun s' e => by rw [g.out] at e; cases e⟩
  · have hnn := HQ.out
    simp only [numsN, eq_comm (a := true), Bool.and_eq_true, decide_eq_true_eq] at hnn
    have hlen : ps.length = 4 := by have := hnn.1; omega
    have how := hou rfl
    rw [hlen] at how
    obtain ⟨y0, y1, y2, y3, rfl⟩ : ∃ y0 y1 y2 y3, ps = [y0, y1, y2, y3] := by
      match ps, hlen with
      | [y0, y1, y2, y3], _ => exact ⟨_, _, _, _, rfl⟩
    obtain ⟨z0, hz0⟩ : ∃ z, z = numI y0 := ⟨_, rfl⟩
    obtain ⟨z1, hz1⟩ : ∃ z, z = numI y1 := ⟨_, rfl⟩
    obtain ⟨z2, hz2⟩ : ∃ z, z = numI y2 := ⟨_, rfl⟩
    obtain ⟨z3, hz3⟩ : ∃ z, z = numI y3 := ⟨_, rfl⟩
    have gg := hide (show G = putLF s ⟨z0, z1, z2, z3⟩ by
      rw [G0.out, lnkW, if_pos HQ.out.symm]
      simp only [List.getD_cons_zero, List.getD_cons_succ, ← hz0, ← hz1, ← hz2, ← hz3])
    have GS := hide (congrArg Option.isSome gg.out)
    simp only [List.map_cons, List.map_nil, ← hz0, ← hz1, ← hz2, ← hz3] at how
    obtain ⟨g, gc, rfl, hg1, hgl⟩ := owns_shape how (by omega)
    have i0 := how.cellAt 0 (by omega)
    simp [intsOf] at i0
    have i1 := how.cellAt 1 (by omega)
    simp [intsOf] at i1
    have i2 := how.cellAt 2 (by omega)
    simp [intsOf] at i2
    have i3 := how.cellAt 3 (by omega)
    simp [intsOf] at i3
    have c1 := cells_at g1 0
    simp at c1
    have hc := hide ((And.intro c1 (And.intro i0 (And.intro i1 (And.intro i2 i3)))))
    clear how hou hlen hnn hz0 hz1 hz2 hz3 i0 i1 i2 i3 c1
    have ST3 := hide (ST2.out.below (show Below w2.heap.size w2 w2.drew from (Below.refl _ _).drew))
    go_wp2
    refine wp_region_noPanic ?_
    refine wp_region_startL 16 (fun W => W.cell? ⟨p1, 0, none⟩ = some (.pointer (some ⟨sa, 0, none⟩)) ∧ W.cell? ⟨g, 0, none⟩ = some (.int .i64 z0) ∧ W.cell? ⟨g, 1, none⟩ = some (.int .i64 z1) ∧ W.cell? ⟨g, 2, none⟩ = some (.int .i64 z2) ∧ W.cell? ⟨g, 3, none⟩ = some (.int .i64 z3)) (by kernel_rfl) 19 rfl (fun ops hops => ?_)
    refine takeL_do 0 (oi := ?_) (v := ?_) ?_ (by rw [hops.out]; kernel_rfl) ?_ ?_ ?_ rfl hc.out ?_
    rotate_left 2
    · rw [hops.out]; simp only [List.getElem?_toArray, List.getElem?_cons_succ, List.getElem?_cons_zero]; rfl
    · rw [hops.out]; kernel_rfl
    · intro W; go_simp <;> with_reducible rfl
    · exact fun _ _ _ h => h
    try simp only [Act.put, List.setIfInBounds_toArray, List.set_cons_zero, List.set_cons_succ]
    refine takeL_do 1 (oi := ?_) (v := ?_) ?_ (by rw [hops.out]; kernel_rfl) ?_ ?_ ?_ rfl hc.out ?_
    rotate_left 2
    · rw [hops.out]; simp only [List.getElem?_toArray, List.getElem?_cons_succ, List.getElem?_cons_zero]; rfl
    · rw [hops.out]; kernel_rfl
    · intro W; go_simp <;> with_reducible rfl
    · exact fun _ _ _ h => h
    try simp only [Act.put, List.setIfInBounds_toArray, List.set_cons_zero, List.set_cons_succ]
    refine takeL_held 2 [16] (oi := ?_) (v := ?_) ?_ (by rw [hops.out]; kernel_rfl) (by rw [hops.out]; kernel_rfl) ?_ ?_ ?_ hc.out ?_
    rotate_left 2
    · rw [hops.out]; simp only [List.getElem?_toArray, List.getElem?_cons_succ, List.getElem?_cons_zero]; rfl
    · rw [hops.out]; kernel_rfl
    · intro W hW; obtain ⟨j0, j1, j2, j3, j4⟩ := hW; go_simp <;> with_reducible rfl
    · exact fun _ _ _ h => h
    try simp only [Act.put, List.setIfInBounds_toArray, List.set_cons_zero, List.set_cons_succ]
    refine takeL_do 3 (oi := ?_) (v := ?_) ?_ (by rw [hops.out]; kernel_rfl) ?_ ?_ ?_ rfl hc.out ?_
    rotate_left 2
    · rw [hops.out]; simp only [List.getElem?_toArray, List.getElem?_cons_succ, List.getElem?_cons_zero]; rfl
    · rw [hops.out]; kernel_rfl
    · intro W; go_simp <;> with_reducible rfl
    · exact fun _ _ _ h => h
    try simp only [Act.put, List.setIfInBounds_toArray, List.set_cons_zero, List.set_cons_succ]
    refine takeL_do 4 (oi := ?_) (v := ?_) ?_ (by rw [hops.out]; kernel_rfl) ?_ ?_ ?_ rfl hc.out ?_
    rotate_left 2
    · rw [hops.out]; simp only [List.getElem?_toArray, List.getElem?_cons_succ, List.getElem?_cons_zero]; rfl
    · rw [hops.out]; kernel_rfl
    · intro W; go_simp <;> with_reducible rfl
    · exact fun _ _ _ h => h
    try simp only [Act.put, List.setIfInBounds_toArray, List.set_cons_zero, List.set_cons_succ]
    refine takeL_held 5 [15, 16] (oi := ?_) (v := ?_) ?_ (by rw [hops.out]; kernel_rfl) (by rw [hops.out]; kernel_rfl) ?_ ?_ ?_ hc.out ?_
    rotate_left 2
    · rw [hops.out]; simp only [List.getElem?_toArray, List.getElem?_cons_succ, List.getElem?_cons_zero]; rfl
    · rw [hops.out]; kernel_rfl
    · intro W hW; obtain ⟨j0, j1, j2, j3, j4⟩ := hW; go_simp <;> with_reducible rfl
    · exact fun _ _ _ h => h
    try simp only [Act.put, List.setIfInBounds_toArray, List.set_cons_zero, List.set_cons_succ]
    refine takeL_do 6 (oi := ?_) (v := ?_) ?_ (by rw [hops.out]; kernel_rfl) ?_ ?_ ?_ rfl hc.out ?_
    rotate_left 2
    · rw [hops.out]; simp only [List.getElem?_toArray, List.getElem?_cons_succ, List.getElem?_cons_zero]; rfl
    · rw [hops.out]; kernel_rfl
    · intro W; go_simp <;> with_reducible rfl
    · exact fun _ _ _ h => h
    try simp only [Act.put, List.setIfInBounds_toArray, List.set_cons_zero, List.set_cons_succ]
    refine takeL_do 7 (oi := ?_) (v := ?_) ?_ (by rw [hops.out]; kernel_rfl) ?_ ?_ ?_ rfl hc.out ?_
    rotate_left 2
    · rw [hops.out]; simp only [List.getElem?_toArray, List.getElem?_cons_succ, List.getElem?_cons_zero]; rfl
    · rw [hops.out]; kernel_rfl
    · intro W; go_simp <;> with_reducible rfl
    · exact fun _ _ _ h => h
    try simp only [Act.put, List.setIfInBounds_toArray, List.set_cons_zero, List.set_cons_succ]
    refine takeL_held 8 [15, 16] (oi := ?_) (v := ?_) ?_ (by rw [hops.out]; kernel_rfl) (by rw [hops.out]; kernel_rfl) ?_ ?_ ?_ hc.out ?_
    rotate_left 2
    · rw [hops.out]; simp only [List.getElem?_toArray, List.getElem?_cons_succ, List.getElem?_cons_zero]; rfl
    · rw [hops.out]; kernel_rfl
    · intro W hW; obtain ⟨j0, j1, j2, j3, j4⟩ := hW; go_simp <;> with_reducible rfl
    · exact fun _ _ _ h => h
    try simp only [Act.put, List.setIfInBounds_toArray, List.set_cons_zero, List.set_cons_succ]
    refine takeL_do 9 (oi := ?_) (v := ?_) ?_ (by rw [hops.out]; kernel_rfl) ?_ ?_ ?_ rfl hc.out ?_
    rotate_left 2
    · rw [hops.out]; simp only [List.getElem?_toArray, List.getElem?_cons_succ, List.getElem?_cons_zero]; rfl
    · rw [hops.out]; kernel_rfl
    · intro W; go_simp <;> with_reducible rfl
    · exact fun _ _ _ h => h
    try simp only [Act.put, List.setIfInBounds_toArray, List.set_cons_zero, List.set_cons_succ]
    refine takeL_do 10 (oi := ?_) (v := ?_) ?_ (by rw [hops.out]; kernel_rfl) ?_ ?_ ?_ rfl hc.out ?_
    rotate_left 2
    · rw [hops.out]; simp only [List.getElem?_toArray, List.getElem?_cons_succ, List.getElem?_cons_zero]; rfl
    · rw [hops.out]; kernel_rfl
    · intro W; go_simp <;> with_reducible rfl
    · exact fun _ _ _ h => h
    try simp only [Act.put, List.setIfInBounds_toArray, List.set_cons_zero, List.set_cons_succ]
    refine takeL_held 11 [15, 16] (oi := ?_) (v := ?_) ?_ (by rw [hops.out]; kernel_rfl) (by rw [hops.out]; kernel_rfl) ?_ ?_ ?_ hc.out ?_
    rotate_left 2
    · rw [hops.out]; simp only [List.getElem?_toArray, List.getElem?_cons_succ, List.getElem?_cons_zero]; rfl
    · rw [hops.out]; kernel_rfl
    · intro W hW; obtain ⟨j0, j1, j2, j3, j4⟩ := hW; go_simp <;> with_reducible rfl
    · exact fun _ _ _ h => h
    try simp only [Act.put, List.setIfInBounds_toArray, List.set_cons_zero, List.set_cons_succ]
    refine takeL_do 12 (oi := ?_) (v := ?_) ?_ (by rw [hops.out]; kernel_rfl) ?_ ?_ ?_ rfl hc.out ?_
    rotate_left 2
    · rw [hops.out]; simp only [List.getElem?_toArray, List.getElem?_cons_succ, List.getElem?_cons_zero]; rfl
    · rw [hops.out]; kernel_rfl
    · intro W; go_simp <;> with_reducible rfl
    · exact fun _ _ _ h => h
    try simp only [Act.put, List.setIfInBounds_toArray, List.set_cons_zero, List.set_cons_succ]
    refine takeL_do 13 (oi := ?_) (v := ?_) ?_ (by rw [hops.out]; kernel_rfl) ?_ ?_ ?_ rfl hc.out ?_
    rotate_left 2
    · rw [hops.out]; simp only [List.getElem?_toArray, List.getElem?_cons_succ, List.getElem?_cons_zero]; rfl
    · rw [hops.out]; kernel_rfl
    · intro W; go_simp <;> with_reducible rfl
    · exact fun _ _ _ h => h
    try simp only [Act.put, List.setIfInBounds_toArray, List.set_cons_zero, List.set_cons_succ]
    refine takeL_held 14 [15, 16] (oi := ?_) (v := ?_) ?_ (by rw [hops.out]; kernel_rfl) (by rw [hops.out]; kernel_rfl) ?_ ?_ ?_ hc.out ?_
    rotate_left 2
    · rw [hops.out]; simp only [List.getElem?_toArray, List.getElem?_cons_succ, List.getElem?_cons_zero]; rfl
    · rw [hops.out]; kernel_rfl
    · intro W hW; obtain ⟨j0, j1, j2, j3, j4⟩ := hW; go_simp <;> with_reducible rfl
    · exact fun _ _ _ h => h
    try simp only [Act.put, List.setIfInBounds_toArray, List.set_cons_zero, List.set_cons_succ]
    refine takeL_do 15 (oi := ?_) (v := ?_) ?_ (by rw [hops.out]; kernel_rfl) ?_ ?_ ?_ rfl hc.out ?_
    rotate_left 2
    · rw [hops.out]; simp only [List.getElem?_toArray, List.getElem?_cons_succ, List.getElem?_cons_zero]; rfl
    · rw [hops.out]; kernel_rfl
    · intro W; go_simp <;> with_reducible rfl
    · exact fun _ _ _ h => h
    try simp only [Act.put, List.setIfInBounds_toArray, List.set_cons_zero, List.set_cons_succ]
    refine takeL_call 16 (oi := ?_) ?_ (by rw [hops.out]; kernel_rfl) ?_ ?_
    rotate_left 1
    · rw [hops.out]; simp only [List.getElem?_toArray, List.getElem?_cons_succ, List.getElem?_cons_zero]; rfl
    · rw [hops.out]; kernel_rfl
    intro K hK
    go_simp
    refine (takeL_any lo sa m s ⟨z0, z1, z2, z3⟩ v1 v2 v3 _ ST3.out (by have := F2.out.below.size; simp; omega) (by omega) (by omega) (HM.out _)).mono ?_
    rintro e w9 ⟨rfl, F9, R9⟩
    rw [← GS.out]
    have F3 := hide (F2.out.drew.trans F9)
    have R3 := hide R9
    clear F9 R9
    refine hK.out _ _ (fun h => by simp at h) ?_
    clear hK K
    try simp only [Act.put, List.setIfInBounds_toArray, List.set_cons_zero, List.set_cons_succ]
    refine takeL_call 17 (oi := ?_) ?_ (by rw [hops.out]; kernel_rfl) ?_ ?_
    rotate_left 1
    · rw [hops.out]; simp only [List.getElem?_toArray, List.getElem?_cons_succ, List.getElem?_cons_zero]; rfl
    · rw [hops.out]; kernel_rfl
    intro K hK
    go_simp
    refine hK.out _ _ (fun h => by simp at h) ?_
    clear hK K
    try simp only [Act.put, List.setIfInBounds_toArray, List.set_cons_zero, List.set_cons_succ]
    refine takeL_call 18 (oi := ?_) ?_ (by rw [hops.out]; kernel_rfl) ?_ ?_
    rotate_left 1
    · rw [hops.out]; simp only [List.getElem?_toArray, List.getElem?_cons_succ, List.getElem?_cons_zero]; rfl
    · rw [hops.out]; kernel_rfl
    intro K hK
    go_simp
    refine hK.out _ _ (fun h => by simp at h) ?_
    clear hK K
    try simp only [Act.put, List.setIfInBounds_toArray, List.set_cons_zero, List.set_cons_succ]
    refine wpAnyL_done (by rw [hops.out]; kernel_rfl) (NoPanic.normal ?_) _
    clear hops ops
    go_wp2
    go_ret
    exact ⟨rfl, F3.out, fun s' e => R3.out s' (by rw [← gg.out]; exact e)⟩
end Go.Proofs.YtpiookjdeopmgaaDoor
namespace Go.Proofs.YtpiookjdeopmgaaDoor
open Go.RowKit

set_option linter.unusedSimpArgs false
set_option linter.unusedVariables false

def nodW (s : SD) (kd : Int) (ps : List (List UInt8)) : Option SD := if numsN 1 ps = true then putEF s ⟨kd, numI (ps.getD 0 []), 0, ⟨#[]⟩⟩ else none

set_option maxRecDepth 100000 in
set_option maxHeartbeats 4000000 in
theorem nodW_any (lo sa m p1 p2 : Nat) (s : SD) (kd : Int) (v : Value) (ps : List (List UInt8)) (v1 v2 v3 : Value) (w : World) (h : ScAt w lo sa m s v1 v2 v3) (hlo : lo ≤ w.heap.size) (hl : s.es.length ≤ 60)
    (hp1 : w.heap[p1]? = some (.cells #[.pointer (some ⟨sa, 0, none⟩)] 57)) (hp2 : w.heap[p2]? = some (.cells #[.int .i64 kd] 3)) (hv : StrsAt w v ps w.heap.size) (hn : ps.length ≤ 1048576) (hps : ∀ l ∈ ps, l.length ≤ 1048576) :
    Calls Tryd.prog 77 #[v, .pointer (some ⟨p1, 0, none⟩), .pointer (some ⟨p2, 0, none⟩)] w fun e w' => e = .returned (.bool (nodW s kd ps).isSome) ∧ FrS lo w w' ∧ ∀ s', nodW s kd ps = some s' → ScIn w' lo sa m s' := by
  obtain ⟨G, hG⟩ : ∃ G, G = nodW s kd ps := ⟨_, rfl⟩
  rw [← hG]
  have G0 := hide hG
  clear hG
  have HI := hide (inums_any v ps 1 w hv hn hps)
  have HS := hide h
  have HP1 := hide hp1
  have HP2 := hide hp2
  clear h hv hp1 hp2 hps
  obtain ⟨q, hq⟩ : ∃ q, q = numsN 1 ps := ⟨_, rfl⟩
  rw [← hq] at HI
  have HQ := hide hq
  clear hq
  go_enter Tryd.func77, Tryd.ntmps77
  go_wp2_with fail
  refine HI.out.mono ?_
  rintro e w2 ⟨u, rfl, hou, b2⟩
  have ST2 := hide (HS.out.below b2)
  have F2 := hide (FrS.of b2 hlo)
  have g1 := (b2.block _ (lt_of_heap HP1.out)).trans HP1.out
  have g2 := (b2.block _ (lt_of_heap HP2.out)).trans HP2.out
  clear b2
  cases q
  · have g := hide (show G = none by rw [G0.out, nodW, ← HQ.out]; rfl)
    clear hou
    go_wp2
    refine wp_region_start (S := fun _ => True) (by kernel_rfl) 11 rfl trivial (fun ops hops hHeld => ?_)
    refine take_do 0 (oi := ?_) (v := ?_) ?_ (by rw [hops.out]; kernel_rfl) ?_ ?_ ?_ (by assumption) ?_
    rotate_left 2
    · rw [hops.out]; simp only [List.getElem?_toArray, List.getElem?_cons_succ, List.getElem?_cons_zero]; rfl
    · rw [hops.out]; kernel_rfl
    · intro W hW; (try dsimp only at hW); go_simp <;> with_reducible rfl
    · exact fun _ _ _ h => h
    try simp only [Act.put, List.setIfInBounds_toArray, List.set_cons_zero, List.set_cons_succ]
    refine take_do 1 (oi := ?_) (v := ?_) ?_ (by rw [hops.out]; kernel_rfl) ?_ ?_ ?_ (by assumption) ?_
    rotate_left 2
    · rw [hops.out]; simp only [List.getElem?_toArray, List.getElem?_cons_succ, List.getElem?_cons_zero]; rfl
    · rw [hops.out]; kernel_rfl
    · intro W hW; (try dsimp only at hW); go_simp <;> with_reducible rfl
    · exact fun _ _ _ h => h
    try simp only [Act.put, List.setIfInBounds_toArray, List.set_cons_zero, List.set_cons_succ]
    refine take_skip 2 14 (by rw [hops.out]; kernel_rfl) (by rw [hops.out]; kernel_rfl) (by rw [hops.out]; kernel_rfl) (fun _ _ _ h => h) (by assumption) ?_
    try simp only [Act.put, List.setIfInBounds_toArray, List.set_cons_zero, List.set_cons_succ]
    refine take_skip 3 15 (by rw [hops.out]; kernel_rfl) (by rw [hops.out]; kernel_rfl) (by rw [hops.out]; kernel_rfl) (fun _ _ _ h => h) (by assumption) ?_
    try simp only [Act.put, List.setIfInBounds_toArray, List.set_cons_zero, List.set_cons_succ]
    refine take_skip 4 16 (by rw [hops.out]; kernel_rfl) (by rw [hops.out]; kernel_rfl) (by rw [hops.out]; kernel_rfl) (fun _ _ _ h => h) (by assumption) ?_
    try simp only [Act.put, List.setIfInBounds_toArray, List.set_cons_zero, List.set_cons_succ]
    refine take_skip 5 17 (by rw [hops.out]; kernel_rfl) (by rw [hops.out]; kernel_rfl) (by rw [hops.out]; kernel_rfl) (fun _ _ _ h => h) (by assumption) ?_
    try simp only [Act.put, List.setIfInBounds_toArray, List.set_cons_zero, List.set_cons_succ]
    refine take_skip 6 18 (by rw [hops.out]; kernel_rfl) (by rw [hops.out]; kernel_rfl) (by rw [hops.out]; kernel_rfl) (fun _ _ _ h => h) (by assumption) ?_
    try simp only [Act.put, List.setIfInBounds_toArray, List.set_cons_zero, List.set_cons_succ]
    refine take_skip 7 19 (by rw [hops.out]; kernel_rfl) (by rw [hops.out]; kernel_rfl) (by rw [hops.out]; kernel_rfl) (fun _ _ _ h => h) (by assumption) ?_
    try simp only [Act.put, List.setIfInBounds_toArray, List.set_cons_zero, List.set_cons_succ]
    refine take_skip 8 20 (by rw [hops.out]; kernel_rfl) (by rw [hops.out]; kernel_rfl) (by rw [hops.out]; kernel_rfl) (fun _ _ _ h => h) (by assumption) ?_
    try simp only [Act.put, List.setIfInBounds_toArray, List.set_cons_zero, List.set_cons_succ]
    refine take_do 9 (oi := ?_) (v := ?_) ?_ (by rw [hops.out]; kernel_rfl) ?_ ?_ ?_ (by assumption) ?_
    rotate_left 2
    · rw [hops.out]; simp only [List.getElem?_toArray, List.getElem?_cons_succ, List.getElem?_cons_zero]; rfl
    · rw [hops.out]; kernel_rfl
    · intro W hW; (try dsimp only at hW); go_simp <;> with_reducible rfl
    · exact fun _ _ _ h => h
    try simp only [Act.put, List.setIfInBounds_toArray, List.set_cons_zero, List.set_cons_succ]
    refine take_do 10 (oi := ?_) (v := ?_) ?_ (by rw [hops.out]; kernel_rfl) ?_ ?_ ?_ (by assumption) ?_
    rotate_left 2
    · rw [hops.out]; simp only [List.getElem?_toArray, List.getElem?_cons_succ, List.getElem?_cons_zero]; rfl
    · rw [hops.out]; kernel_rfl
    · intro W hW; (try dsimp only at hW); go_simp <;> with_reducible rfl
    · exact fun _ _ _ h => h
    try simp only [Act.put, List.setIfInBounds_toArray, List.set_cons_zero, List.set_cons_succ]
    refine wpAnyH_done (by rw [hops.out]; kernel_rfl) ?_ _
    clear hops ops
    go_wp2
    go_ret
    exact ⟨by rw [g.out]; rfl, F2.out.drew, fun s' e => by rw [g.out] at e; cases e⟩
  · have hnn := HQ.out
    simp only [numsN, eq_comm (a := true), Bool.and_eq_true, decide_eq_true_eq] at hnn
    have hlen : ps.length = 1 := by have := hnn.1; omega
    have how := hou rfl
    rw [hlen] at how
    obtain ⟨y0, rfl⟩ : ∃ y0, ps = [y0] := by
      obtain ⟨y0, e⟩ := List.length_eq_one_iff.1 hlen
      exact ⟨y0, e⟩
    obtain ⟨z0, hz0⟩ : ∃ z, z = numI y0 := ⟨_, rfl⟩
    have gg := hide (show G = putEF s ⟨kd, z0, 0, ⟨#[]⟩⟩ by
      rw [G0.out, nodW, if_pos HQ.out.symm]
      simp only [List.getD_cons_zero, List.getD_cons_succ, ← hz0])
    have GS := hide (congrArg Option.isSome gg.out)
    simp only [List.map_cons, List.map_nil, ← hz0] at how
    obtain ⟨g, gc, rfl, hg1, hgl⟩ := owns_shape how (by omega)
    have i0 := how.cellAt 0 (by omega)
    simp [intsOf] at i0
    have c1 := cells_at g1 0
    have c2 := cells_at g2 0
    simp at c1 c2
    have hc := hide ((And.intro c1 (And.intro c2 i0)))
    clear how hou hlen hnn hz0 i0 c1 c2
    have ST3 := hide (ST2.out.below (show Below w2.heap.size w2 w2.drew from (Below.refl _ _).drew))
    go_wp2
    refine wp_region_noPanic ?_
    refine wp_region_startL 8 (fun W => W.cell? ⟨p1, 0, none⟩ = some (.pointer (some ⟨sa, 0, none⟩)) ∧ W.cell? ⟨p2, 0, none⟩ = some (.int .i64 kd) ∧ W.cell? ⟨g, 0, none⟩ = some (.int .i64 z0)) (by kernel_rfl) 11 rfl (fun ops hops => ?_)
    refine takeL_do 0 (oi := ?_) (v := ?_) ?_ (by rw [hops.out]; kernel_rfl) ?_ ?_ ?_ rfl hc.out ?_
    rotate_left 2
    · rw [hops.out]; simp only [List.getElem?_toArray, List.getElem?_cons_succ, List.getElem?_cons_zero]; rfl
    · rw [hops.out]; kernel_rfl
    · intro W; go_simp <;> with_reducible rfl
    · exact fun _ _ _ h => h
    try simp only [Act.put, List.setIfInBounds_toArray, List.set_cons_zero, List.set_cons_succ]
    refine takeL_do 1 (oi := ?_) (v := ?_) ?_ (by rw [hops.out]; kernel_rfl) ?_ ?_ ?_ rfl hc.out ?_
    rotate_left 2
    · rw [hops.out]; simp only [List.getElem?_toArray, List.getElem?_cons_succ, List.getElem?_cons_zero]; rfl
    · rw [hops.out]; kernel_rfl
    · intro W; go_simp <;> with_reducible rfl
    · exact fun _ _ _ h => h
    try simp only [Act.put, List.setIfInBounds_toArray, List.set_cons_zero, List.set_cons_succ]
    refine takeL_held 2 [8] (oi := ?_) (v := ?_) ?_ (by rw [hops.out]; kernel_rfl) (by rw [hops.out]; kernel_rfl) ?_ ?_ ?_ hc.out ?_
    rotate_left 2
    · rw [hops.out]; simp only [List.getElem?_toArray, List.getElem?_cons_succ, List.getElem?_cons_zero]; rfl
    · rw [hops.out]; kernel_rfl
    · intro W hW; obtain ⟨j0, j1, j2⟩ := hW; go_simp <;> with_reducible rfl
    · exact fun _ _ _ h => h
    try simp only [Act.put, List.setIfInBounds_toArray, List.set_cons_zero, List.set_cons_succ]
    refine takeL_held 3 [7, 8] (oi := ?_) (v := ?_) ?_ (by rw [hops.out]; kernel_rfl) (by rw [hops.out]; kernel_rfl) ?_ ?_ ?_ hc.out ?_
    rotate_left 2
    · rw [hops.out]; simp only [List.getElem?_toArray, List.getElem?_cons_succ, List.getElem?_cons_zero]; rfl
    · rw [hops.out]; kernel_rfl
    · intro W hW; obtain ⟨j0, j1, j2⟩ := hW; go_simp <;> with_reducible rfl
    · exact fun _ _ _ h => h
    try simp only [Act.put, List.setIfInBounds_toArray, List.set_cons_zero, List.set_cons_succ]
    refine takeL_do 4 (oi := ?_) (v := ?_) ?_ (by rw [hops.out]; kernel_rfl) ?_ ?_ ?_ rfl hc.out ?_
    rotate_left 2
    · rw [hops.out]; simp only [List.getElem?_toArray, List.getElem?_cons_succ, List.getElem?_cons_zero]; rfl
    · rw [hops.out]; kernel_rfl
    · intro W; go_simp <;> with_reducible rfl
    · exact fun _ _ _ h => h
    try simp only [Act.put, List.setIfInBounds_toArray, List.set_cons_zero, List.set_cons_succ]
    refine takeL_do 5 (oi := ?_) (v := ?_) ?_ (by rw [hops.out]; kernel_rfl) ?_ ?_ ?_ rfl hc.out ?_
    rotate_left 2
    · rw [hops.out]; simp only [List.getElem?_toArray, List.getElem?_cons_succ, List.getElem?_cons_zero]; rfl
    · rw [hops.out]; kernel_rfl
    · intro W; go_simp <;> with_reducible rfl
    · exact fun _ _ _ h => h
    try simp only [Act.put, List.setIfInBounds_toArray, List.set_cons_zero, List.set_cons_succ]
    refine takeL_held 6 [7, 8] (oi := ?_) (v := ?_) ?_ (by rw [hops.out]; kernel_rfl) (by rw [hops.out]; kernel_rfl) ?_ ?_ ?_ hc.out ?_
    rotate_left 2
    · rw [hops.out]; simp only [List.getElem?_toArray, List.getElem?_cons_succ, List.getElem?_cons_zero]; rfl
    · rw [hops.out]; kernel_rfl
    · intro W hW; obtain ⟨j0, j1, j2⟩ := hW; go_simp <;> with_reducible rfl
    · exact fun _ _ _ h => h
    try simp only [Act.put, List.setIfInBounds_toArray, List.set_cons_zero, List.set_cons_succ]
    refine takeL_do 7 (oi := ?_) (v := ?_) ?_ (by rw [hops.out]; kernel_rfl) ?_ ?_ ?_ rfl hc.out ?_
    rotate_left 2
    · rw [hops.out]; simp only [List.getElem?_toArray, List.getElem?_cons_succ, List.getElem?_cons_zero]; rfl
    · rw [hops.out]; kernel_rfl
    · intro W; go_simp <;> with_reducible rfl
    · exact fun _ _ _ h => h
    try simp only [Act.put, List.setIfInBounds_toArray, List.set_cons_zero, List.set_cons_succ]
    refine takeL_call 8 (oi := ?_) ?_ (by rw [hops.out]; kernel_rfl) ?_ ?_
    rotate_left 1
    · rw [hops.out]; simp only [List.getElem?_toArray, List.getElem?_cons_succ, List.getElem?_cons_zero]; rfl
    · rw [hops.out]; kernel_rfl
    intro K hK
    go_simp
    refine (takeE_any lo sa m s ⟨kd, z0, 0, ⟨#[]⟩⟩ v1 v2 v3 _ ST3.out (by have := F2.out.below.size; simp; omega) (by omega)).mono ?_
    rintro e w9 ⟨rfl, F9, R9⟩
    rw [← GS.out]
    have F3 := hide (F2.out.drew.trans F9)
    have R3 := hide R9
    clear F9 R9
    refine hK.out _ _ (fun h => by simp at h) ?_
    clear hK K
    try simp only [Act.put, List.setIfInBounds_toArray, List.set_cons_zero, List.set_cons_succ]
    refine takeL_call 9 (oi := ?_) ?_ (by rw [hops.out]; kernel_rfl) ?_ ?_
    rotate_left 1
    · rw [hops.out]; simp only [List.getElem?_toArray, List.getElem?_cons_succ, List.getElem?_cons_zero]; rfl
    · rw [hops.out]; kernel_rfl
    intro K hK
    go_simp
    refine hK.out _ _ (fun h => by simp at h) ?_
    clear hK K
    try simp only [Act.put, List.setIfInBounds_toArray, List.set_cons_zero, List.set_cons_succ]
    refine takeL_call 10 (oi := ?_) ?_ (by rw [hops.out]; kernel_rfl) ?_ ?_
    rotate_left 1
    · rw [hops.out]; simp only [List.getElem?_toArray, List.getElem?_cons_succ, List.getElem?_cons_zero]; rfl
    · rw [hops.out]; kernel_rfl
    intro K hK
    go_simp
    refine hK.out _ _ (fun h => by simp at h) ?_
    clear hK K
    try simp only [Act.put, List.setIfInBounds_toArray, List.set_cons_zero, List.set_cons_succ]
    refine wpAnyL_done (by rw [hops.out]; kernel_rfl) (NoPanic.normal ?_) _
    clear hops ops
    go_wp2
    go_ret
    exact ⟨rfl, F3.out, fun s' e => R3.out s' (by rw [← gg.out]; exact e)⟩
end Go.Proofs.YtpiookjdeopmgaaDoor
