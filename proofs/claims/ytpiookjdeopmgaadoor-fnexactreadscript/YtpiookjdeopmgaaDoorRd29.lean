/-
  (*impl.script).thingWord$1: its contract.
-/
import Derived.Test.YtpiookjdeopmgaaDoorRd22
namespace Go.Proofs.YtpiookjdeopmgaaDoor
open Go.RowKit

set_option linter.unusedSimpArgs false
set_option linter.unusedVariables false

def thgW (s : SD) (far : Bool) (ps : List (List UInt8)) : Option SD := if numsN 3 ps = true then putTF s ⟨numI (ps.getD 0 []), numI (ps.getD 1 []), numI (ps.getD 2 []), far⟩ else none

set_option maxRecDepth 100000 in
set_option maxHeartbeats 4000000 in
theorem thgW_any (lo sa m p1 p2 : Nat) (s : SD) (far : Bool) (v : Value) (ps : List (List UInt8)) (v1 v2 v3 : Value) (w : World) (h : ScAt w lo sa m s v1 v2 v3) (hlo : lo ≤ w.heap.size) (hl : s.ls.length ≤ 900) (ht : s.ts.length ≤ 900) (hm : ∀ l, ∀ a t, a ≤ t → t < s.ts.length → ltT s.ts l t → ltT s.ts l a)
    (hp1 : w.heap[p1]? = some (.cells #[.pointer (some ⟨sa, 0, none⟩)] 57)) (hp2 : w.heap[p2]? = some (.cells #[.bool far] 4)) (hv : StrsAt w v ps w.heap.size) (hn : ps.length ≤ 1048576) (hps : ∀ l ∈ ps, l.length ≤ 1048576) :
    Calls Tryd.prog 75 #[v, .pointer (some ⟨p1, 0, none⟩), .pointer (some ⟨p2, 0, none⟩)] w fun e w' => e = .returned (.bool (thgW s far ps).isSome) ∧ FrS lo w w' ∧ ∀ s', thgW s far ps = some s' → ScIn w' lo sa m s' := by
  obtain ⟨G, hG⟩ : ∃ G, G = thgW s far ps := ⟨_, rfl⟩
  rw [← hG]
  have G0 := hide hG
  clear hG
  have HI := hide (inums_any v ps 3 w hv hn hps)
  have HS := hide h
  have HP1 := hide hp1
  have HP2 := hide hp2
  have HM := hide hm
  clear h hv hp1 hp2 hm hps
  obtain ⟨q, hq⟩ : ∃ q, q = numsN 3 ps := ⟨_, rfl⟩
  rw [← hq] at HI
  have HQ := hide hq
  clear hq
  go_enter Tryd.func75, Tryd.ntmps75
  go_wp2_with fail
  refine HI.out.mono ?_
  rintro e w2 ⟨u, rfl, hou, b2⟩
  have ST2 := hide (HS.out.below b2)
  have F2 := hide (FrS.of b2 hlo)
  have g1 := (b2.block _ (lt_of_heap HP1.out)).trans HP1.out
  have g2 := (b2.block _ (lt_of_heap HP2.out)).trans HP2.out
  clear b2
  cases q
  · have g := hide (show G = none by rw [G0.out, thgW, ← HQ.out]; rfl)
    clear hou
    go_wp2
    refine wp_region_start (S := fun _ => True) (by kernel_rfl) 17 rfl trivial (fun ops hops hHeld => ?_)
    refine take_do 0 (oi := ?_) (v := ?_) ?_ (by rw [hops.out]; kernel_rfl) ?_ ?_ ?_ (by assumption) ?_
    rotate_left 2
    · rw [hops.out]; simp only [List.getElem?_toArray, List.getElem?_cons_succ, List.getElem?_cons_zero]; rfl
    · rw [hops.out]; kernel_rfl
    · intro W hW; (try dsimp only at hW); go_simp <;> with_reducible rfl
    · exact fun _ _ _ h => h
    try simp only [Act.put, List.setIfInBounds_toArray, List.set_cons_zero, List.set_cons_succ]
    refine take_do 1 (oi := ?_) (v := ?_) ?_ (by rw [hops.out]; kernel_rfl) ?_ ?_ ?_ (by assumption) ?_
    rotate_left 2
    · rw [hops.out]; simp only [List.getElem?_toArray, List.getElem?_cons_succ, List.getElem?_cons_zero]; rfl
    · rw [hops.out]; kernel_rfl
    · intro W hW; (try dsimp only at hW); go_simp <;> with_reducible rfl
    · exact fun _ _ _ h => h
    try simp only [Act.put, List.setIfInBounds_toArray, List.set_cons_zero, List.set_cons_succ]
    refine take_skip 2 14 (by rw [hops.out]; kernel_rfl) (by rw [hops.out]; kernel_rfl) (by rw [hops.out]; kernel_rfl) (fun _ _ _ h => h) (by assumption) ?_
    try simp only [Act.put, List.setIfInBounds_toArray, List.set_cons_zero, List.set_cons_succ]
    refine take_skip 3 15 (by rw [hops.out]; kernel_rfl) (by rw [hops.out]; kernel_rfl) (by rw [hops.out]; kernel_rfl) (fun _ _ _ h => h) (by assumption) ?_
    try simp only [Act.put, List.setIfInBounds_toArray, List.set_cons_zero, List.set_cons_succ]
    refine take_skip 4 16 (by rw [hops.out]; kernel_rfl) (by rw [hops.out]; kernel_rfl) (by rw [hops.out]; kernel_rfl) (fun _ _ _ h => h) (by assumption) ?_
    try simp only [Act.put, List.setIfInBounds_toArray, List.set_cons_zero, List.set_cons_succ]
    refine take_skip 5 17 (by rw [hops.out]; kernel_rfl) (by rw [hops.out]; kernel_rfl) (by rw [hops.out]; kernel_rfl) (fun _ _ _ h => h) (by assumption) ?_
    try simp only [Act.put, List.setIfInBounds_toArray, List.set_cons_zero, List.set_cons_succ]
    refine take_skip 6 18 (by rw [hops.out]; kernel_rfl) (by rw [hops.out]; kernel_rfl) (by rw [hops.out]; kernel_rfl) (fun _ _ _ h => h) (by assumption) ?_
    try simp only [Act.put, List.setIfInBounds_toArray, List.set_cons_zero, List.set_cons_succ]
    refine take_skip 7 19 (by rw [hops.out]; kernel_rfl) (by rw [hops.out]; kernel_rfl) (by rw [hops.out]; kernel_rfl) (fun _ _ _ h => h) (by assumption) ?_
    try simp only [Act.put, List.setIfInBounds_toArray, List.set_cons_zero, List.set_cons_succ]
    refine take_skip 8 20 (by rw [hops.out]; kernel_rfl) (by rw [hops.out]; kernel_rfl) (by rw [hops.out]; kernel_rfl) (fun _ _ _ h => h) (by assumption) ?_
    try simp only [Act.put, List.setIfInBounds_toArray, List.set_cons_zero, List.set_cons_succ]
    refine take_skip 9 21 (by rw [hops.out]; kernel_rfl) (by rw [hops.out]; kernel_rfl) (by rw [hops.out]; kernel_rfl) (fun _ _ _ h => h) (by assumption) ?_
    try simp only [Act.put, List.setIfInBounds_toArray, List.set_cons_zero, List.set_cons_succ]
    refine take_skip 10 22 (by rw [hops.out]; kernel_rfl) (by rw [hops.out]; kernel_rfl) (by rw [hops.out]; kernel_rfl) (fun _ _ _ h => h) (by assumption) ?_
    try simp only [Act.put, List.setIfInBounds_toArray, List.set_cons_zero, List.set_cons_succ]
    refine take_skip 11 23 (by rw [hops.out]; kernel_rfl) (by rw [hops.out]; kernel_rfl) (by rw [hops.out]; kernel_rfl) (fun _ _ _ h => h) (by assumption) ?_
    try simp only [Act.put, List.setIfInBounds_toArray, List.set_cons_zero, List.set_cons_succ]
    refine take_skip 12 24 (by rw [hops.out]; kernel_rfl) (by rw [hops.out]; kernel_rfl) (by rw [hops.out]; kernel_rfl) (fun _ _ _ h => h) (by assumption) ?_
    try simp only [Act.put, List.setIfInBounds_toArray, List.set_cons_zero, List.set_cons_succ]
    refine take_skip 13 25 (by rw [hops.out]; kernel_rfl) (by rw [hops.out]; kernel_rfl) (by rw [hops.out]; kernel_rfl) (fun _ _ _ h => h) (by assumption) ?_
    try simp only [Act.put, List.setIfInBounds_toArray, List.set_cons_zero, List.set_cons_succ]
    refine take_skip 14 26 (by rw [hops.out]; kernel_rfl) (by rw [hops.out]; kernel_rfl) (by rw [hops.out]; kernel_rfl) (fun _ _ _ h => h) (by assumption) ?_
    try simp only [Act.put, List.setIfInBounds_toArray, List.set_cons_zero, List.set_cons_succ]
    refine take_do 15 (oi := ?_) (v := ?_) ?_ (by rw [hops.out]; kernel_rfl) ?_ ?_ ?_ (by assumption) ?_
    rotate_left 2
    · rw [hops.out]; simp only [List.getElem?_toArray, List.getElem?_cons_succ, List.getElem?_cons_zero]; rfl
    · rw [hops.out]; kernel_rfl
    · intro W hW; (try dsimp only at hW); go_simp <;> with_reducible rfl
    · exact fun _ _ _ h => h
    try simp only [Act.put, List.setIfInBounds_toArray, List.set_cons_zero, List.set_cons_succ]
    refine take_do 16 (oi := ?_) (v := ?_) ?_ (by rw [hops.out]; kernel_rfl) ?_ ?_ ?_ (by assumption) ?_
    rotate_left 2
    · rw [hops.out]; simp only [List.getElem?_toArray, List.getElem?_cons_succ, List.getElem?_cons_zero]; rfl
    · rw [hops.out]; kernel_rfl
    · intro W hW; (try dsimp only at hW); go_simp <;> with_reducible rfl
    · exact fun _ _ _ h => h
    try simp only [Act.put, List.setIfInBounds_toArray, List.set_cons_zero, List.set_cons_succ]
    refine wpAnyH_done (by rw [hops.out]; kernel_rfl) ?_ _
    clear hops ops
    go_wp2
    go_ret
    exact ⟨by rw [g.out]; rfl, F2.out.drew, fun s' e => by rw [g.out] at e; cases e⟩
  · have hnn := HQ.out
    simp only [numsN, eq_comm (a := true), Bool.and_eq_true, decide_eq_true_eq] at hnn
    have hlen : ps.length = 3 := by have := hnn.1; omega
    have how := hou rfl
    rw [hlen] at how
    obtain ⟨y0, y1, y2, rfl⟩ : ∃ y0 y1 y2, ps = [y0, y1, y2] := by
      match ps, hlen with
      | [y0, y1, y2], _ => exact ⟨_, _, _, rfl⟩
    obtain ⟨z0, hz0⟩ : ∃ z, z = numI y0 := ⟨_, rfl⟩
    obtain ⟨z1, hz1⟩ : ∃ z, z = numI y1 := ⟨_, rfl⟩
    obtain ⟨z2, hz2⟩ : ∃ z, z = numI y2 := ⟨_, rfl⟩
    have gg := hide (show G = putTF s ⟨z0, z1, z2, far⟩ by
      rw [G0.out, thgW, if_pos HQ.out.symm]
      simp only [List.getD_cons_zero, List.getD_cons_succ, ← hz0, ← hz1, ← hz2])
    have GS := hide (congrArg Option.isSome gg.out)
    simp only [List.map_cons, List.map_nil, ← hz0, ← hz1, ← hz2] at how
    obtain ⟨g, gc, rfl, hg1, hgl⟩ := owns_shape how (by omega)
    have i0 := how.cellAt 0 (by omega)
    simp [intsOf] at i0
    have i1 := how.cellAt 1 (by omega)
    simp [intsOf] at i1
    have i2 := how.cellAt 2 (by omega)
    simp [intsOf] at i2
    have c1 := cells_at g1 0
    have c2 := cells_at g2 0
    simp at c1 c2
    have hc := hide ((And.intro c1 (And.intro c2 (And.intro i0 (And.intro i1 i2)))))
    clear how hou hlen hnn hz0 hz1 hz2 i0 i1 i2 c1 c2
    have ST3 := hide (ST2.out.below (show Below w2.heap.size w2 w2.drew from (Below.refl _ _).drew))
    go_wp2
    refine wp_region_noPanic ?_
    refine wp_region_startL 14 (fun W => W.cell? ⟨p1, 0, none⟩ = some (.pointer (some ⟨sa, 0, none⟩)) ∧ W.cell? ⟨p2, 0, none⟩ = some (.bool far) ∧ W.cell? ⟨g, 0, none⟩ = some (.int .i64 z0) ∧ W.cell? ⟨g, 1, none⟩ = some (.int .i64 z1) ∧ W.cell? ⟨g, 2, none⟩ = some (.int .i64 z2)) (by kernel_rfl) 17 rfl (fun ops hops => ?_)
    refine takeL_do 0 (oi := ?_) (v := ?_) ?_ (by rw [hops.out]; kernel_rfl) ?_ ?_ ?_ rfl hc.out ?_
    rotate_left 2
    · rw [hops.out]; simp only [List.getElem?_toArray, List.getElem?_cons_succ, List.getElem?_cons_zero]; rfl
    · rw [hops.out]; kernel_rfl
    · intro W; go_simp <;> with_reducible rfl
    · exact fun _ _ _ h => h
    try simp only [Act.put, List.setIfInBounds_toArray, List.set_cons_zero, List.set_cons_succ]
    refine takeL_do 1 (oi := ?_) (v := ?_) ?_ (by rw [hops.out]; kernel_rfl) ?_ ?_ ?_ rfl hc.out ?_
    rotate_left 2
    · rw [hops.out]; simp only [List.getElem?_toArray, List.getElem?_cons_succ, List.getElem?_cons_zero]; rfl
    · rw [hops.out]; kernel_rfl
    · intro W; go_simp <;> with_reducible rfl
    · exact fun _ _ _ h => h
    try simp only [Act.put, List.setIfInBounds_toArray, List.set_cons_zero, List.set_cons_succ]
    refine takeL_held 2 [14] (oi := ?_) (v := ?_) ?_ (by rw [hops.out]; kernel_rfl) (by rw [hops.out]; kernel_rfl) ?_ ?_ ?_ hc.out ?_
    rotate_left 2
    · rw [hops.out]; simp only [List.getElem?_toArray, List.getElem?_cons_succ, List.getElem?_cons_zero]; rfl
    · rw [hops.out]; kernel_rfl
    · intro W hW; obtain ⟨j0, j1, j2, j3, j4⟩ := hW; go_simp <;> with_reducible rfl
    · exact fun _ _ _ h => h
    try simp only [Act.put, List.setIfInBounds_toArray, List.set_cons_zero, List.set_cons_succ]
    refine takeL_do 3 (oi := ?_) (v := ?_) ?_ (by rw [hops.out]; kernel_rfl) ?_ ?_ ?_ rfl hc.out ?_
    rotate_left 2
    · rw [hops.out]; simp only [List.getElem?_toArray, List.getElem?_cons_succ, List.getElem?_cons_zero]; rfl
    · rw [hops.out]; kernel_rfl
    · intro W; go_simp <;> with_reducible rfl
    · exact fun _ _ _ h => h
    try simp only [Act.put, List.setIfInBounds_toArray, List.set_cons_zero, List.set_cons_succ]
    refine takeL_do 4 (oi := ?_) (v := ?_) ?_ (by rw [hops.out]; kernel_rfl) ?_ ?_ ?_ rfl hc.out ?_
    rotate_left 2
    · rw [hops.out]; simp only [List.getElem?_toArray, List.getElem?_cons_succ, List.getElem?_cons_zero]; rfl
    · rw [hops.out]; kernel_rfl
    · intro W; go_simp <;> with_reducible rfl
    · exact fun _ _ _ h => h
    try simp only [Act.put, List.setIfInBounds_toArray, List.set_cons_zero, List.set_cons_succ]
    refine takeL_held 5 [13, 14] (oi := ?_) (v := ?_) ?_ (by rw [hops.out]; kernel_rfl) (by rw [hops.out]; kernel_rfl) ?_ ?_ ?_ hc.out ?_
    rotate_left 2
    · rw [hops.out]; simp only [List.getElem?_toArray, List.getElem?_cons_succ, List.getElem?_cons_zero]; rfl
    · rw [hops.out]; kernel_rfl
    · intro W hW; obtain ⟨j0, j1, j2, j3, j4⟩ := hW; go_simp <;> with_reducible rfl
    · exact fun _ _ _ h => h
    try simp only [Act.put, List.setIfInBounds_toArray, List.set_cons_zero, List.set_cons_succ]
    refine takeL_do 6 (oi := ?_) (v := ?_) ?_ (by rw [hops.out]; kernel_rfl) ?_ ?_ ?_ rfl hc.out ?_
    rotate_left 2
    · rw [hops.out]; simp only [List.getElem?_toArray, List.getElem?_cons_succ, List.getElem?_cons_zero]; rfl
    · rw [hops.out]; kernel_rfl
    · intro W; go_simp <;> with_reducible rfl
    · exact fun _ _ _ h => h
    try simp only [Act.put, List.setIfInBounds_toArray, List.set_cons_zero, List.set_cons_succ]
    refine takeL_do 7 (oi := ?_) (v := ?_) ?_ (by rw [hops.out]; kernel_rfl) ?_ ?_ ?_ rfl hc.out ?_
    rotate_left 2
    · rw [hops.out]; simp only [List.getElem?_toArray, List.getElem?_cons_succ, List.getElem?_cons_zero]; rfl
    · rw [hops.out]; kernel_rfl
    · intro W; go_simp <;> with_reducible rfl
    · exact fun _ _ _ h => h
    try simp only [Act.put, List.setIfInBounds_toArray, List.set_cons_zero, List.set_cons_succ]
    refine takeL_held 8 [13, 14] (oi := ?_) (v := ?_) ?_ (by rw [hops.out]; kernel_rfl) (by rw [hops.out]; kernel_rfl) ?_ ?_ ?_ hc.out ?_
    rotate_left 2
    · rw [hops.out]; simp only [List.getElem?_toArray, List.getElem?_cons_succ, List.getElem?_cons_zero]; rfl
    · rw [hops.out]; kernel_rfl
    · intro W hW; obtain ⟨j0, j1, j2, j3, j4⟩ := hW; go_simp <;> with_reducible rfl
    · exact fun _ _ _ h => h
    try simp only [Act.put, List.setIfInBounds_toArray, List.set_cons_zero, List.set_cons_succ]
    refine takeL_do 9 (oi := ?_) (v := ?_) ?_ (by rw [hops.out]; kernel_rfl) ?_ ?_ ?_ rfl hc.out ?_
    rotate_left 2
    · rw [hops.out]; simp only [List.getElem?_toArray, List.getElem?_cons_succ, List.getElem?_cons_zero]; rfl
    · rw [hops.out]; kernel_rfl
    · intro W; go_simp <;> with_reducible rfl
    · exact fun _ _ _ h => h
    try simp only [Act.put, List.setIfInBounds_toArray, List.set_cons_zero, List.set_cons_succ]
    refine takeL_do 10 (oi := ?_) (v := ?_) ?_ (by rw [hops.out]; kernel_rfl) ?_ ?_ ?_ rfl hc.out ?_
    rotate_left 2
    · rw [hops.out]; simp only [List.getElem?_toArray, List.getElem?_cons_succ, List.getElem?_cons_zero]; rfl
    · rw [hops.out]; kernel_rfl
    · intro W; go_simp <;> with_reducible rfl
    · exact fun _ _ _ h => h
    try simp only [Act.put, List.setIfInBounds_toArray, List.set_cons_zero, List.set_cons_succ]
    refine takeL_held 11 [13, 14] (oi := ?_) (v := ?_) ?_ (by rw [hops.out]; kernel_rfl) (by rw [hops.out]; kernel_rfl) ?_ ?_ ?_ hc.out ?_
    rotate_left 2
    · rw [hops.out]; simp only [List.getElem?_toArray, List.getElem?_cons_succ, List.getElem?_cons_zero]; rfl
    · rw [hops.out]; kernel_rfl
    · intro W hW; obtain ⟨j0, j1, j2, j3, j4⟩ := hW; go_simp <;> with_reducible rfl
    · exact fun _ _ _ h => h
    try simp only [Act.put, List.setIfInBounds_toArray, List.set_cons_zero, List.set_cons_succ]
    refine takeL_held 12 [13, 14] (oi := ?_) (v := ?_) ?_ (by rw [hops.out]; kernel_rfl) (by rw [hops.out]; kernel_rfl) ?_ ?_ ?_ hc.out ?_
    rotate_left 2
    · rw [hops.out]; simp only [List.getElem?_toArray, List.getElem?_cons_succ, List.getElem?_cons_zero]; rfl
    · rw [hops.out]; kernel_rfl
    · intro W hW; obtain ⟨j0, j1, j2, j3, j4⟩ := hW; go_simp <;> with_reducible rfl
    · exact fun _ _ _ h => h
    try simp only [Act.put, List.setIfInBounds_toArray, List.set_cons_zero, List.set_cons_succ]
    refine takeL_do 13 (oi := ?_) (v := ?_) ?_ (by rw [hops.out]; kernel_rfl) ?_ ?_ ?_ rfl hc.out ?_
    rotate_left 2
    · rw [hops.out]; simp only [List.getElem?_toArray, List.getElem?_cons_succ, List.getElem?_cons_zero]; rfl
    · rw [hops.out]; kernel_rfl
    · intro W; go_simp <;> with_reducible rfl
    · exact fun _ _ _ h => h
    try simp only [Act.put, List.setIfInBounds_toArray, List.set_cons_zero, List.set_cons_succ]
    refine takeL_call 14 (oi := ?_) ?_ (by rw [hops.out]; kernel_rfl) ?_ ?_
    rotate_left 1
    · rw [hops.out]; simp only [List.getElem?_toArray, List.getElem?_cons_succ, List.getElem?_cons_zero]; rfl
    · rw [hops.out]; kernel_rfl
    intro K hK
    go_simp
    refine (takeT_any lo sa m s ⟨z0, z1, z2, far⟩ v1 v2 v3 _ ST3.out (by have := F2.out.below.size; simp; omega) (by omega) (by omega) (HM.out _)).mono ?_
    rintro e w9 ⟨rfl, F9, R9⟩
    rw [← GS.out]
    have F3 := hide (F2.out.drew.trans F9)
    have R3 := hide R9
    clear F9 R9
    refine hK.out _ _ (fun h => by simp at h) ?_
    clear hK K
    try simp only [Act.put, List.setIfInBounds_toArray, List.set_cons_zero, List.set_cons_succ]
    refine takeL_call 15 (oi := ?_) ?_ (by rw [hops.out]; kernel_rfl) ?_ ?_
    rotate_left 1
    · rw [hops.out]; simp only [List.getElem?_toArray, List.getElem?_cons_succ, List.getElem?_cons_zero]; rfl
    · rw [hops.out]; kernel_rfl
    intro K hK
    go_simp
    refine hK.out _ _ (fun h => by simp at h) ?_
    clear hK K
    try simp only [Act.put, List.setIfInBounds_toArray, List.set_cons_zero, List.set_cons_succ]
    refine takeL_call 16 (oi := ?_) ?_ (by rw [hops.out]; kernel_rfl) ?_ ?_
    rotate_left 1
    · rw [hops.out]; simp only [List.getElem?_toArray, List.getElem?_cons_succ, List.getElem?_cons_zero]; rfl
    · rw [hops.out]; kernel_rfl
    intro K hK
    go_simp
    refine hK.out _ _ (fun h => by simp at h) ?_
    clear hK K
    try simp only [Act.put, List.setIfInBounds_toArray, List.set_cons_zero, List.set_cons_succ]
    refine wpAnyL_done (by rw [hops.out]; kernel_rfl) (NoPanic.normal ?_) _
    clear hops ops
    go_wp2
    go_ret
    exact ⟨rfl, F3.out, fun s' e => R3.out s' (by rw [← gg.out]; exact e)⟩
end Go.Proofs.YtpiookjdeopmgaaDoor
