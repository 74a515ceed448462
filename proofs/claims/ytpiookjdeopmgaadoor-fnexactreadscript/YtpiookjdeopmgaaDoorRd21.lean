/-
  (*impl.script).takeEvent: its contract.
  spec.l14Part: its contract.
-/
import Derived.Test.YtpiookjdeopmgaaDoorRd20
import Derived.Test.YtpiookjdeopmgaaDoorRd14
namespace Go.Proofs.YtpiookjdeopmgaaDoor
open Go.RowKit

set_option linter.unusedSimpArgs false
set_option linter.unusedVariables false

theorem Tryd.infoEv : (Tryd.prog.info? 53).map (fun i => (i.zero, i.size, i.bytes)) = some (some (evV ⟨0, 0, 0, ⟨#[]⟩⟩), 4, 40) := by kernel_rfl

def putEF (s : SD) (x : EvD) : Option SD := if s.es.length = 60 then none else if eventOkB s.n x = true then some { s with es := s.es ++ [x] } else none

set_option maxRecDepth 100000 in
set_option maxHeartbeats 4000000 in
theorem takeE_any (lo sa m : Nat) (s : SD) (x : EvD) (v1 v2 v3 : Value) (w : World) (h : ScAt w lo sa m s v1 v2 v3) (hlo : lo ≤ w.heap.size) (hl : s.es.length ≤ 60) :
    Calls Tryd.prog 78 #[.pointer (some ⟨sa, 0, none⟩), evV x] w fun e w' => e = .returned (.bool (putEF s x).isSome) ∧ FrS lo w w' ∧ ∀ s', putEF s x = some s' → ScIn w' lo sa m s' := by
  obtain ⟨n, ls, ts, es⟩ := s
  simp only [] at hl
  obtain ⟨G, hG⟩ : ∃ G, G = putEF ⟨n, ls, ts, es⟩ x := ⟨_, rfl⟩
  rw [← hG]
  have G0 := hide hG
  clear hG
  obtain ⟨a1, b1, rfl⟩ := owns_lenS h.r1
  obtain ⟨a2, b2, rfl⟩ := owns_lenS h.r2
  obtain ⟨a3, b3, rfl⟩ := owns_lenS h.r3
  simp only [] at h
  have hsa := h.size
  have BX : Below w.heap.size w (w.alloc (.cells #[.int .i64 x.k, .int .i64 x.n, .int .i64 x.a, .string x.s] 53)) := (Below.refl _ _).alloc (Nat.le_refl _) _
  have hx := heap_alloc_new w (.cells #[.int .i64 x.k, .int .i64 x.n, .int .i64 x.a, .string x.s] 53)
  obtain ⟨w0, hw0⟩ : ∃ w0, w0 = w.alloc (.cells #[.int .i64 x.k, .int .i64 x.n, .int .i64 x.a, .string x.s] 53) := ⟨_, rfl⟩
  rw [← hw0] at BX hx
  have hlw : w.heap.size < w0.heap.size := lt_of_heap hx
  have h0 := h.below BX
  have HR0 := hide h.r3
  have hbx := h0.box
  simp only [] at hbx
  have e0 := cells_at hbx 0
  have e1 := cells_at hbx 1
  have e2 := cells_at hbx 2
  have e3 := cells_at hbx 3
  have f0 := cells_at hx 0
  have f1 := cells_at hx 1
  have f2 := cells_at hx 2
  have f3 := cells_at hx 3
  simp at e0 e1 e2 e3 f0 f1 f2 f3
  have HX := hide hx
  have HS0 := hide h0
  have hsw : sa < w0.heap.size := h0.size
  have hlow := h.low
  have FB := hide (FrS.of (lo := lo) BX hlo)
  clear h h0 hx hbx
  by_cases hn : es.length = 60
  · have g := hide (show G = none by rw [G0.out, putEF]; simp [hn])
    have hni : ((es.length : Int) == 60) = true := by simp; omega
    have hni2 : (es.length : Int) = 60 := by omega
    go_enter Tryd.func78, Tryd.ntmps78
    unfold evV
    go_wp2
    rw [← hw0]
    clear hw0 hn
    refine wp_region_start (S := (fun (W : World) => W.cell? ⟨sa, 0, none⟩ = some (.int .i64 n) ∧ W.cell? ⟨sa, 1, none⟩ = some (.slice a1 ls.length b1) ∧ W.cell? ⟨sa, 2, none⟩ = some (.slice a2 ts.length b2) ∧ W.cell? ⟨sa, 3, none⟩ = some (.slice a3 es.length b3) ∧ W.cell? ⟨w.heap.size, 0, none⟩ = some (.int .i64 x.k) ∧ W.cell? ⟨w.heap.size, 1, none⟩ = some (.int .i64 x.n) ∧ W.cell? ⟨w.heap.size, 2, none⟩ = some (.int .i64 x.a) ∧ W.cell? ⟨w.heap.size, 3, none⟩ = some (.string x.s))) (by kernel_rfl) 15 rfl ⟨e0, e1, e2, e3, f0, f1, f2, f3⟩ (fun ops hops hHeld => ?_)
    refine take_do 0 (oi := ?_) (v := ?_) ?_ (by rw [hops.out]; kernel_rfl) ?_ ?_ ?_ (by assumption) ?_
    rotate_left 2
    · rw [hops.out]; simp only [List.getElem?_toArray, List.getElem?_cons_succ, List.getElem?_cons_zero]; rfl
    · rw [hops.out]; kernel_rfl
    · intro W hW; (try dsimp only at hW); go_simp <;> with_reducible rfl
    · exact fun _ _ _ h => h
    try simp only [Act.put, List.setIfInBounds_toArray, List.set_cons_zero, List.set_cons_succ]
    refine take_do 1 (oi := ?_) (v := ?_) ?_ (by rw [hops.out]; kernel_rfl) ?_ ?_ ?_ (by assumption) ?_
    rotate_left 2
    · rw [hops.out]; simp only [List.getElem?_toArray, List.getElem?_cons_succ, List.getElem?_cons_zero]; rfl
    · rw [hops.out]; kernel_rfl
    · intro W hW; (try dsimp only at hW); go_simp <;> with_reducible rfl
    · exact fun _ _ _ h => h
    try simp only [Act.put, List.setIfInBounds_toArray, List.set_cons_zero, List.set_cons_succ]
    refine take_do 2 (oi := ?_) (v := ?_) ?_ (by rw [hops.out]; kernel_rfl) ?_ ?_ ?_ (by assumption) ?_
    rotate_left 2
    · rw [hops.out]; simp only [List.getElem?_toArray, List.getElem?_cons_succ, List.getElem?_cons_zero]; rfl
    · rw [hops.out]; kernel_rfl
    · intro W hW; (try dsimp only at hW); go_simp <;> with_reducible rfl
    · exact fun _ _ _ h => h
    try simp only [Act.put, List.setIfInBounds_toArray, List.set_cons_zero, List.set_cons_succ]
    refine take_do 3 (oi := ?_) (v := ?_) ?_ (by rw [hops.out]; kernel_rfl) ?_ ?_ ?_ (by assumption) ?_
    rotate_left 2
    · rw [hops.out]; simp only [List.getElem?_toArray, List.getElem?_cons_succ, List.getElem?_cons_zero]; rfl
    · rw [hops.out]; kernel_rfl
    · intro W hW; (try dsimp only at hW); go_simp <;> with_reducible rfl
    · exact fun _ _ _ h => h
    try simp only [Act.put, List.setIfInBounds_toArray, List.set_cons_zero, List.set_cons_succ]
    refine take_do 4 (oi := ?_) (v := ?_) ?_ (by rw [hops.out]; kernel_rfl) ?_ ?_ ?_ (by assumption) ?_
    rotate_left 2
    · rw [hops.out]; simp only [List.getElem?_toArray, List.getElem?_cons_succ, List.getElem?_cons_zero]; rfl
    · rw [hops.out]; kernel_rfl
    · intro W hW; (try dsimp only at hW); go_simp <;> with_reducible rfl
    · exact fun _ _ _ h => h
    try simp only [Act.put, List.setIfInBounds_toArray, List.set_cons_zero, List.set_cons_succ]
    refine take_do 5 (oi := ?_) (v := ?_) ?_ (by rw [hops.out]; kernel_rfl) ?_ ?_ ?_ (by assumption) ?_
    rotate_left 2
    · rw [hops.out]; simp only [List.getElem?_toArray, List.getElem?_cons_succ, List.getElem?_cons_zero]; rfl
    · rw [hops.out]; kernel_rfl
    · intro W hW; (try dsimp only at hW); go_simp <;> with_reducible rfl
    · exact fun _ _ _ h => h
    try simp only [Act.put, List.setIfInBounds_toArray, List.set_cons_zero, List.set_cons_succ]
    refine take_do 6 (oi := ?_) (v := ?_) ?_ (by rw [hops.out]; kernel_rfl) ?_ ?_ ?_ (by assumption) ?_
    rotate_left 2
    · rw [hops.out]; simp only [List.getElem?_toArray, List.getElem?_cons_succ, List.getElem?_cons_zero]; rfl
    · rw [hops.out]; kernel_rfl
    · intro W hW; (try dsimp only at hW); go_simp <;> with_reducible rfl
    · exact fun _ _ _ h => h
    try simp only [Act.put, List.setIfInBounds_toArray, List.set_cons_zero, List.set_cons_succ]
    refine take_skip 7 12 (by rw [hops.out]; kernel_rfl) (by rw [hops.out]; kernel_rfl) (by rw [hops.out]; kernel_rfl) (fun _ _ _ h => h) (by assumption) ?_
    try simp only [Act.put, List.setIfInBounds_toArray, List.set_cons_zero, List.set_cons_succ]
    refine take_skip 8 13 (by rw [hops.out]; kernel_rfl) (by rw [hops.out]; kernel_rfl) (by rw [hops.out]; kernel_rfl) (fun _ _ _ h => h) (by assumption) ?_
    try simp only [Act.put, List.setIfInBounds_toArray, List.set_cons_zero, List.set_cons_succ]
    refine take_skip 9 14 (by rw [hops.out]; kernel_rfl) (by rw [hops.out]; kernel_rfl) (by rw [hops.out]; kernel_rfl) (fun _ _ _ h => h) (by assumption) ?_
    try simp only [Act.put, List.setIfInBounds_toArray, List.set_cons_zero, List.set_cons_succ]
    refine take_skip 10 15 (by rw [hops.out]; kernel_rfl) (by rw [hops.out]; kernel_rfl) (by rw [hops.out]; kernel_rfl) (fun _ _ _ h => h) (by assumption) ?_
    try simp only [Act.put, List.setIfInBounds_toArray, List.set_cons_zero, List.set_cons_succ]
    refine take_skip 11 16 (by rw [hops.out]; kernel_rfl) (by rw [hops.out]; kernel_rfl) (by rw [hops.out]; kernel_rfl) (fun _ _ _ h => h) (by assumption) ?_
    try simp only [Act.put, List.setIfInBounds_toArray, List.set_cons_zero, List.set_cons_succ]
    refine take_skip 12 17 (by rw [hops.out]; kernel_rfl) (by rw [hops.out]; kernel_rfl) (by rw [hops.out]; kernel_rfl) (fun _ _ _ h => h) (by assumption) ?_
    try simp only [Act.put, List.setIfInBounds_toArray, List.set_cons_zero, List.set_cons_succ]
    refine take_skip 13 18 (by rw [hops.out]; kernel_rfl) (by rw [hops.out]; kernel_rfl) (by rw [hops.out]; kernel_rfl) (fun _ _ _ h => h) (by assumption) ?_
    try simp only [Act.put, List.setIfInBounds_toArray, List.set_cons_zero, List.set_cons_succ]
    refine take_do 14 (oi := ?_) (v := ?_) ?_ (by rw [hops.out]; kernel_rfl) ?_ ?_ ?_ (by assumption) ?_
    rotate_left 2
    · rw [hops.out]; simp only [List.getElem?_toArray, List.getElem?_cons_succ, List.getElem?_cons_zero]; rfl
    · rw [hops.out]; kernel_rfl
    · intro W hW; (try dsimp only at hW); go_simp <;> with_reducible rfl
    · exact fun _ _ _ h => h
    try simp only [Act.put, List.setIfInBounds_toArray, List.set_cons_zero, List.set_cons_succ]
    refine wpAnyH_done (by rw [hops.out]; kernel_rfl) ?_ _
    clear hops ops
    go_wp2
    go_ret
    exact ⟨by rw [g.out]; rfl, FB.out.drew, fun s' e => by rw [g.out] at e; cases e⟩
  · have hni : ((es.length : Int) == 60) = false := by simp; omega
    have hni2 : ¬ (es.length : Int) = 60 := by omega
    obtain ⟨q, hq⟩ : ∃ q, q = eventOkB n x := ⟨_, rfl⟩
    have g := hide (show G = if q = true then some ⟨n, ls, ts, es ++ [x]⟩ else none by rw [G0.out, putEF, if_neg hn, hq])
    go_enter Tryd.func78, Tryd.ntmps78
    unfold evV
    go_wp2
    rw [← hw0]
    clear hw0
    refine wp_region_start (S := (fun (W : World) => W.cell? ⟨sa, 0, none⟩ = some (.int .i64 n) ∧ W.cell? ⟨sa, 1, none⟩ = some (.slice a1 ls.length b1) ∧ W.cell? ⟨sa, 2, none⟩ = some (.slice a2 ts.length b2) ∧ W.cell? ⟨sa, 3, none⟩ = some (.slice a3 es.length b3) ∧ W.cell? ⟨w.heap.size, 0, none⟩ = some (.int .i64 x.k) ∧ W.cell? ⟨w.heap.size, 1, none⟩ = some (.int .i64 x.n) ∧ W.cell? ⟨w.heap.size, 2, none⟩ = some (.int .i64 x.a) ∧ W.cell? ⟨w.heap.size, 3, none⟩ = some (.string x.s))) (by kernel_rfl) 15 rfl ⟨e0, e1, e2, e3, f0, f1, f2, f3⟩ (fun ops hops hHeld => ?_)
    refine take_do 0 (oi := ?_) (v := ?_) ?_ (by rw [hops.out]; kernel_rfl) ?_ ?_ ?_ (by assumption) ?_
    rotate_left 2
    · rw [hops.out]; simp only [List.getElem?_toArray, List.getElem?_cons_succ, List.getElem?_cons_zero]; rfl
    · rw [hops.out]; kernel_rfl
    · intro W hW; (try dsimp only at hW); go_simp <;> with_reducible rfl
    · exact fun _ _ _ h => h
    try simp only [Act.put, List.setIfInBounds_toArray, List.set_cons_zero, List.set_cons_succ]
    refine take_do 1 (oi := ?_) (v := ?_) ?_ (by rw [hops.out]; kernel_rfl) ?_ ?_ ?_ (by assumption) ?_
    rotate_left 2
    · rw [hops.out]; simp only [List.getElem?_toArray, List.getElem?_cons_succ, List.getElem?_cons_zero]; rfl
    · rw [hops.out]; kernel_rfl
    · intro W hW; (try dsimp only at hW); go_simp <;> with_reducible rfl
    · exact fun _ _ _ h => h
    try simp only [Act.put, List.setIfInBounds_toArray, List.set_cons_zero, List.set_cons_succ]
    refine take_do 2 (oi := ?_) (v := ?_) ?_ (by rw [hops.out]; kernel_rfl) ?_ ?_ ?_ (by assumption) ?_
    rotate_left 2
    · rw [hops.out]; simp only [List.getElem?_toArray, List.getElem?_cons_succ, List.getElem?_cons_zero]; rfl
    · rw [hops.out]; kernel_rfl
    · intro W hW; (try dsimp only at hW); go_simp <;> with_reducible rfl
    · exact fun _ _ _ h => h
    try simp only [Act.put, List.setIfInBounds_toArray, List.set_cons_zero, List.set_cons_succ]
    refine take_do 3 (oi := ?_) (v := ?_) ?_ (by rw [hops.out]; kernel_rfl) ?_ ?_ ?_ (by assumption) ?_
    rotate_left 2
    · rw [hops.out]; simp only [List.getElem?_toArray, List.getElem?_cons_succ, List.getElem?_cons_zero]; rfl
    · rw [hops.out]; kernel_rfl
    · intro W hW; (try dsimp only at hW); go_simp <;> with_reducible rfl
    · exact fun _ _ _ h => h
    try simp only [Act.put, List.setIfInBounds_toArray, List.set_cons_zero, List.set_cons_succ]
    refine take_do 4 (oi := ?_) (v := ?_) ?_ (by rw [hops.out]; kernel_rfl) ?_ ?_ ?_ (by assumption) ?_
    rotate_left 2
    · rw [hops.out]; simp only [List.getElem?_toArray, List.getElem?_cons_succ, List.getElem?_cons_zero]; rfl
    · rw [hops.out]; kernel_rfl
    · intro W hW; (try dsimp only at hW); go_simp <;> with_reducible rfl
    · exact fun _ _ _ h => h
    try simp only [Act.put, List.setIfInBounds_toArray, List.set_cons_zero, List.set_cons_succ]
    refine take_do 5 (oi := ?_) (v := ?_) ?_ (by rw [hops.out]; kernel_rfl) ?_ ?_ ?_ (by assumption) ?_
    rotate_left 2
    · rw [hops.out]; simp only [List.getElem?_toArray, List.getElem?_cons_succ, List.getElem?_cons_zero]; rfl
    · rw [hops.out]; kernel_rfl
    · intro W hW; (try dsimp only at hW); go_simp <;> with_reducible rfl
    · exact fun _ _ _ h => h
    try simp only [Act.put, List.setIfInBounds_toArray, List.set_cons_zero, List.set_cons_succ]
    refine take_do 6 (oi := ?_) (v := ?_) ?_ (by rw [hops.out]; kernel_rfl) ?_ ?_ ?_ (by assumption) ?_
    rotate_left 2
    · rw [hops.out]; simp only [List.getElem?_toArray, List.getElem?_cons_succ, List.getElem?_cons_zero]; rfl
    · rw [hops.out]; kernel_rfl
    · intro W hW; (try dsimp only at hW); go_simp <;> with_reducible rfl
    · exact fun _ _ _ h => h
    try simp only [Act.put, List.setIfInBounds_toArray, List.set_cons_zero, List.set_cons_succ]
    refine take_do 7 (oi := ?_) (v := ?_) ?_ (by rw [hops.out]; kernel_rfl) ?_ ?_ ?_ (by assumption) ?_
    rotate_left 2
    · rw [hops.out]; simp only [List.getElem?_toArray, List.getElem?_cons_succ, List.getElem?_cons_zero]; rfl
    · rw [hops.out]; kernel_rfl
    · intro W hW; (try dsimp only at hW); go_simp <;> with_reducible rfl
    · exact fun _ _ _ h => h
    try simp only [Act.put, List.setIfInBounds_toArray, List.set_cons_zero, List.set_cons_succ]
    refine take_do 8 (oi := ?_) (v := ?_) ?_ (by rw [hops.out]; kernel_rfl) ?_ ?_ ?_ (by assumption) ?_
    rotate_left 2
    · rw [hops.out]; simp only [List.getElem?_toArray, List.getElem?_cons_succ, List.getElem?_cons_zero]; rfl
    · rw [hops.out]; kernel_rfl
    · intro W hW; (try dsimp only at hW); go_simp <;> with_reducible rfl
    · exact fun _ _ _ h => h
    try simp only [Act.put, List.setIfInBounds_toArray, List.set_cons_zero, List.set_cons_succ]
    refine take_do 9 (oi := ?_) (v := ?_) ?_ (by rw [hops.out]; kernel_rfl) ?_ ?_ ?_ (by assumption) ?_
    rotate_left 2
    · rw [hops.out]; simp only [List.getElem?_toArray, List.getElem?_cons_succ, List.getElem?_cons_zero]; rfl
    · rw [hops.out]; kernel_rfl
    · intro W hW; (try dsimp only at hW); go_simp <;> with_reducible rfl
    · exact fun _ _ _ h => h
    try simp only [Act.put, List.setIfInBounds_toArray, List.set_cons_zero, List.set_cons_succ]
    refine take_do 10 (oi := ?_) (v := ?_) ?_ (by rw [hops.out]; kernel_rfl) ?_ ?_ ?_ (by assumption) ?_
    rotate_left 2
    · rw [hops.out]; simp only [List.getElem?_toArray, List.getElem?_cons_succ, List.getElem?_cons_zero]; rfl
    · rw [hops.out]; kernel_rfl
    · intro W hW; (try dsimp only at hW); go_simp <;> with_reducible rfl
    · exact fun _ _ _ h => h
    try simp only [Act.put, List.setIfInBounds_toArray, List.set_cons_zero, List.set_cons_succ]
    refine take_do 11 (oi := ?_) (v := ?_) ?_ (by rw [hops.out]; kernel_rfl) ?_ ?_ ?_ (by assumption) ?_
    rotate_left 2
    · rw [hops.out]; simp only [List.getElem?_toArray, List.getElem?_cons_succ, List.getElem?_cons_zero]; rfl
    · rw [hops.out]; kernel_rfl
    · intro W hW; (try dsimp only at hW); go_simp <;> with_reducible rfl
    · exact fun _ _ _ h => h
    try simp only [Act.put, List.setIfInBounds_toArray, List.set_cons_zero, List.set_cons_succ]
    refine take_call 12 (oi := ?_) ?_ (by rw [hops.out]; kernel_rfl) ?_ ?_
    rotate_left 1
    · rw [hops.out]; simp only [List.getElem?_toArray, List.getElem?_cons_succ, List.getElem?_cons_zero]; rfl
    · rw [hops.out]; kernel_rfl
    intro K hK
    go_simp
    refine (ieventOk_any _ _ _ n rfl x _).mono ?_
    rintro e w2 ⟨rfl, bc⟩
    refine hK.out _ _ ?_ (fun hHeld => ?_)
    · obtain ⟨m0, m1, m2, m3, m4, m5, m6, m7⟩ := hHeld
      exact ⟨(bc.cell hsw).trans m0, (bc.cell hsw).trans m1, (bc.cell hsw).trans m2, (bc.cell hsw).trans m3, (bc.cell hlw).trans m4, (bc.cell hlw).trans m5, (bc.cell hlw).trans m6, (bc.cell hlw).trans m7⟩
    clear hK K
    try simp only [Act.put, List.setIfInBounds_toArray, List.set_cons_zero, List.set_cons_succ]
    refine take_do 13 (oi := ?_) (v := ?_) ?_ (by rw [hops.out]; kernel_rfl) ?_ ?_ ?_ (by assumption) ?_
    rotate_left 2
    · rw [hops.out]; simp only [List.getElem?_toArray, List.getElem?_cons_succ, List.getElem?_cons_zero]; rfl
    · rw [hops.out]; kernel_rfl
    · intro W hW; (try dsimp only at hW); go_simp <;> with_reducible rfl
    · exact fun _ _ _ h => h
    try simp only [Act.put, List.setIfInBounds_toArray, List.set_cons_zero, List.set_cons_succ]
    refine take_do 14 (oi := ?_) (v := ?_) ?_ (by rw [hops.out]; kernel_rfl) ?_ ?_ ?_ (by assumption) ?_
    rotate_left 2
    · rw [hops.out]; simp only [List.getElem?_toArray, List.getElem?_cons_succ, List.getElem?_cons_zero]; rfl
    · rw [hops.out]; kernel_rfl
    · intro W hW; (try dsimp only at hW); go_simp <;> with_reducible rfl
    · exact fun _ _ _ h => h
    try simp only [Act.put, List.setIfInBounds_toArray, List.set_cons_zero, List.set_cons_succ]
    refine wpAnyH_done (by rw [hops.out]; kernel_rfl) ?_ _
    clear hops ops
    have ST2 := hide (HS0.out.below (Below.trans (show Below w0.heap.size w0 w0.drew from (Below.refl _ _).drew) bc))
    have F2 := hide (FB.out.trans (FrS.of (Below.trans (show Below w0.heap.size w0 w0.drew from (Below.refl _ _).drew) bc) (by have := FB.out.below.size; omega)))
    have HX2 := hide ((bc.block _ hlw).trans HX.out)
    clear bc
    rw [← hq]
    clear hq
    cases q
    · go_wp2
      go_ret
      exact ⟨by rw [g.out]; rfl, F2.out, fun s' e => by rw [g.out] at e; cases e⟩
    · have y3 := cells_at ST2.out.box 3
      have f0 := cells_at HX2.out 0
      have f1 := cells_at HX2.out 1
      have f2 := cells_at HX2.out 2
      have f3 := cells_at HX2.out 3
      simp only [List.getElem?_toArray, List.getElem?_cons_succ, List.getElem?_cons_zero] at y3 f0 f1 f2 f3
      have hc3 := hide (And.intro y3 (And.intro f0 (And.intro f1 (And.intro f2 f3))))
      clear y3 f0 f1 f2 f3
      have ST3 := hide (ST2.out.below (show Below w2.heap.size w2 w2.drew from (Below.refl _ _).drew))
      have HX3 := hide (show w2.drew.heap[w.heap.size]? = some (.cells #[.int .i64 x.k, .int .i64 x.n, .int .i64 x.a, .string x.s] 53) from HX2.out)
      go_wp2
      refine wp_region_noPanic ?_
      refine wp_region_startL 10 (fun W => W.cell? ⟨sa, 3, none⟩ = some (.slice a3 es.length b3) ∧ W.cell? ⟨w.heap.size, 0, none⟩ = some (.int .i64 x.k) ∧ W.cell? ⟨w.heap.size, 1, none⟩ = some (.int .i64 x.n) ∧ W.cell? ⟨w.heap.size, 2, none⟩ = some (.int .i64 x.a) ∧ W.cell? ⟨w.heap.size, 3, none⟩ = some (.string x.s)) (by kernel_rfl) 11 rfl (fun ops hops => ?_)
      refine takeL_do 0 (oi := ?_) (v := ?_) ?_ (by rw [hops.out]; kernel_rfl) ?_ ?_ ?_ rfl hc3.out ?_
      rotate_left 2
      · rw [hops.out]; simp only [List.getElem?_toArray, List.getElem?_cons_succ, List.getElem?_cons_zero]; rfl
      · rw [hops.out]; kernel_rfl
      · intro W; go_simp <;> with_reducible rfl
      · exact fun _ _ _ h => h
      try simp only [Act.put, List.setIfInBounds_toArray, List.set_cons_zero, List.set_cons_succ]
      refine takeL_do 1 (oi := ?_) (v := ?_) ?_ (by rw [hops.out]; kernel_rfl) ?_ ?_ ?_ rfl hc3.out ?_
      rotate_left 2
      · rw [hops.out]; simp only [List.getElem?_toArray, List.getElem?_cons_succ, List.getElem?_cons_zero]; rfl
      · rw [hops.out]; kernel_rfl
      · intro W; go_simp <;> with_reducible rfl
      · exact fun _ _ _ h => h
      try simp only [Act.put, List.setIfInBounds_toArray, List.set_cons_zero, List.set_cons_succ]
      refine takeL_do 2 (oi := ?_) (v := ?_) ?_ (by rw [hops.out]; kernel_rfl) ?_ ?_ ?_ rfl hc3.out ?_
      rotate_left 2
      · rw [hops.out]; simp only [List.getElem?_toArray, List.getElem?_cons_succ, List.getElem?_cons_zero]; rfl
      · rw [hops.out]; kernel_rfl
      · intro W; go_simp <;> with_reducible rfl
      · exact fun _ _ _ h => h
      try simp only [Act.put, List.setIfInBounds_toArray, List.set_cons_zero, List.set_cons_succ]
      refine takeL_do 3 (oi := ?_) (v := ?_) ?_ (by rw [hops.out]; kernel_rfl) ?_ ?_ ?_ rfl hc3.out ?_
      rotate_left 2
      · rw [hops.out]; simp only [List.getElem?_toArray, List.getElem?_cons_succ, List.getElem?_cons_zero]; rfl
      · rw [hops.out]; kernel_rfl
      · intro W; go_simp <;> with_reducible rfl
      · exact fun _ _ _ h => h
      try simp only [Act.put, List.setIfInBounds_toArray, List.set_cons_zero, List.set_cons_succ]
      refine takeL_held 4 [7, 10] (oi := ?_) (v := ?_) ?_ (by rw [hops.out]; kernel_rfl) (by rw [hops.out]; kernel_rfl) ?_ ?_ ?_ hc3.out ?_
      rotate_left 2
      · rw [hops.out]; simp only [List.getElem?_toArray, List.getElem?_cons_succ, List.getElem?_cons_zero]; rfl
      · rw [hops.out]; kernel_rfl
      · intro W hW; obtain ⟨j0, j1, j2, j3, j4⟩ := hW; go_simp <;> with_reducible rfl
      · exact fun _ _ _ h => h
      try simp only [Act.put, List.setIfInBounds_toArray, List.set_cons_zero, List.set_cons_succ]
      refine takeL_held 5 [6, 7, 10] (oi := ?_) (v := ?_) ?_ (by rw [hops.out]; kernel_rfl) (by rw [hops.out]; kernel_rfl) ?_ ?_ ?_ hc3.out ?_
      rotate_left 2
      · rw [hops.out]; simp only [List.getElem?_toArray, List.getElem?_cons_succ, List.getElem?_cons_zero]; rfl
      · rw [hops.out]; kernel_rfl
      · intro W hW; obtain ⟨j0, j1, j2, j3, j4⟩ := hW; go_simp <;> with_reducible rfl
      · exact fun _ _ _ h => h
      try simp only [Act.put, List.setIfInBounds_toArray, List.set_cons_zero, List.set_cons_succ]
      refine takeL_call 6 (oi := ?_) ?_ (by rw [hops.out]; kernel_rfl) ?_ ?_
      rotate_left 1
      · rw [hops.out]; simp only [List.getElem?_toArray, List.getElem?_cons_succ, List.getElem?_cons_zero]; rfl
      · rw [hops.out]; kernel_rfl
      intro K hK
      go_simp
      have A3 := hide (ST3.out.below (((Below.refl w2.drew.heap.size w2.drew).alloc (Nat.le_refl _) (.cells #[.int .i64 x.k, .int .i64 x.n, .int .i64 x.a, .string x.s] 53))))
      have hxa := ((Below.refl w2.drew.heap.size w2.drew).alloc (Nat.le_refl _) (.cells #[.int .i64 x.k, .int .i64 x.n, .int .i64 x.a, .string x.s] 53)).block _ (lt_of_heap HX3.out)
      have hxb := hxa.trans HX3.out
      have e3 := cells_at A3.out.box 3
      have f0 := cells_at hxb 0
      have f1 := cells_at hxb 1
      have f2 := cells_at hxb 2
      have f3 := cells_at hxb 3
      simp only [List.getElem?_toArray, List.getElem?_cons_succ, List.getElem?_cons_zero] at e3 f0 f1 f2 f3
      have hc4 := hide (And.intro e3 (And.intro f0 (And.intro f1 (And.intro f2 f3))))
      clear hxa hxb e3 f0 f1 f2 f3
      refine hK.out _ _ (fun _ => hc4.out) ?_
      clear hK K
      try simp only [Act.put, List.setIfInBounds_toArray, List.set_cons_zero, List.set_cons_succ]
      refine takeL_call 7 (oi := ?_) ?_ (by rw [hops.out]; kernel_rfl) ?_ ?_
      rotate_left 1
      · rw [hops.out]; simp only [List.getElem?_toArray, List.getElem?_cons_succ, List.getElem?_cons_zero]; rfl
      · rw [hops.out]; kernel_rfl
      intro K hK
      refine wp_append_oneR evE_len (by omega) (by omega) _ _ _ 26 rfl lo 53 Tryd.underlying26 (evV ⟨0, 0, 0, ⟨#[]⟩⟩) rfl Tryd.infoEv _ es x (evE_one _) rfl A3.out.r3 ⟨w2.heap.size, 0, none⟩ 1 rfl (news_struct (cs := evE x)) (by omega) (by have := F2.out.below.size; simp; omega) ?_
      intro v' w6 ho6 gr6
      obtain ⟨N9, hN9⟩ : ∃ N9, N9 = (es ++ [x]).length := ⟨_, rfl⟩
      have ho7 : w6.ownsRow lo 53 4 v' N9 (flat evE (es ++ [x])) := by rw [hN9]; simpa using ho6
      have HN9 := hide hN9
      clear hN9 ho6
      obtain ⟨a9, b9, rfl⟩ := owns_lenS ho7
      have hbx6 := (gr6.block sa A3.out.size (fun e => own_ne A3.out.r3 A3.out.box (by decide) e.symm)).trans A3.out.box
      have O6 := hide ho7
      have G6 := hide gr6
      have BX6 := hide hbx6
      have fz6 := frozen_at hbx6
      have e3 := cells_at hbx6 3
      simp only [List.getElem?_toArray, List.getElem?_cons_succ, List.getElem?_cons_zero] at e3
      have hlx6 := (gr6.block w.heap.size (by have := lt_of_heap HX2.out; simp; omega) (fun e => by have := (HR0.out.lt _ e.symm).2; omega)).trans ((((Below.refl w2.drew.heap.size w2.drew).alloc (Nat.le_refl _) (.cells #[.int .i64 x.k, .int .i64 x.n, .int .i64 x.a, .string x.s] 53)).block _ (lt_of_heap HX3.out)).trans HX3.out)
      have f0 := cells_at hlx6 0
      have f1 := cells_at hlx6 1
      have f2 := cells_at hlx6 2
      have f3 := cells_at hlx6 3
      simp only [List.getElem?_toArray, List.getElem?_cons_succ, List.getElem?_cons_zero] at f0 f1 f2 f3
      have hc6 := hide (And.intro e3 (And.intro f0 (And.intro f1 (And.intro f2 f3))))
      clear ho7 gr6 hbx6 hlx6 f0 f1 f2 f3
      refine hK.out _ _ (fun _ => hc6.out) ?_
      clear hK K
      try simp only [Act.put, List.setIfInBounds_toArray, List.set_cons_zero, List.set_cons_succ]
      refine takeL_do 8 (oi := ?_) (v := ?_) ?_ (by rw [hops.out]; kernel_rfl) ?_ ?_ ?_ rfl hc6.out ?_
      rotate_left 2
      · rw [hops.out]; simp only [List.getElem?_toArray, List.getElem?_cons_succ, List.getElem?_cons_zero]; rfl
      · rw [hops.out]; kernel_rfl
      · intro W; go_simp <;> with_reducible rfl
      · exact fun _ _ _ h => h
      try simp only [Act.put, List.setIfInBounds_toArray, List.set_cons_zero, List.set_cons_succ]
      refine takeL_do 9 (oi := ?_) (v := ?_) ?_ (by rw [hops.out]; kernel_rfl) ?_ ?_ ?_ rfl hc6.out ?_
      rotate_left 2
      · rw [hops.out]; simp only [List.getElem?_toArray, List.getElem?_cons_succ, List.getElem?_cons_zero]; rfl
      · rw [hops.out]; kernel_rfl
      · intro W; go_simp <;> with_reducible rfl
      · exact fun _ _ _ h => h
      try simp only [Act.put, List.setIfInBounds_toArray, List.set_cons_zero, List.set_cons_succ]
      refine takeL_call 10 (oi := ?_) ?_ (by rw [hops.out]; kernel_rfl) ?_ ?_
      rotate_left 1
      · rw [hops.out]; simp only [List.getElem?_toArray, List.getElem?_cons_succ, List.getElem?_cons_zero]; rfl
      · rw [hops.out]; kernel_rfl
      intro K hK
      go_simp
      refine hK.out _ _ (fun h => by simp at h) ?_
      clear hK K
      try simp only [Act.put, List.setIfInBounds_toArray, List.set_cons_zero, List.set_cons_succ]
      refine wpAnyL_done (by rw [hops.out]; kernel_rfl) (NoPanic.normal ?_) _
      clear hops ops
      have y := heap_setCell_same _ _ 3 _ _ (.slice a9 N9 b9) BX6.out
      simp only [List.setIfInBounds_toArray, List.set_cons_zero, List.set_cons_succ] at y
      obtain ⟨IL, hIL⟩ : ∃ IL, IL = es ++ [x] := ⟨_, rfl⟩
      have O7 := O6.out
      rw [← hIL] at O7 g HN9
      have hN : N9 = IL.length := HN9.out
      clear hIL HN9
      subst hN
      have st : ScAt (w6.setCell ⟨sa, 3, none⟩ (.slice a9 IL.length b9)) lo sa m ⟨n, ls, ts, IL⟩ (.slice a1 ls.length b1) (.slice a2 ts.length b2) (.slice a9 IL.length b9) :=
        ⟨y, owns_put (owns_two A3.out.r3 A3.out.r1 (by decide) G6.out) BX6.out (by decide), owns_put (owns_two A3.out.r3 A3.out.r2 (by decide) G6.out) BX6.out (by decide), owns_put O7 BX6.out (by decide), hlow⟩
      have fa : FrS lo w2 (w2.drew.alloc (.cells #[.int .i64 x.k, .int .i64 x.n, .int .i64 x.a, .string x.s] 53)) := FrS.of (((Below.refl _ _).drew).alloc (Nat.le_refl _) _) (by have := F2.out.below.size; omega)
      have f1 := hide (((F2.out.trans fa).trans (FrS.grown (lo := lo) G6.out A3.out.r3 (Nat.le_refl _) (by have := F2.out.below.size; simp; omega) (by decide))).trans (FrS.set (j := 3) (.slice a9 IL.length b9) BX6.out hlow))
      have ST := hide st
      obtain ⟨W, hW⟩ : ∃ W, W = w6.setCell ⟨sa, 3, none⟩ (.slice a9 IL.length b9) := ⟨_, rfl⟩
      rw [← hW] at ST f1 ⊢
      clear hW st y O7 fa e3 fz6 hc6
      go_wp2
      go_ret
      exact ⟨by rw [g.out]; rfl, f1.out, fun s' e => by rw [g.out] at e; cases e; exact ⟨_, _, _, ST.out⟩⟩
end Go.Proofs.YtpiookjdeopmgaaDoor
namespace Go.Proofs.YtpiookjdeopmgaaDoor
open Go.RowKit
set_option linter.unusedSimpArgs false
set_option linter.unusedVariables false

/-- a net with a part put in -/
def partF (n : Int) (ls : List Lk) (ts : List Th) (p0 : List UInt8) (ps : List (List UInt8)) : Option (List Lk × List Th) :=
  if p0 = wLink ∧ numsN 4 ps = true then
    (if (putLk ls ⟨numI (ps.getD 0 []), numI (ps.getD 1 []), numI (ps.getD 2 []), numI (ps.getD 3 [])⟩).length = ls.length then none
     else if netOkI ⟨n, putLk ls ⟨numI (ps.getD 0 []), numI (ps.getD 1 []), numI (ps.getD 2 []), numI (ps.getD 3 [])⟩, ts⟩ = true then some (putLk ls ⟨numI (ps.getD 0 []), numI (ps.getD 1 []), numI (ps.getD 2 []), numI (ps.getD 3 [])⟩, ts) else none)
  else if (p0 = wThing ∨ p0 = wFar) ∧ numsN 3 ps = true then
    (if (putT ts ⟨numI (ps.getD 0 []), numI (ps.getD 1 []), numI (ps.getD 2 []), p0 == wFar⟩).length = ts.length then none
     else if netOkI ⟨n, ls, putT ts ⟨numI (ps.getD 0 []), numI (ps.getD 1 []), numI (ps.getD 2 []), p0 == wFar⟩⟩ = true then some (ls, putT ts ⟨numI (ps.getD 0 []), numI (ps.getD 1 []), numI (ps.getD 2 []), p0 == wFar⟩) else none)
  else none

/-- a row as a value -/
def Sl (v : Value) : Prop := ∃ (a : Option Addr) (n c : Nat), v = .slice a n c

/-- one row is new, the other one as it was -/
def PartOwn (lo : Nat) (v1 v2 : Value) (ls : List Lk) (ts : List Th) (w' : World) (u1 u2 : Value) (r : List Lk × List Th) : Prop :=
  (u2 = v2 ∧ r.2 = ts ∧ w'.ownsRow lo 77 4 u1 r.1.length (flat lkE r.1)) ∨ (u1 = v1 ∧ r.1 = ls ∧ w'.ownsRow lo 81 4 u2 r.2.length (flat thE r.2))

theorem StructsAt_then {W W' : World} {v : Value} {ls : List Lk} (h : LinksAt W v ls W.heap.size) (hb : Below W.heap.size W W') : LinksAt W' v ls W'.heap.size := LinksAt.then h hb

theorem s3_same {w : World} {p : Nat} {u0 u1 u2 : Value} {T : TypeId} (a b c : Value) (h : w.heap[p]? = some (.cells #[u0, u1, u2] T)) : (((w.setCell ⟨p, 0, none⟩ a).setCell ⟨p, 1, none⟩ b).setCell ⟨p, 2, none⟩ c).heap[p]? = some (.cells #[a, b, c] T) :=
  heap_setCell_same _ _ 2 _ _ c (heap_setCell_same _ _ 1 _ _ b (heap_setCell_same _ _ 0 _ _ a h))

end Go.Proofs.YtpiookjdeopmgaaDoor
