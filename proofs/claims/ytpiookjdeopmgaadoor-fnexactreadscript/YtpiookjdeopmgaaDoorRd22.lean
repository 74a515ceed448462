/-
  impl.newScript$1: its contract.
  (*impl.script).takeLink: its contract.
  (*impl.script).takeThing: its contract.
-/
import Derived.Test.YtpiookjdeopmgaaDoorRd20
namespace Go.Proofs.YtpiookjdeopmgaaDoor
open Go.RowKit

set_option linter.unusedSimpArgs false
set_option linter.unusedVariables false

def netW (s : SD) (ps : List (List UInt8)) : Option SD := if numsN 1 ps = true then netF s (numI (ps.getD 0 [])) else none

set_option maxRecDepth 100000 in
set_option maxHeartbeats 4000000 in
theorem netW_any (lo sa m p1 p2 : Nat) (s : SD) (v : Value) (ps : List (List UInt8)) (v1 v2 v3 : Value) (w : World) (h : ScAt w lo sa m s v1 v2 v3) (hlo : lo ≤ w.heap.size) (hl : s.ls.length ≤ 900) (ht : s.ts.length ≤ 900)
    (hp1 : w.heap[p1]? = some (.cells #[.pointer (some ⟨sa, 0, none⟩)] 57)) (hv : StrsAt w v ps w.heap.size) (hn : ps.length ≤ 1048576) (hps : ∀ l ∈ ps, l.length ≤ 1048576) :
    Calls Tryd.prog 49 #[v, .pointer (some ⟨p1, 0, none⟩)] w fun e w' => e = .returned (.bool (netW s ps).isSome) ∧ FrS lo w w' ∧ ∀ s', netW s ps = some s' → ScIn w' lo sa m s' := by
  obtain ⟨G, hG⟩ : ∃ G, G = netW s ps := ⟨_, rfl⟩
  rw [← hG]
  have G0 := hide hG
  clear hG
  have HI := hide (inums_any v ps 1 w hv hn hps)
  have HS := hide h
  have HP1 := hide hp1
  clear h hv hp1 hps
  obtain ⟨q, hq⟩ : ∃ q, q = numsN 1 ps := ⟨_, rfl⟩
  rw [← hq] at HI
  have HQ := hide hq
  clear hq
  go_enter Tryd.func49, Tryd.ntmps49
  go_wp2_with fail
  refine HI.out.mono ?_
  rintro e w2 ⟨u, rfl, hou, b2⟩
  have ST2 := hide (HS.out.below b2)
  have F2 := hide (FrS.of b2 hlo)
  have g1 := (b2.block _ (lt_of_heap HP1.out)).trans HP1.out
  clear b2
  cases q
  · have g := hide (show G = none by rw [G0.out, netW, ← HQ.out]; rfl)
    clear hou
    go_wp2
    refine wp_region_start (S := fun _ => True) (by kernel_rfl) 9 rfl trivial (fun ops hops hHeld => ?_)
    refine take_do 0 (oi := ?_) (v := ?_) ?_ (by rw [hops.out]; kernel_rfl) ?_ ?_ ?_ (by assumption) ?_
    rotate_left 2
    · rw [hops.out]; simp only [List.getElem?_toArray, List.getElem?_cons_succ, List.getElem?_cons_zero]; rfl
    · rw [hops.out]; kernel_rfl
    · intro W hW; (try dsimp only at hW); go_simp <;> with_reducible rfl
    · exact fun _ _ _ h => h
    try simp only [Act.put, List.setIfInBounds_toArray, List.set_cons_zero, List.set_cons_succ]
    refine take_do 1 (oi := ?_) (v := ?_) ?_ (by rw [hops.out]; kernel_rfl) ?_ ?_ ?_ (by assumption) ?_
    rotate_left 2
    · rw [hops.out]; simp only [List.getElem?_toArray, List.getElem?_cons_succ, List.getElem?_cons_zero]; rfl
    · rw [hops.out]; kernel_rfl
    · intro W hW; (try dsimp only at hW); go_simp <;> with_reducible rfl
    · exact fun _ _ _ h => h
    try simp only [Act.put, List.setIfInBounds_toArray, List.set_cons_zero, List.set_cons_succ]
    refine take_skip 2 13 (by rw [hops.out]; kernel_rfl) (by rw [hops.out]; kernel_rfl) (by rw [hops.out]; kernel_rfl) (fun _ _ _ h => h) (by assumption) ?_
    try simp only [Act.put, List.setIfInBounds_toArray, List.set_cons_zero, List.set_cons_succ]
    refine take_skip 3 14 (by rw [hops.out]; kernel_rfl) (by rw [hops.out]; kernel_rfl) (by rw [hops.out]; kernel_rfl) (fun _ _ _ h => h) (by assumption) ?_
    try simp only [Act.put, List.setIfInBounds_toArray, List.set_cons_zero, List.set_cons_succ]
    refine take_skip 4 15 (by rw [hops.out]; kernel_rfl) (by rw [hops.out]; kernel_rfl) (by rw [hops.out]; kernel_rfl) (fun _ _ _ h => h) (by assumption) ?_
    try simp only [Act.put, List.setIfInBounds_toArray, List.set_cons_zero, List.set_cons_succ]
    refine take_skip 5 16 (by rw [hops.out]; kernel_rfl) (by rw [hops.out]; kernel_rfl) (by rw [hops.out]; kernel_rfl) (fun _ _ _ h => h) (by assumption) ?_
    try simp only [Act.put, List.setIfInBounds_toArray, List.set_cons_zero, List.set_cons_succ]
    refine take_skip 6 17 (by rw [hops.out]; kernel_rfl) (by rw [hops.out]; kernel_rfl) (by rw [hops.out]; kernel_rfl) (fun _ _ _ h => h) (by assumption) ?_
    try simp only [Act.put, List.setIfInBounds_toArray, List.set_cons_zero, List.set_cons_succ]
    refine take_do 7 (oi := ?_) (v := ?_) ?_ (by rw [hops.out]; kernel_rfl) ?_ ?_ ?_ (by assumption) ?_
    rotate_left 2
    · rw [hops.out]; simp only [List.getElem?_toArray, List.getElem?_cons_succ, List.getElem?_cons_zero]; rfl
    · rw [hops.out]; kernel_rfl
    · intro W hW; (try dsimp only at hW); go_simp <;> with_reducible rfl
    · exact fun _ _ _ h => h
    try simp only [Act.put, List.setIfInBounds_toArray, List.set_cons_zero, List.set_cons_succ]
    refine take_do 8 (oi := ?_) (v := ?_) ?_ (by rw [hops.out]; kernel_rfl) ?_ ?_ ?_ (by assumption) ?_
    rotate_left 2
    · rw [hops.out]; simp only [List.getElem?_toArray, List.getElem?_cons_succ, List.getElem?_cons_zero]; rfl
    · rw [hops.out]; kernel_rfl
    · intro W hW; (try dsimp only at hW); go_simp <;> with_reducible rfl
    · exact fun _ _ _ h => h
    try simp only [Act.put, List.setIfInBounds_toArray, List.set_cons_zero, List.set_cons_succ]
    refine wpAnyH_done (by rw [hops.out]; kernel_rfl) ?_ _
    clear hops ops
    go_wp2
    go_ret
    exact ⟨by rw [g.out]; rfl, F2.out.drew, fun s' e => by rw [g.out] at e; cases e⟩
  · have hnn := HQ.out
    simp only [numsN, eq_comm (a := true), Bool.and_eq_true, decide_eq_true_eq] at hnn
    have hlen : ps.length = 1 := by have := hnn.1; omega
    have how := hou rfl
    rw [hlen] at how
    obtain ⟨y0, rfl⟩ : ∃ y0, ps = [y0] := by
      obtain ⟨y0, e⟩ := List.length_eq_one_iff.1 hlen
      exact ⟨y0, e⟩
    obtain ⟨z0, hz0⟩ : ∃ z, z = numI y0 := ⟨_, rfl⟩
    have gg := hide (show G = netF s (z0) by
      rw [G0.out, netW, if_pos HQ.out.symm]
      simp only [List.getD_cons_zero, List.getD_cons_succ, ← hz0])
    have GS := hide (congrArg Option.isSome gg.out)
    simp only [List.map_cons, List.map_nil, ← hz0] at how
    obtain ⟨g, gc, rfl, hg1, hgl⟩ := owns_shape how (by omega)
    have i0 := how.cellAt 0 (by omega)
    simp [intsOf] at i0
    have c1 := cells_at g1 0
    simp at c1
    have hc := hide ((And.intro c1 i0))
    clear how hou hlen hnn hz0 i0 c1
    have ST3 := hide (ST2.out.below (show Below w2.heap.size w2 w2.drew from (Below.refl _ _).drew))
    go_wp2
    refine wp_region_noPanic ?_
    refine wp_region_startL 6 (fun W => W.cell? ⟨p1, 0, none⟩ = some (.pointer (some ⟨sa, 0, none⟩)) ∧ W.cell? ⟨g, 0, none⟩ = some (.int .i64 z0)) (by kernel_rfl) 9 rfl (fun ops hops => ?_)
    refine takeL_do 0 (oi := ?_) (v := ?_) ?_ (by rw [hops.out]; kernel_rfl) ?_ ?_ ?_ rfl hc.out ?_
    rotate_left 2
    · rw [hops.out]; simp only [List.getElem?_toArray, List.getElem?_cons_succ, List.getElem?_cons_zero]; rfl
    · rw [hops.out]; kernel_rfl
    · intro W; go_simp <;> with_reducible rfl
    · exact fun _ _ _ h => h
    try simp only [Act.put, List.setIfInBounds_toArray, List.set_cons_zero, List.set_cons_succ]
    refine takeL_do 1 (oi := ?_) (v := ?_) ?_ (by rw [hops.out]; kernel_rfl) ?_ ?_ ?_ rfl hc.out ?_
    rotate_left 2
    · rw [hops.out]; simp only [List.getElem?_toArray, List.getElem?_cons_succ, List.getElem?_cons_zero]; rfl
    · rw [hops.out]; kernel_rfl
    · intro W; go_simp <;> with_reducible rfl
    · exact fun _ _ _ h => h
    try simp only [Act.put, List.setIfInBounds_toArray, List.set_cons_zero, List.set_cons_succ]
    refine takeL_held 2 [6] (oi := ?_) (v := ?_) ?_ (by rw [hops.out]; kernel_rfl) (by rw [hops.out]; kernel_rfl) ?_ ?_ ?_ hc.out ?_
    rotate_left 2
    · rw [hops.out]; simp only [List.getElem?_toArray, List.getElem?_cons_succ, List.getElem?_cons_zero]; rfl
    · rw [hops.out]; kernel_rfl
    · intro W hW; obtain ⟨j0, j1⟩ := hW; go_simp <;> with_reducible rfl
    · exact fun _ _ _ h => h
    try simp only [Act.put, List.setIfInBounds_toArray, List.set_cons_zero, List.set_cons_succ]
    refine takeL_do 3 (oi := ?_) (v := ?_) ?_ (by rw [hops.out]; kernel_rfl) ?_ ?_ ?_ rfl hc.out ?_
    rotate_left 2
    · rw [hops.out]; simp only [List.getElem?_toArray, List.getElem?_cons_succ, List.getElem?_cons_zero]; rfl
    · rw [hops.out]; kernel_rfl
    · intro W; go_simp <;> with_reducible rfl
    · exact fun _ _ _ h => h
    try simp only [Act.put, List.setIfInBounds_toArray, List.set_cons_zero, List.set_cons_succ]
    refine takeL_do 4 (oi := ?_) (v := ?_) ?_ (by rw [hops.out]; kernel_rfl) ?_ ?_ ?_ rfl hc.out ?_
    rotate_left 2
    · rw [hops.out]; simp only [List.getElem?_toArray, List.getElem?_cons_succ, List.getElem?_cons_zero]; rfl
    · rw [hops.out]; kernel_rfl
    · intro W; go_simp <;> with_reducible rfl
    · exact fun _ _ _ h => h
    try simp only [Act.put, List.setIfInBounds_toArray, List.set_cons_zero, List.set_cons_succ]
    refine takeL_held 5 [6] (oi := ?_) (v := ?_) ?_ (by rw [hops.out]; kernel_rfl) (by rw [hops.out]; kernel_rfl) ?_ ?_ ?_ hc.out ?_
    rotate_left 2
    · rw [hops.out]; simp only [List.getElem?_toArray, List.getElem?_cons_succ, List.getElem?_cons_zero]; rfl
    · rw [hops.out]; kernel_rfl
    · intro W hW; obtain ⟨j0, j1⟩ := hW; go_simp <;> with_reducible rfl
    · exact fun _ _ _ h => h
    try simp only [Act.put, List.setIfInBounds_toArray, List.set_cons_zero, List.set_cons_succ]
    refine takeL_call 6 (oi := ?_) ?_ (by rw [hops.out]; kernel_rfl) ?_ ?_
    rotate_left 1
    · rw [hops.out]; simp only [List.getElem?_toArray, List.getElem?_cons_succ, List.getElem?_cons_zero]; rfl
    · rw [hops.out]; kernel_rfl
    intro K hK
    go_simp
    refine (takeNet_any lo sa m s z0 v1 v2 v3 _ ST3.out (by have := F2.out.below.size; simp; omega) (by omega) (by omega)).mono ?_
    rintro e w9 ⟨rfl, F9, R9⟩
    rw [← GS.out]
    have F3 := hide (F2.out.drew.trans F9)
    have R3 := hide R9
    clear F9 R9
    refine hK.out _ _ (fun h => by simp at h) ?_
    clear hK K
    try simp only [Act.put, List.setIfInBounds_toArray, List.set_cons_zero, List.set_cons_succ]
    refine takeL_call 7 (oi := ?_) ?_ (by rw [hops.out]; kernel_rfl) ?_ ?_
    rotate_left 1
    · rw [hops.out]; simp only [List.getElem?_toArray, List.getElem?_cons_succ, List.getElem?_cons_zero]; rfl
    · rw [hops.out]; kernel_rfl
    intro K hK
    go_simp
    refine hK.out _ _ (fun h => by simp at h) ?_
    clear hK K
    try simp only [Act.put, List.setIfInBounds_toArray, List.set_cons_zero, List.set_cons_succ]
    refine takeL_call 8 (oi := ?_) ?_ (by rw [hops.out]; kernel_rfl) ?_ ?_
    rotate_left 1
    · rw [hops.out]; simp only [List.getElem?_toArray, List.getElem?_cons_succ, List.getElem?_cons_zero]; rfl
    · rw [hops.out]; kernel_rfl
    intro K hK
    go_simp
    refine hK.out _ _ (fun h => by simp at h) ?_
    clear hK K
    try simp only [Act.put, List.setIfInBounds_toArray, List.set_cons_zero, List.set_cons_succ]
    refine wpAnyL_done (by rw [hops.out]; kernel_rfl) (NoPanic.normal ?_) _
    clear hops ops
    go_wp2
    go_ret
    exact ⟨rfl, F3.out, fun s' e => R3.out s' (by rw [← gg.out]; exact e)⟩
end Go.Proofs.YtpiookjdeopmgaaDoor
namespace Go.Proofs.YtpiookjdeopmgaaDoor
open Go.RowKit

set_option linter.unusedSimpArgs false
set_option linter.unusedVariables false

def putLF (s : SD) (l : Lk) : Option SD := if s.es.length = 0 ∧ netOkI ⟨s.n, insB (fun x => decide (ordL x l < 0)) s.ls l, s.ts⟩ = true then some { s with ls := insB (fun x => decide (ordL x l < 0)) s.ls l } else none

set_option maxRecDepth 100000 in
set_option maxHeartbeats 4000000 in
theorem takeL_any (lo sa m : Nat) (s : SD) (l : Lk) (v1 v2 v3 : Value) (w : World) (h : ScAt w lo sa m s v1 v2 v3) (hlo : lo ≤ w.heap.size) (hl : s.ls.length ≤ 900) (ht : s.ts.length ≤ 900) (hmono : ∀ a t, a ≤ t → t < s.ls.length → ltL s.ls l t → ltL s.ls l a) :
    Calls Tryd.prog 53 #[.pointer (some ⟨sa, 0, none⟩), lkV l] w fun e w' => e = .returned (.bool (putLF s l).isSome) ∧ FrS lo w w' ∧ ∀ s', putLF s l = some s' → ScIn w' lo sa m s' := by
  obtain ⟨n, ls, ts, es⟩ := s
  simp only [] at hl ht hmono
  obtain ⟨G, hG⟩ : ∃ G, G = putLF ⟨n, ls, ts, es⟩ l := ⟨_, rfl⟩
  rw [← hG]
  have G0 := hide hG
  clear hG
  obtain ⟨a1, b1, rfl⟩ := owns_lenS h.r1
  obtain ⟨a2, b2, rfl⟩ := owns_lenS h.r2
  obtain ⟨a3, b3, rfl⟩ := owns_lenS h.r3
  simp only [] at h
  have hsa := h.size
  have BX : Below w.heap.size w (w.alloc (.cells #[.int .i64 l.a, .int .i64 l.b, .int .i64 l.c, .int .i64 l.r] 77)) := (Below.refl _ _).alloc (Nat.le_refl _) _
  have hx := heap_alloc_new w (.cells #[.int .i64 l.a, .int .i64 l.b, .int .i64 l.c, .int .i64 l.r] 77)
  obtain ⟨w0, hw0⟩ : ∃ w0, w0 = w.alloc (.cells #[.int .i64 l.a, .int .i64 l.b, .int .i64 l.c, .int .i64 l.r] 77) := ⟨_, rfl⟩
  rw [← hw0] at BX hx
  have hs0 := lt_of_heap hx
  have h0 := h.below BX
  have HR := hide h0.r1
  have HR0 := hide h.r1
  have HP := hide (pipL_any lo _ ls l w0.drew h0.r1.drew (by have := BX.size; simp; omega) (by omega) hmono)
  have hbx := h0.box
  simp only [] at hbx
  have e0 := cells_at hbx 1
  have f0 := cells_at hx 0
  have f1 := cells_at hx 1
  have f2 := cells_at hx 2
  have f3 := cells_at hx 3
  simp at e0 f0 f1 f2 f3
  have hc0 := hide (And.intro e0 (And.intro f0 (And.intro f1 (And.intro f2 f3))))
  have HX := hide hx
  have HS0 := hide h0
  have hsw : sa < w0.heap.size := h0.size
  have hlow := h.low
  have FB := hide (FrS.of (lo := lo) BX hlo)
  clear h h0 hx hbx e0 f0 f1 f2 f3 hmono
  go_enter Tryd.func53, Tryd.ntmps53
  unfold lkV
  go_wp2
  rw [← hw0]
  clear hw0
  refine wp_region_noPanic ?_
  refine wp_region_startL 11 (fun W => W.cell? ⟨sa, 1, none⟩ = some (.slice a1 ls.length b1) ∧ W.cell? ⟨w.heap.size, 0, none⟩ = some (.int .i64 l.a) ∧ W.cell? ⟨w.heap.size, 1, none⟩ = some (.int .i64 l.b) ∧ W.cell? ⟨w.heap.size, 2, none⟩ = some (.int .i64 l.c) ∧ W.cell? ⟨w.heap.size, 3, none⟩ = some (.int .i64 l.r)) (by kernel_rfl) 12 rfl (fun ops hops => ?_)
  refine takeL_do 0 (oi := ?_) (v := ?_) ?_ (by rw [hops.out]; kernel_rfl) ?_ ?_ ?_ rfl hc0.out ?_
  rotate_left 2
  · rw [hops.out]; simp only [List.getElem?_toArray, List.getElem?_cons_succ, List.getElem?_cons_zero]; rfl
  · rw [hops.out]; kernel_rfl
  · intro W; go_simp <;> with_reducible rfl
  · exact fun _ _ _ h => h
  try simp only [Act.put, List.setIfInBounds_toArray, List.set_cons_zero, List.set_cons_succ]
  refine takeL_do 1 (oi := ?_) (v := ?_) ?_ (by rw [hops.out]; kernel_rfl) ?_ ?_ ?_ rfl hc0.out ?_
  rotate_left 2
  · rw [hops.out]; simp only [List.getElem?_toArray, List.getElem?_cons_succ, List.getElem?_cons_zero]; rfl
  · rw [hops.out]; kernel_rfl
  · intro W; go_simp <;> with_reducible rfl
  · exact fun _ _ _ h => h
  try simp only [Act.put, List.setIfInBounds_toArray, List.set_cons_zero, List.set_cons_succ]
  refine takeL_do 2 (oi := ?_) (v := ?_) ?_ (by rw [hops.out]; kernel_rfl) ?_ ?_ ?_ rfl hc0.out ?_
  rotate_left 2
  · rw [hops.out]; simp only [List.getElem?_toArray, List.getElem?_cons_succ, List.getElem?_cons_zero]; rfl
  · rw [hops.out]; kernel_rfl
  · intro W; go_simp <;> with_reducible rfl
  · exact fun _ _ _ h => h
  try simp only [Act.put, List.setIfInBounds_toArray, List.set_cons_zero, List.set_cons_succ]
  refine takeL_do 3 (oi := ?_) (v := ?_) ?_ (by rw [hops.out]; kernel_rfl) ?_ ?_ ?_ rfl hc0.out ?_
  rotate_left 2
  · rw [hops.out]; simp only [List.getElem?_toArray, List.getElem?_cons_succ, List.getElem?_cons_zero]; rfl
  · rw [hops.out]; kernel_rfl
  · intro W; go_simp <;> with_reducible rfl
  · exact fun _ _ _ h => h
  try simp only [Act.put, List.setIfInBounds_toArray, List.set_cons_zero, List.set_cons_succ]
  refine takeL_do 4 (oi := ?_) (v := ?_) ?_ (by rw [hops.out]; kernel_rfl) ?_ ?_ ?_ rfl hc0.out ?_
  rotate_left 2
  · rw [hops.out]; simp only [List.getElem?_toArray, List.getElem?_cons_succ, List.getElem?_cons_zero]; rfl
  · rw [hops.out]; kernel_rfl
  · intro W; go_simp <;> with_reducible rfl
  · exact fun _ _ _ h => h
  try simp only [Act.put, List.setIfInBounds_toArray, List.set_cons_zero, List.set_cons_succ]
  refine takeL_held 5 [7, 11] (oi := ?_) (v := ?_) ?_ (by rw [hops.out]; kernel_rfl) (by rw [hops.out]; kernel_rfl) ?_ ?_ ?_ hc0.out ?_
  rotate_left 2
  · rw [hops.out]; simp only [List.getElem?_toArray, List.getElem?_cons_succ, List.getElem?_cons_zero]; rfl
  · rw [hops.out]; kernel_rfl
  · intro W hW; obtain ⟨j0, j1, j2, j3, j4⟩ := hW; go_simp <;> with_reducible rfl
  · exact fun _ _ _ h => h
  try simp only [Act.put, List.setIfInBounds_toArray, List.set_cons_zero, List.set_cons_succ]
  refine takeL_held 6 [7, 11] (oi := ?_) (v := ?_) ?_ (by rw [hops.out]; kernel_rfl) (by rw [hops.out]; kernel_rfl) ?_ ?_ ?_ hc0.out ?_
  rotate_left 2
  · rw [hops.out]; simp only [List.getElem?_toArray, List.getElem?_cons_succ, List.getElem?_cons_zero]; rfl
  · rw [hops.out]; kernel_rfl
  · intro W hW; obtain ⟨j0, j1, j2, j3, j4⟩ := hW; go_simp <;> with_reducible rfl
  · exact fun _ _ _ h => h
  try simp only [Act.put, List.setIfInBounds_toArray, List.set_cons_zero, List.set_cons_succ]
  refine takeL_call 7 (oi := ?_) ?_ (by rw [hops.out]; kernel_rfl) ?_ ?_
  rotate_left 1
  · rw [hops.out]; simp only [List.getElem?_toArray, List.getElem?_cons_succ, List.getElem?_cons_zero]; rfl
  · rw [hops.out]; kernel_rfl
  intro K hK
  go_simp
  refine HP.out.mono ?_
  rintro e w2 ⟨v', i, rfl, hil, q1, q2, o2, g2⟩
  obtain ⟨N9, hN9⟩ : ∃ N9, N9 = ls.length + 1 := ⟨_, rfl⟩
  rw [← hN9] at o2
  have HN9 := hide hN9
  clear hN9
  obtain ⟨a9, b9, rfl⟩ := owns_lenS o2
  have hbx2 := (g2.block sa hsw (fun e => own_ne HS0.out.r1 HS0.out.box (by decide) e.symm)).trans HS0.out.box
  have hlx2 := (g2.block w.heap.size (lt_of_heap HX.out) (fun e => by have := (HR0.out.lt _ e.symm).2; omega)).trans HX.out
  have e0 := cells_at hbx2 1
  have f0 := cells_at hlx2 0
  have f1 := cells_at hlx2 1
  have f2 := cells_at hlx2 2
  have f3 := cells_at hlx2 3
  simp at e0 f0 f1 f2 f3
  have hc2 := hide (And.intro e0 (And.intro f0 (And.intro f1 (And.intro f2 f3))))
  have LN := hide (ins_len2 (o := fun x => ordL x l) (ls := ls) (l := l) hil q1 q2)
  have O2 := hide o2
  have G2 := hide g2
  have BX2 := hide hbx2
  clear q1 q2 o2 g2 e0 f0 f1 f2 f3 hbx2 hlx2 hil
  refine hK.out _ _ (fun _ => hc2.out) ?_
  clear hK K
  try simp only [Act.put, List.setIfInBounds_toArray, List.set_cons_zero, List.set_cons_succ]
  refine takeL_do 8 (oi := ?_) (v := ?_) ?_ (by rw [hops.out]; kernel_rfl) ?_ ?_ ?_ rfl hc2.out ?_
  rotate_left 2
  · rw [hops.out]; simp only [List.getElem?_toArray, List.getElem?_cons_succ, List.getElem?_cons_zero]; rfl
  · rw [hops.out]; kernel_rfl
  · intro W; go_simp <;> with_reducible rfl
  · exact fun _ _ _ h => h
  try simp only [Act.put, List.setIfInBounds_toArray, List.set_cons_zero, List.set_cons_succ]
  refine takeL_do 9 (oi := ?_) (v := ?_) ?_ (by rw [hops.out]; kernel_rfl) ?_ ?_ ?_ rfl hc2.out ?_
  rotate_left 2
  · rw [hops.out]; simp only [List.getElem?_toArray, List.getElem?_cons_succ, List.getElem?_cons_zero]; rfl
  · rw [hops.out]; kernel_rfl
  · intro W; go_simp <;> with_reducible rfl
  · exact fun _ _ _ h => h
  try simp only [Act.put, List.setIfInBounds_toArray, List.set_cons_zero, List.set_cons_succ]
  refine takeL_do 10 (oi := ?_) (v := ?_) ?_ (by rw [hops.out]; kernel_rfl) ?_ ?_ ?_ rfl hc2.out ?_
  rotate_left 2
  · rw [hops.out]; simp only [List.getElem?_toArray, List.getElem?_cons_succ, List.getElem?_cons_zero]; rfl
  · rw [hops.out]; kernel_rfl
  · intro W; go_simp <;> with_reducible rfl
  · exact fun _ _ _ h => h
  try simp only [Act.put, List.setIfInBounds_toArray, List.set_cons_zero, List.set_cons_succ]
  have fz2 := frozen_at BX2.out
  have e9 := cells_at BX2.out 1
  simp at e9
  refine takeL_call 11 (oi := ?_) ?_ (by rw [hops.out]; kernel_rfl) ?_ ?_
  rotate_left 1
  · rw [hops.out]; simp only [List.getElem?_toArray, List.getElem?_cons_succ, List.getElem?_cons_zero]; rfl
  · rw [hops.out]; kernel_rfl
  intro K hK
  go_simp
  refine hK.out _ _ (fun h => by simp at h) ?_
  clear hK K
  try simp only [Act.put, List.setIfInBounds_toArray, List.set_cons_zero, List.set_cons_succ]
  refine wpAnyL_done (by rw [hops.out]; kernel_rfl) (NoPanic.normal ?_) _
  clear hops ops
  have y := heap_setCell_same _ _ 1 _ _ (.slice a9 N9 b9) BX2.out
  simp only [List.setIfInBounds_toArray, List.set_cons_zero, List.set_cons_succ] at y
  have eqL : ls.take i ++ [l] ++ ls.drop i = insB (fun x => decide (ordL x l < 0)) ls l := LN.out.1
  obtain ⟨IL, hIL⟩ : ∃ IL, IL = insB (fun x => decide (ordL x l < 0)) ls l := ⟨_, rfl⟩
  have O3 := O2.out
  rw [eqL] at O3
  have hILl : IL.length = ls.length + 1 := by rw [hIL]; exact LN.out.2
  have GL : Hid (G = if es.length = 0 ∧ netOkI ⟨n, IL, ts⟩ = true then some ⟨n, IL, ts, es⟩ else none) := by refine hide ?_; rw [G0.out, hIL]; rfl
  rw [← hIL] at O3
  have hN : N9 = IL.length := by rw [HN9.out, hILl]
  clear hIL HN9
  subst hN
  have st : ScAt (w2.setCell ⟨sa, 1, none⟩ (.slice a9 IL.length b9)) lo sa m ⟨n, IL, ts, es⟩ (.slice a9 IL.length b9) (.slice a2 ts.length b2) (.slice a3 es.length b3) :=
    ⟨y, (owns_put O3 BX2.out (by decide)), (owns_put (owns_two HR.out.drew HS0.out.r2.drew (by decide) G2.out) BX2.out (by decide)), (owns_put (owns_two HR.out.drew HS0.out.r3.drew (by decide) G2.out) BX2.out (by decide)), hlow⟩
  have f1 := hide ((FB.out.drew.trans (FrS.grown (lo := lo) G2.out HR.out.drew (Nat.le_refl _) (by have := FB.out.below.size; simp; omega) (by decide))).trans (FrS.set (j := 1) (.slice a9 IL.length b9) BX2.out hlow))
  obtain ⟨W, hW⟩ : ∃ W, W = w2.setCell ⟨sa, 1, none⟩ (.slice a9 IL.length b9) := ⟨_, rfl⟩
  rw [← hW] at st f1 y ⊢
  clear hW eqL
  have hWs : lo ≤ W.heap.size := by have := f1.out.below.size; omega
  have HIL := hide hILl
  have HN := hide (inetOk_any _ ⟨_, _, _⟩ _ (by simp only []; omega) (by simp only []; omega) st.net)
  have d0 := cells_at y 0
  have d1 := cells_at y 1
  have d2 := cells_at y 2
  have d3 := cells_at y 3
  simp at d0 d1 d2 d3
  have ST := hide st
  clear hILl st y O3 e9 fz2
  have S1 := hide (show ∀ W', Below W.heap.size W W' → ScIn W' lo sa m ⟨n, IL, ts, es⟩ from fun W' b => ⟨_, _, _, ST.out.below b⟩)
  rcases es with _ | ⟨x0, xs⟩
  · obtain ⟨q, hq⟩ : ∃ q, q = netOkI ⟨n, IL, ts⟩ := ⟨_, rfl⟩
    rw [← hq] at HN
    have g := hide (show G = if q = true then some ⟨n, IL, ts, []⟩ else none by rw [GL.out, hq]; simp)
    clear hq
    go_wp2_with (first | (go_at_call 72; refine HN.out.mono ?_; rintro e w3 ⟨rfl, bc⟩))
    have F := hide (f1.out.trans (FrS.of bc hWs))
    have S2 := hide (S1.out _ bc)
    clear bc
    cases q
    · go_wp2
      go_ret
      exact ⟨by rw [g.out]; rfl, F.out, fun s' e => by rw [g.out] at e; cases e⟩
    · go_wp2
      go_ret
      exact ⟨by rw [g.out]; rfl, F.out, fun s' e => by rw [g.out] at e; cases e; exact S2.out⟩
  · have g := hide (show G = none by rw [GL.out, if_neg (fun h => by have := h.1; simp at this)])
    have hei : ¬ ((xs.length + 1 : Nat) : Int) = 0 := by omega
    go_wp2
    go_ret
    exact ⟨by rw [g.out]; rfl, f1.out, fun s' e => by rw [g.out] at e; cases e⟩
end Go.Proofs.YtpiookjdeopmgaaDoor
namespace Go.Proofs.YtpiookjdeopmgaaDoor
open Go.RowKit

set_option linter.unusedSimpArgs false
set_option linter.unusedVariables false

def putTF (s : SD) (l : Th) : Option SD := if s.es.length = 0 ∧ netOkI ⟨s.n, s.ls, insB (fun x => decide (ordT x l < 0)) s.ts l⟩ = true then some { s with ts := insB (fun x => decide (ordT x l < 0)) s.ts l } else none

set_option maxRecDepth 100000 in
set_option maxHeartbeats 4000000 in
theorem takeT_any (lo sa m : Nat) (s : SD) (l : Th) (v1 v2 v3 : Value) (w : World) (h : ScAt w lo sa m s v1 v2 v3) (hlo : lo ≤ w.heap.size) (hl : s.ls.length ≤ 900) (ht : s.ts.length ≤ 900) (hmono : ∀ a t, a ≤ t → t < s.ts.length → ltT s.ts l t → ltT s.ts l a) :
    Calls Tryd.prog 76 #[.pointer (some ⟨sa, 0, none⟩), thV l] w fun e w' => e = .returned (.bool (putTF s l).isSome) ∧ FrS lo w w' ∧ ∀ s', putTF s l = some s' → ScIn w' lo sa m s' := by
  obtain ⟨n, ls, ts, es⟩ := s
  simp only [] at hl ht hmono
  obtain ⟨G, hG⟩ : ∃ G, G = putTF ⟨n, ls, ts, es⟩ l := ⟨_, rfl⟩
  rw [← hG]
  have G0 := hide hG
  clear hG
  obtain ⟨a1, b1, rfl⟩ := owns_lenS h.r1
  obtain ⟨a2, b2, rfl⟩ := owns_lenS h.r2
  obtain ⟨a3, b3, rfl⟩ := owns_lenS h.r3
  simp only [] at h
  have hsa := h.size
  have BX : Below w.heap.size w (w.alloc (.cells #[.int .i64 l.o, .int .i64 l.k, .int .i64 l.c, .bool l.f] 81)) := (Below.refl _ _).alloc (Nat.le_refl _) _
  have hx := heap_alloc_new w (.cells #[.int .i64 l.o, .int .i64 l.k, .int .i64 l.c, .bool l.f] 81)
  obtain ⟨w0, hw0⟩ : ∃ w0, w0 = w.alloc (.cells #[.int .i64 l.o, .int .i64 l.k, .int .i64 l.c, .bool l.f] 81) := ⟨_, rfl⟩
  rw [← hw0] at BX hx
  have hs0 := lt_of_heap hx
  have h0 := h.below BX
  have HR := hide h0.r2
  have HR0 := hide h.r2
  have HP := hide (pipT_any lo _ ts l w0.drew h0.r2.drew (by have := BX.size; simp; omega) (by omega) hmono)
  have hbx := h0.box
  simp only [] at hbx
  have e0 := cells_at hbx 2
  have f0 := cells_at hx 0
  have f1 := cells_at hx 1
  have f2 := cells_at hx 2
  have f3 := cells_at hx 3
  simp at e0 f0 f1 f2 f3
  have hc0 := hide (And.intro e0 (And.intro f0 (And.intro f1 (And.intro f2 f3))))
  have HX := hide hx
  have HS0 := hide h0
  have hsw : sa < w0.heap.size := h0.size
  have hlow := h.low
  have FB := hide (FrS.of (lo := lo) BX hlo)
  clear h h0 hx hbx e0 f0 f1 f2 f3 hmono
  go_enter Tryd.func76, Tryd.ntmps76
  unfold thV
  go_wp2
  rw [← hw0]
  clear hw0
  refine wp_region_noPanic ?_
  refine wp_region_startL 11 (fun W => W.cell? ⟨sa, 2, none⟩ = some (.slice a2 ts.length b2) ∧ W.cell? ⟨w.heap.size, 0, none⟩ = some (.int .i64 l.o) ∧ W.cell? ⟨w.heap.size, 1, none⟩ = some (.int .i64 l.k) ∧ W.cell? ⟨w.heap.size, 2, none⟩ = some (.int .i64 l.c) ∧ W.cell? ⟨w.heap.size, 3, none⟩ = some (.bool l.f)) (by kernel_rfl) 12 rfl (fun ops hops => ?_)
  refine takeL_do 0 (oi := ?_) (v := ?_) ?_ (by rw [hops.out]; kernel_rfl) ?_ ?_ ?_ rfl hc0.out ?_
  rotate_left 2
  · rw [hops.out]; simp only [List.getElem?_toArray, List.getElem?_cons_succ, List.getElem?_cons_zero]; rfl
  · rw [hops.out]; kernel_rfl
  · intro W; go_simp <;> with_reducible rfl
  · exact fun _ _ _ h => h
  try simp only [Act.put, List.setIfInBounds_toArray, List.set_cons_zero, List.set_cons_succ]
  refine takeL_do 1 (oi := ?_) (v := ?_) ?_ (by rw [hops.out]; kernel_rfl) ?_ ?_ ?_ rfl hc0.out ?_
  rotate_left 2
  · rw [hops.out]; simp only [List.getElem?_toArray, List.getElem?_cons_succ, List.getElem?_cons_zero]; rfl
  · rw [hops.out]; kernel_rfl
  · intro W; go_simp <;> with_reducible rfl
  · exact fun _ _ _ h => h
  try simp only [Act.put, List.setIfInBounds_toArray, List.set_cons_zero, List.set_cons_succ]
  refine takeL_do 2 (oi := ?_) (v := ?_) ?_ (by rw [hops.out]; kernel_rfl) ?_ ?_ ?_ rfl hc0.out ?_
  rotate_left 2
  · rw [hops.out]; simp only [List.getElem?_toArray, List.getElem?_cons_succ, List.getElem?_cons_zero]; rfl
  · rw [hops.out]; kernel_rfl
  · intro W; go_simp <;> with_reducible rfl
  · exact fun _ _ _ h => h
  try simp only [Act.put, List.setIfInBounds_toArray, List.set_cons_zero, List.set_cons_succ]
  refine takeL_do 3 (oi := ?_) (v := ?_) ?_ (by rw [hops.out]; kernel_rfl) ?_ ?_ ?_ rfl hc0.out ?_
  rotate_left 2
  · rw [hops.out]; simp only [List.getElem?_toArray, List.getElem?_cons_succ, List.getElem?_cons_zero]; rfl
  · rw [hops.out]; kernel_rfl
  · intro W; go_simp <;> with_reducible rfl
  · exact fun _ _ _ h => h
  try simp only [Act.put, List.setIfInBounds_toArray, List.set_cons_zero, List.set_cons_succ]
  refine takeL_do 4 (oi := ?_) (v := ?_) ?_ (by rw [hops.out]; kernel_rfl) ?_ ?_ ?_ rfl hc0.out ?_
  rotate_left 2
  · rw [hops.out]; simp only [List.getElem?_toArray, List.getElem?_cons_succ, List.getElem?_cons_zero]; rfl
  · rw [hops.out]; kernel_rfl
  · intro W; go_simp <;> with_reducible rfl
  · exact fun _ _ _ h => h
  try simp only [Act.put, List.setIfInBounds_toArray, List.set_cons_zero, List.set_cons_succ]
  refine takeL_held 5 [7, 11] (oi := ?_) (v := ?_) ?_ (by rw [hops.out]; kernel_rfl) (by rw [hops.out]; kernel_rfl) ?_ ?_ ?_ hc0.out ?_
  rotate_left 2
  · rw [hops.out]; simp only [List.getElem?_toArray, List.getElem?_cons_succ, List.getElem?_cons_zero]; rfl
  · rw [hops.out]; kernel_rfl
  · intro W hW; obtain ⟨j0, j1, j2, j3, j4⟩ := hW; go_simp <;> with_reducible rfl
  · exact fun _ _ _ h => h
  try simp only [Act.put, List.setIfInBounds_toArray, List.set_cons_zero, List.set_cons_succ]
  refine takeL_held 6 [7, 11] (oi := ?_) (v := ?_) ?_ (by rw [hops.out]; kernel_rfl) (by rw [hops.out]; kernel_rfl) ?_ ?_ ?_ hc0.out ?_
  rotate_left 2
  · rw [hops.out]; simp only [List.getElem?_toArray, List.getElem?_cons_succ, List.getElem?_cons_zero]; rfl
  · rw [hops.out]; kernel_rfl
  · intro W hW; obtain ⟨j0, j1, j2, j3, j4⟩ := hW; go_simp <;> with_reducible rfl
  · exact fun _ _ _ h => h
  try simp only [Act.put, List.setIfInBounds_toArray, List.set_cons_zero, List.set_cons_succ]
  refine takeL_call 7 (oi := ?_) ?_ (by rw [hops.out]; kernel_rfl) ?_ ?_
  rotate_left 1
  · rw [hops.out]; simp only [List.getElem?_toArray, List.getElem?_cons_succ, List.getElem?_cons_zero]; rfl
  · rw [hops.out]; kernel_rfl
  intro K hK
  go_simp
  refine HP.out.mono ?_
  rintro e w2 ⟨v', i, rfl, hil, q1, q2, o2, g2⟩
  obtain ⟨N9, hN9⟩ : ∃ N9, N9 = ts.length + 1 := ⟨_, rfl⟩
  rw [← hN9] at o2
  have HN9 := hide hN9
  clear hN9
  obtain ⟨a9, b9, rfl⟩ := owns_lenS o2
  have hbx2 := (g2.block sa hsw (fun e => own_ne HS0.out.r2 HS0.out.box (by decide) e.symm)).trans HS0.out.box
  have hlx2 := (g2.block w.heap.size (lt_of_heap HX.out) (fun e => by have := (HR0.out.lt _ e.symm).2; omega)).trans HX.out
  have e0 := cells_at hbx2 2
  have f0 := cells_at hlx2 0
  have f1 := cells_at hlx2 1
  have f2 := cells_at hlx2 2
  have f3 := cells_at hlx2 3
  simp at e0 f0 f1 f2 f3
  have hc2 := hide (And.intro e0 (And.intro f0 (And.intro f1 (And.intro f2 f3))))
  have LN := hide (ins_len2 (o := fun x => ordT x l) (ls := ts) (l := l) hil q1 q2)
  have O2 := hide o2
  have G2 := hide g2
  have BX2 := hide hbx2
  clear q1 q2 o2 g2 e0 f0 f1 f2 f3 hbx2 hlx2 hil
  refine hK.out _ _ (fun _ => hc2.out) ?_
  clear hK K
  try simp only [Act.put, List.setIfInBounds_toArray, List.set_cons_zero, List.set_cons_succ]
  refine takeL_do 8 (oi := ?_) (v := ?_) ?_ (by rw [hops.out]; kernel_rfl) ?_ ?_ ?_ rfl hc2.out ?_
  rotate_left 2
  · rw [hops.out]; simp only [List.getElem?_toArray, List.getElem?_cons_succ, List.getElem?_cons_zero]; rfl
  · rw [hops.out]; kernel_rfl
  · intro W; go_simp <;> with_reducible rfl
  · exact fun _ _ _ h => h
  try simp only [Act.put, List.setIfInBounds_toArray, List.set_cons_zero, List.set_cons_succ]
  refine takeL_do 9 (oi := ?_) (v := ?_) ?_ (by rw [hops.out]; kernel_rfl) ?_ ?_ ?_ rfl hc2.out ?_
  rotate_left 2
  · rw [hops.out]; simp only [List.getElem?_toArray, List.getElem?_cons_succ, List.getElem?_cons_zero]; rfl
  · rw [hops.out]; kernel_rfl
  · intro W; go_simp <;> with_reducible rfl
  · exact fun _ _ _ h => h
  try simp only [Act.put, List.setIfInBounds_toArray, List.set_cons_zero, List.set_cons_succ]
  refine takeL_do 10 (oi := ?_) (v := ?_) ?_ (by rw [hops.out]; kernel_rfl) ?_ ?_ ?_ rfl hc2.out ?_
  rotate_left 2
  · rw [hops.out]; simp only [List.getElem?_toArray, List.getElem?_cons_succ, List.getElem?_cons_zero]; rfl
  · rw [hops.out]; kernel_rfl
  · intro W; go_simp <;> with_reducible rfl
  · exact fun _ _ _ h => h
  try simp only [Act.put, List.setIfInBounds_toArray, List.set_cons_zero, List.set_cons_succ]
  have fz2 := frozen_at BX2.out
  have e9 := cells_at BX2.out 2
  simp at e9
  refine takeL_call 11 (oi := ?_) ?_ (by rw [hops.out]; kernel_rfl) ?_ ?_
  rotate_left 1
  · rw [hops.out]; simp only [List.getElem?_toArray, List.getElem?_cons_succ, List.getElem?_cons_zero]; rfl
  · rw [hops.out]; kernel_rfl
  intro K hK
  go_simp
  refine hK.out _ _ (fun h => by simp at h) ?_
  clear hK K
  try simp only [Act.put, List.setIfInBounds_toArray, List.set_cons_zero, List.set_cons_succ]
  refine wpAnyL_done (by rw [hops.out]; kernel_rfl) (NoPanic.normal ?_) _
  clear hops ops
  have y := heap_setCell_same _ _ 2 _ _ (.slice a9 N9 b9) BX2.out
  simp only [List.setIfInBounds_toArray, List.set_cons_zero, List.set_cons_succ] at y
  have eqL : ts.take i ++ [l] ++ ts.drop i = insB (fun x => decide (ordT x l < 0)) ts l := LN.out.1
  obtain ⟨IL, hIL⟩ : ∃ IL, IL = insB (fun x => decide (ordT x l < 0)) ts l := ⟨_, rfl⟩
  have O3 := O2.out
  rw [eqL] at O3
  have hILl : IL.length = ts.length + 1 := by rw [hIL]; exact LN.out.2
  have GL : Hid (G = if es.length = 0 ∧ netOkI ⟨n, ls, IL⟩ = true then some ⟨n, ls, IL, es⟩ else none) := by refine hide ?_; rw [G0.out, hIL]; rfl
  rw [← hIL] at O3
  have hN : N9 = IL.length := by rw [HN9.out, hILl]
  clear hIL HN9
  subst hN
  have st : ScAt (w2.setCell ⟨sa, 2, none⟩ (.slice a9 IL.length b9)) lo sa m ⟨n, ls, IL, es⟩ (.slice a1 ls.length b1) (.slice a9 IL.length b9) (.slice a3 es.length b3) :=
    ⟨y, (owns_put (owns_two HR.out.drew HS0.out.r1.drew (by decide) G2.out) BX2.out (by decide)), (owns_put O3 BX2.out (by decide)), (owns_put (owns_two HR.out.drew HS0.out.r3.drew (by decide) G2.out) BX2.out (by decide)), hlow⟩
  have f1 := hide ((FB.out.drew.trans (FrS.grown (lo := lo) G2.out HR.out.drew (Nat.le_refl _) (by have := FB.out.below.size; simp; omega) (by decide))).trans (FrS.set (j := 2) (.slice a9 IL.length b9) BX2.out hlow))
  obtain ⟨W, hW⟩ : ∃ W, W = w2.setCell ⟨sa, 2, none⟩ (.slice a9 IL.length b9) := ⟨_, rfl⟩
  rw [← hW] at st f1 y ⊢
  clear hW eqL
  have hWs : lo ≤ W.heap.size := by have := f1.out.below.size; omega
  have HIL := hide hILl
  have HN := hide (inetOk_any _ ⟨_, _, _⟩ _ (by simp only []; omega) (by simp only []; omega) st.net)
  have d0 := cells_at y 0
  have d1 := cells_at y 1
  have d2 := cells_at y 2
  have d3 := cells_at y 3
  simp at d0 d1 d2 d3
  have ST := hide st
  clear hILl st y O3 e9 fz2
  have S1 := hide (show ∀ W', Below W.heap.size W W' → ScIn W' lo sa m ⟨n, ls, IL, es⟩ from fun W' b => ⟨_, _, _, ST.out.below b⟩)
  rcases es with _ | ⟨x0, xs⟩
  · obtain ⟨q, hq⟩ : ∃ q, q = netOkI ⟨n, ls, IL⟩ := ⟨_, rfl⟩
    rw [← hq] at HN
    have g := hide (show G = if q = true then some ⟨n, ls, IL, []⟩ else none by rw [GL.out, hq]; simp)
    clear hq
    go_wp2_with (first | (go_at_call 72; refine HN.out.mono ?_; rintro e w3 ⟨rfl, bc⟩))
    have F := hide (f1.out.trans (FrS.of bc hWs))
    have S2 := hide (S1.out _ bc)
    clear bc
    cases q
    · go_wp2
      go_ret
      exact ⟨by rw [g.out]; rfl, F.out, fun s' e => by rw [g.out] at e; cases e⟩
    · go_wp2
      go_ret
      exact ⟨by rw [g.out]; rfl, F.out, fun s' e => by rw [g.out] at e; cases e; exact S2.out⟩
  · have g := hide (show G = none by rw [GL.out, if_neg (fun h => by have := h.1; simp at this)])
    have hei : ¬ ((xs.length + 1 : Nat) : Int) = 0 := by omega
    go_wp2
    go_ret
    exact ⟨by rw [g.out]; rfl, f1.out, fun s' e => by rw [g.out] at e; cases e⟩
end Go.Proofs.YtpiookjdeopmgaaDoor
