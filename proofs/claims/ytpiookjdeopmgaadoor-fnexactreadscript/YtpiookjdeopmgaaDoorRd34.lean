/-
  impl.newScript: its contract.
-/
import Derived.Test.YtpiookjdeopmgaaDoorRd31
namespace Go.Proofs.YtpiookjdeopmgaaDoor
open Go.RowKit

set_option linter.unusedSimpArgs false
set_option linter.unusedVariables false

set_option maxRecDepth 100000 in
set_option maxHeartbeats 4000000 in
theorem newScript_any (w : World) : Calls Tryd.prog 26 #[] w fun e w' => ∃ sa m, e = .returned (.pointer (some ⟨sa, 0, none⟩)) ∧ sa < m ∧ WMap w' sa m (fun _ => True) ∧ ScAt w' w.heap.size sa m ⟨0, [], [], []⟩ (.slice none 0 0) (.slice none 0 0) (.slice (some ⟨w.heap.size, 0, none⟩) 0 0) ∧ Below w.heap.size w w' := by
  obtain ⟨B, hB⟩ : ∃ B, B = w.heap.size := ⟨_, rfl⟩
  have b1 : Below B w (w.alloc (.cells #[] 53)) := (Below.refl B w).alloc (Nat.le_of_eq hB) _
  have c1 := heap_alloc_new w (.cells #[] 53)
  rw [← hB] at c1
  obtain ⟨W1, hW1⟩ : ∃ W1, W1 = w.alloc (.cells #[] 53) := ⟨_, rfl⟩
  have s1 : W1.heap.size = B + 1 := by rw [hW1, hB]; simp
  rw [← hW1] at b1 c1
  have b2 : Below B w (W1.alloc (.cells #[.int .i64 0, .slice none 0 0, .slice none 0 0, .slice (some ⟨B, 0, none⟩) 0 0, .map none] 62)) := b1.alloc (by omega) _
  have c2 := heap_alloc_new W1 (.cells #[.int .i64 0, .slice none 0 0, .slice none 0 0, .slice (some ⟨B, 0, none⟩) 0 0, .map none] 62)
  have d2 : (W1.alloc (.cells #[.int .i64 0, .slice none 0 0, .slice none 0 0, .slice (some ⟨B, 0, none⟩) 0 0, .map none] 62)).heap[B]? = some (.cells #[] 53) := by
    rw [Below.heap_alloc _ _ _ (by omega)]; exact c1
  rw [s1] at c2
  obtain ⟨W2, hW2⟩ : ∃ W2, W2 = W1.alloc (.cells #[.int .i64 0, .slice none 0 0, .slice none 0 0, .slice (some ⟨B, 0, none⟩) 0 0, .map none] 62) := ⟨_, rfl⟩
  have s2 : W2.heap.size = B + 2 := by rw [hW2]; simp [s1]
  rw [← hW2] at b2 c2 d2
  have b3 : Below B w (W2.alloc (.cells #[.pointer (some ⟨B + 1, 0, none⟩)] 57)) := b2.alloc (by omega) _
  have c3 := heap_alloc_new W2 (.cells #[.pointer (some ⟨B + 1, 0, none⟩)] 57)
  have d3 : (W2.alloc (.cells #[.pointer (some ⟨B + 1, 0, none⟩)] 57)).heap[B]? = some (.cells #[] 53) := by
    rw [Below.heap_alloc _ _ _ (by omega)]; exact d2
  have f3 : (W2.alloc (.cells #[.pointer (some ⟨B + 1, 0, none⟩)] 57)).heap[B + 1]? = some (.cells #[.int .i64 0, .slice none 0 0, .slice none 0 0, .slice (some ⟨B, 0, none⟩) 0 0, .map none] 62) := by
    rw [Below.heap_alloc _ _ _ (by omega)]; exact c2
  rw [s2] at c3
  obtain ⟨W3, hW3⟩ : ∃ W3, W3 = W2.alloc (.cells #[.pointer (some ⟨B + 1, 0, none⟩)] 57) := ⟨_, rfl⟩
  have s3 : W3.heap.size = B + 3 := by rw [hW3]; simp [s2]
  rw [← hW3] at b3 c3 d3 f3
  have hall : W3 = ((w.alloc (.cells #[] 53)).alloc (.cells #[.int .i64 0, .slice none 0 0, .slice none 0 0, .slice (some ⟨w.heap.size, 0, none⟩) 0 0, .map none] 62)).alloc (.cells #[.pointer (some ⟨w.heap.size + 1, 0, none⟩)] 57) := by
    rw [hW3, hW2, hW1, hB]
  have HALL := hide hall
  have HB := hide hB
  have H1 := hide (And.intro b3 (And.intro c3 (And.intro d3 (And.intro f3 s3))))
  clear hall hW1 hW2 hW3 b1 b2 b3 c1 c2 c3 d2 d3 f3 s1 s2 s3 hB
  go_enter Tryd.func26, Tryd.ntmps26
  go_wp2
  rw [← HALL.out]
  simp only [← HB.out]
  refine wp_region_noPanic ?_
  refine wp_region_any (by kernel_rfl) ?_
  obtain ⟨b3, c3, d3, f3, s3⟩ := H1.out
  change wpAny Tryd.prog .any nsOps _ 43 (Array.replicate 43 false) _ _
  refine wpAny_inv (ops := nsOps) (I := NsI B B (B + 2) (B + 1) w) ns_ord (fun i l a w h hr => ns_step i l a w h hr) ?_ 43 _ _ _ (by decide) ⟨fun n => (#[Value.pointer none, .pointer (some ⟨B + 2, 0, none⟩), .slice (some ⟨B, 0, none⟩) 0 0, .agg #[.int .i64 0, .slice none 0 0, .slice none 0 0, .slice (some ⟨B, 0, none⟩) 0 0, .map none], .pointer (some ⟨B + 1, 0, none⟩)] : Array Value).getD n undef, rfl, ?_⟩
  rotate_left 1
  · have hf : ∀ i, (Array.replicate 43 false).getD i false = false := fun i => by
      rcases Nat.lt_or_ge i 43 with h | h
      · simp [h]
      · simp [Array.getElem?_eq_none, h]
    refine ⟨by simp, rfl, c3, by omega, fun _ => f3, ?_, ?_, ?_, ?_, ?_, ?_, ?_, ⟨b3.os, b3.tape, b3.output, b3.size, b3.block⟩, Nat.le_of_eq HB.out, d3, ?_⟩
    · intro p _ h; rw [hf] at h; cases h
    · intro p _ h; rw [hf] at h; cases h
    · intro h; rw [hf] at h; cases h
    · intro p _ h; rw [hf] at h; cases h
    · intro h; rw [hf] at h; cases h
    · intro h; rw [hf] at h; cases h
    · intro h; rw [hf] at h; cases h
    · intro h; rw [hf] at h; cases h
  · rintro listed a W ⟨x, rfl, hF⟩ hl
    have hl2 : ∀ i, i < 43 → listed.getD i false = true := fun i hi => by
      have h := hl i hi
      have hs : i < listed.size := by rw [hF.sz]; exact hi
      simp [hs] at h ⊢
      exact h
    obtain ⟨m, e6, hbox⟩ := hF.fin (hl2 42 (by omega))
    obtain ⟨m', e6', hm, hW⟩ := hF.mp (hl2 1 (by omega))
    have hmm : m' = m := by rw [e6] at e6'; cases e6'; rfl
    subst hmm
    have hW9 : WMap W (B + 1) m' (fun _ => True) := hW.mono (fun j hj => ⟨fun _ => trivial, fun _ => by
      have h1 : ∀ j, j < 13 → ∃ p ∈ nsIn, p.2 = j ∧ p.1 < 43 := by decide
      obtain ⟨p, hp, e, h2⟩ := h1 j hj
      exact ⟨p, hp, e, hl2 p.1 h2⟩⟩)
    have hev := hF.evc
    have st : ScAt W B (B + 1) m' ⟨0, [], [], []⟩ (.slice none 0 0) (.slice none 0 0) (.slice (some ⟨B, 0, none⟩) 0 0) :=
      ⟨hbox, World.ownsRow_nil _ _ _ _, World.ownsRow_nil _ _ _ _, ⟨rfl, .inr ⟨B, 0, #[], rfl, Nat.le_refl _, hev, by simp, by simp, by simp, by simp [flat]⟩⟩, by omega⟩
    have c := cells_at hF.zc 0
    simp at c
    have hb := hF.bel
    refine NoPanic.normal ?_
    have e1 := hF.x1
    unfold nsA
    rw [e1]
    have ST := hide (And.intro hm (And.intro hW9 (And.intro st hb)))
    clear e1 e6 e6' hF hbox hW hW9 st hev hb hl hl2 hm c3 d3 f3 s3 b3
    go_wp2
    go_ret
    rw [← HB.out]
    exact ⟨B + 1, m', rfl, ST.out.1, ST.out.2.1, ST.out.2.2.1, ST.out.2.2.2⟩
end Go.Proofs.YtpiookjdeopmgaaDoor
