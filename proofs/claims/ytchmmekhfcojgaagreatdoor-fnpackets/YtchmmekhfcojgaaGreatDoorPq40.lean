/-
  spec.PacketOk: its contract.
-/
import Derived.Test.YtchmmekhfcojgaaGreatDoorPq17
import Derived.Test.YtchmmekhfcojgaaGreatDoorPq4
import Derived.Test.YtchmmekhfcojgaaGreatDoorPq11
namespace Go.Proofs.YtchmmekhfcojgaaGreatDoor
open Go.RowKit

set_option linter.unusedSimpArgs false
set_option linter.unusedVariables false

theorem same_comm (x y : RecD) : sameBodyB x y = sameBodyB y x := by
  have hk : sameKeyB x y = sameKeyB y x := by
    unfold sameKeyB
    rw [Bool.beq_comm (a := x.area), Bool.beq_comm (a := x.kind), Bool.beq_comm (a := x.owner), Bool.beq_comm (a := x.key)]
  unfold sameBodyB
  rw [hk, Bool.beq_comm (a := x.cost), Bool.beq_comm (a := x.far)]
  congr 1
  exact decide_eq_decide.2 ⟨fun h => h.symm, fun h => h.symm⟩

theorem said_kind {x : PkD} {xs : List RecD} (h : inB x.kind 1 3 = false) : saidB x xs = false := by
  simp only [inB, Bool.and_eq_false_iff, decide_eq_false_iff_not] at h
  exact said_none (by omega) (by omega) (by omega)

theorem said_heard {x : PkD} {xs : List RecD} (h : nodesB x.heard = false) : saidB x xs = false := by
  have hl : (x.heard.length == 0) = false := by
    cases e : x.heard with
    | nil => rw [e] at h; cases h
    | cons a l => rfl
  unfold saidB
  split
  · rw [h]; rfl
  · split
    · rw [hl]; rfl
    · split
      · rw [hl]; rfl
      · rfl

theorem said_store {x : PkD} {xs : List RecD} (hk : ¬ x.kind = 1) (h : toldB x.area xs = false) : saidB x xs = false := by
  unfold saidB
  rw [if_neg hk]
  split
  · rw [h]; simp
  · split
    · rw [h]; simp
    · rfl

theorem said_long {x : PkD} {xs : List RecD} (hk : ¬ x.kind = 1) (h : ¬ x.heard.length = 0) : saidB x xs = false := by
  have hl : (x.heard.length == 0) = false := by simpa using h
  unfold saidB
  rw [if_neg hk]
  split
  · rw [hl]; rfl
  · split
    · rw [hl]; rfl
    · rfl

theorem nodes_asc {h : List Int} {k : Nat} (hk : k < h.length) (hb : ascAt cmpN h k = false) : nodesB h = false := by unfold nodesB ascB; rw [all_false hk hb]; simp

set_option maxRecDepth 100000 in
set_option maxHeartbeats 8000000 in
theorem spacketOk_any (v1 v2 : Value) (x : PkD) (ps : List RP) (hi : Nat) (w : World) (ht : totP x ps ≤ 1048576) (hv : PkIn w v1 v2 x ps w.heap.size) (hrc : RecsIn w hi v2 ps) (hhi : hi ≤ w.heap.size) :
    Calls Tryz.prog 57 #[pkV x v1 v2] w fun e w' => e = .returned (.bool (pkB x (fsts ps))) ∧ Below w.heap.size w w' := by
  obtain ⟨⟨a1, c1, rfl⟩, ⟨a2, c2, rfl⟩⟩ := hv.shapes
  have hlH : x.heard.length ≤ 1048576 := by unfold totP at ht; omega
  have hlR : tot ps ≤ 1048576 := by unfold totP at ht; omega
  have hnl := tot_len ps
  have HX := hide hv
  have HRC := hide hrc
  clear hv ht hrc
  have BA : Below w.heap.size w (w.alloc (.cells #[.int .i64 x.kind, .int .i64 x.src, .int .i64 x.dst, .int .i64 x.area, .slice a1 x.heard.length c1, .slice a2 ps.length c2] 27)) := (Below.refl _ _).alloc (Nat.le_refl _) _
  have g0 := heap_alloc_new w (.cells #[.int .i64 x.kind, .int .i64 x.src, .int .i64 x.dst, .int .i64 x.area, .slice a1 x.heard.length c1, .slice a2 ps.length c2] 27)
  have HFL := hide (show (fsts ps).length = ps.length by simp [fsts])
  have I0 := hide (in_any x.kind 1 3)
  have I1 := hide (in_any x.src 1 6)
  have I2 := hide (in_any x.dst 1 6)
  have I3 := hide (in_any x.area 0 2)
  unfold pkB
  obtain ⟨r0, h0⟩ : ∃ r, r = inB x.kind 1 3 := ⟨_, rfl⟩
  obtain ⟨r1, h1⟩ : ∃ r, r = inB x.src 1 6 := ⟨_, rfl⟩
  obtain ⟨r2, h2⟩ : ∃ r, r = inB x.dst 1 6 := ⟨_, rfl⟩
  obtain ⟨r3, h3⟩ : ∃ r, r = inB x.area 0 2 := ⟨_, rfl⟩
  obtain ⟨r4, h4⟩ : ∃ r, r = saidB x (fsts ps) := ⟨_, rfl⟩
  obtain ⟨r5, h5⟩ : ∃ r, r = (x.src == x.dst) := ⟨_, rfl⟩
  rw [← h0] at I0
  rw [← h1] at I1 ⊢
  rw [← h2] at I2 ⊢
  rw [← h3] at I3 ⊢
  rw [← h4, ← h5]
  have SK := hide (show r0 = false → r4 = false from fun h => by rw [h4]; exact said_kind (by rw [← h0]; exact h))
  have KI := hide (show r0 = true → 1 ≤ x.kind ∧ x.kind ≤ 3 from fun h => by rw [h0] at h; simpa [inB] using h)
  have R4 := hide h4
  have R5 := hide (show (x.src == x.dst) = r5 from h5.symm)
  clear h0 h1 h2 h3 h4 h5
  have G0 := hide g0
  clear g0
  obtain ⟨w0, hw0⟩ : ∃ W, W = w.alloc (.cells #[.int .i64 x.kind, .int .i64 x.src, .int .i64 x.dst, .int .i64 x.area, .slice a1 x.heard.length c1, .slice a2 ps.length c2] 27) := ⟨_, rfl⟩
  rw [← hw0] at BA G0
  have s0 := cells_at G0.out 0
  have s1 := cells_at G0.out 1
  have s2 := cells_at G0.out 2
  have s3 := cells_at G0.out 3
  have s4 := cells_at G0.out 4
  have s5 := cells_at G0.out 5
  simp at s0 s1 s2 s3 s4 s5
  go_enter Tryz.func57, Tryz.ntmps57
  go_wp2_with fail
  rw [← hw0]
  clear hw0
  refine (I0.out _).mono ?_
  rintro e w1 ⟨rfl, rfl⟩
  cases r0
  · go_wp2
    go_ret
    exact ⟨by rw [SK.out trivial]; simp, BA⟩
  go_wp2_with fail
  refine (I1.out _).mono ?_
  rintro e w1 ⟨rfl, rfl⟩
  cases r1
  · go_wp2
    go_ret
    exact ⟨rfl, BA⟩
  go_wp2_with fail
  refine (I2.out _).mono ?_
  rintro e w1 ⟨rfl, rfl⟩
  cases r2
  · go_wp2
    go_ret
    exact ⟨rfl, BA⟩
  have hb5 := R5.out
  cases r5
  case true =>
    go_wp2_with fail
    go_ret
    exact ⟨rfl, BA⟩
  go_wp2_with fail
  refine (I3.out _).mono ?_
  rintro e w1 ⟨rfl, rfl⟩
  cases r3
  · go_wp2
    go_ret
    exact ⟨rfl, BA⟩
  have KK := KI.out trivial
  clear hb5 R5 I0 I1 I2 I3 SK KI
  go_wp2_with fail
  obtain ⟨bx, hbx⟩ : ∃ z, z = w.heap.size := ⟨_, rfl⟩
  rw [← hbx] at s0 s1 s2 s3 s4 s5 G0 ⊢
  have hbl := lt_of_heap G0.out
  clear hbx
  go_loopw [3] (fun i wr => ∃ k : Nat, k ≤ x.heard.length ∧ i = .int .i64 k ∧ (∀ j, j < k → okAt (fun z => inB z 1 6) x.heard j = true) ∧ (∀ j, j < k → ascAt cmpN x.heard j = true) ∧ Below w0.heap.size w0 wr) (fun i _ => x.heard.length - (intOf i).toNat)
  case atStart => exact ⟨0, by omega, rfl, by omega, by omega, Below.refl _ _⟩
  case round =>
    obtain ⟨k, hk, rfl, hall, hasc, hnx⟩ := hrel
    have HALL := hide hall
    have HASC := hide hasc
    clear hall hasc s0 s1 s2 s3 s4 s5
    have hsz := hnx.size
    have gr := (hnx.block _ hbl).trans G0.out
    have s0 := cells_at gr 0
    have s4 := cells_at gr 4
    have s5 := cells_at gr 5
    simp at s0 s4 s5
    clear gr
    by_cases hlt : k < x.heard.length
    · obtain ⟨z, hz⟩ : ∃ z, x.heard[k]? = some z := ⟨x.heard[k], List.getElem?_eq_getElem hlt⟩
      obtain ⟨b, off, cap', hve, hbb, d0⟩ := HopsAt.cell (HX.out.then BA).heard k z hz
      cases hve
      rw [← hnx.cell (p := ⟨b, off + k, none⟩) hbb] at d0
      have HAT1 := hide (okAt_eq (ok := fun z => inB z 1 6) hz)
      have HIN := hide (in_any z 1 6)
      obtain ⟨q, hq⟩ : ∃ q, q = inB z 1 6 := ⟨_, rfl⟩
      rw [← hq] at HAT1 HIN
      have HZ := hide hz
      clear hq hz
      have hbr : b < wr.heap.size := by omega
      have hki : (0 : Int) ≤ (k : Int) := by omega
      have hkj : (k : Int) < (x.heard.length : Int) := by omega
      have hnd : Below w0.heap.size w0 wr.drew := hnx.drew
      have BD : Below w.heap.size w wr.drew := BA.trans (hnd.mono BA.size)
      cases q
      · have HF := hide (said_heard (x := x) (xs := fsts ps) (nodes_bad hlt HAT1.out))
        go_wp2
        refine wp_region_start (S := (fun W => W.cell? ⟨bx, 4, none⟩ = some (.slice (some ⟨b, off, none⟩) x.heard.length c1) ∧ W.cell? ⟨b, off + k, none⟩ = some (.int .i64 z))) (by kernel_rfl) 25 rfl ⟨s4, d0⟩ (fun ops hops hHeld => ?_)
        refine take_do 0 (oi := ?_) (v := ?_) ?_ (by rw [hops.out]; kernel_rfl) ?_ ?_ ?_ (by assumption) ?_
        rotate_left 2
        · rw [hops.out]; simp only [List.getElem?_toArray, List.getElem?_cons_succ, List.getElem?_cons_zero]; rfl
        · rw [hops.out]; kernel_rfl
        · intro W hW; (try dsimp only at hW); go_simp <;> with_reducible rfl
        · exact fun _ _ _ h => h
        try simp only [Act.put, List.setIfInBounds_toArray, List.set_cons_zero, List.set_cons_succ]
        refine take_do 1 (oi := ?_) (v := ?_) ?_ (by rw [hops.out]; kernel_rfl) ?_ ?_ ?_ (by assumption) ?_
        rotate_left 2
        · rw [hops.out]; simp only [List.getElem?_toArray, List.getElem?_cons_succ, List.getElem?_cons_zero]; rfl
        · rw [hops.out]; kernel_rfl
        · intro W hW; (try dsimp only at hW); go_simp <;> with_reducible rfl
        · exact fun _ _ _ h => h
        try simp only [Act.put, List.setIfInBounds_toArray, List.set_cons_zero, List.set_cons_succ]
        refine take_do 2 (oi := ?_) (v := ?_) ?_ (by rw [hops.out]; kernel_rfl) ?_ ?_ ?_ (by assumption) ?_
        rotate_left 2
        · rw [hops.out]; simp only [List.getElem?_toArray, List.getElem?_cons_succ, List.getElem?_cons_zero]; rfl
        · rw [hops.out]; kernel_rfl
        · intro W hW; (try dsimp only at hW); go_simp <;> with_reducible rfl
        · exact fun _ _ _ h => h
        try simp only [Act.put, List.setIfInBounds_toArray, List.set_cons_zero, List.set_cons_succ]
        refine take_do 3 (oi := ?_) (v := ?_) ?_ (by rw [hops.out]; kernel_rfl) ?_ ?_ ?_ (by assumption) ?_
        rotate_left 2
        · rw [hops.out]; simp only [List.getElem?_toArray, List.getElem?_cons_succ, List.getElem?_cons_zero]; rfl
        · rw [hops.out]; kernel_rfl
        · intro W hW; (try dsimp only at hW); go_simp <;> with_reducible rfl
        · exact fun _ _ _ h => h
        try simp only [Act.put, List.setIfInBounds_toArray, List.set_cons_zero, List.set_cons_succ]
        refine take_do 4 (oi := ?_) (v := ?_) ?_ (by rw [hops.out]; kernel_rfl) ?_ ?_ ?_ (by assumption) ?_
        rotate_left 2
        · rw [hops.out]; simp only [List.getElem?_toArray, List.getElem?_cons_succ, List.getElem?_cons_zero]; rfl
        · rw [hops.out]; kernel_rfl
        · intro W hW; (try dsimp only at hW); go_simp <;> with_reducible rfl
        · exact fun _ _ _ h => h
        try simp only [Act.put, List.setIfInBounds_toArray, List.set_cons_zero, List.set_cons_succ]
        refine take_call 5 (oi := ?_) ?_ (by rw [hops.out]; kernel_rfl) ?_ ?_
        rotate_left 1
        · rw [hops.out]; simp only [List.getElem?_toArray, List.getElem?_cons_succ, List.getElem?_cons_zero]; rfl
        · rw [hops.out]; kernel_rfl
        intro K hK
        go_simp
        refine (HIN.out _).mono ?_
        rintro e w1 ⟨rfl, rfl⟩
        refine hK.out _ _ (by assumption) (fun hHeld => ?_)
        clear hK K
        try simp only [Act.put, List.setIfInBounds_toArray, List.set_cons_zero, List.set_cons_succ]
        refine take_do 6 (oi := ?_) (v := ?_) ?_ (by rw [hops.out]; kernel_rfl) ?_ ?_ ?_ (by assumption) ?_
        rotate_left 2
        · rw [hops.out]; simp only [List.getElem?_toArray, List.getElem?_cons_succ, List.getElem?_cons_zero]; rfl
        · rw [hops.out]; kernel_rfl
        · intro W hW; (try dsimp only at hW); go_simp <;> with_reducible rfl
        · exact fun _ _ _ h => h
        try simp only [Act.put, List.setIfInBounds_toArray, List.set_cons_zero, List.set_cons_succ]
        refine take_do 7 (oi := ?_) (v := ?_) ?_ (by rw [hops.out]; kernel_rfl) ?_ ?_ ?_ (by assumption) ?_
        rotate_left 2
        · rw [hops.out]; simp only [List.getElem?_toArray, List.getElem?_cons_succ, List.getElem?_cons_zero]; rfl
        · rw [hops.out]; kernel_rfl
        · intro W hW; (try dsimp only at hW); go_simp <;> with_reducible rfl
        · exact fun _ _ _ h => h
        try simp only [Act.put, List.setIfInBounds_toArray, List.set_cons_zero, List.set_cons_succ]
        refine take_skip 8 50 (by rw [hops.out]; kernel_rfl) (by rw [hops.out]; kernel_rfl) (by rw [hops.out]; kernel_rfl) (fun _ _ _ h => h) (by assumption) ?_
        try simp only [Act.put, List.setIfInBounds_toArray, List.set_cons_zero, List.set_cons_succ]
        refine take_skip 9 51 (by rw [hops.out]; kernel_rfl) (by rw [hops.out]; kernel_rfl) (by rw [hops.out]; kernel_rfl) (fun _ _ _ h => h) (by assumption) ?_
        try simp only [Act.put, List.setIfInBounds_toArray, List.set_cons_zero, List.set_cons_succ]
        refine take_skip 10 52 (by rw [hops.out]; kernel_rfl) (by rw [hops.out]; kernel_rfl) (by rw [hops.out]; kernel_rfl) (fun _ _ _ h => h) (by assumption) ?_
        try simp only [Act.put, List.setIfInBounds_toArray, List.set_cons_zero, List.set_cons_succ]
        refine take_skip 11 53 (by rw [hops.out]; kernel_rfl) (by rw [hops.out]; kernel_rfl) (by rw [hops.out]; kernel_rfl) (fun _ _ _ h => h) (by assumption) ?_
        try simp only [Act.put, List.setIfInBounds_toArray, List.set_cons_zero, List.set_cons_succ]
        refine take_skip 12 54 (by rw [hops.out]; kernel_rfl) (by rw [hops.out]; kernel_rfl) (by rw [hops.out]; kernel_rfl) (fun _ _ _ h => h) (by assumption) ?_
        try simp only [Act.put, List.setIfInBounds_toArray, List.set_cons_zero, List.set_cons_succ]
        refine take_skip 13 55 (by rw [hops.out]; kernel_rfl) (by rw [hops.out]; kernel_rfl) (by rw [hops.out]; kernel_rfl) (fun _ _ _ h => h) (by assumption) ?_
        try simp only [Act.put, List.setIfInBounds_toArray, List.set_cons_zero, List.set_cons_succ]
        refine take_skip 14 56 (by rw [hops.out]; kernel_rfl) (by rw [hops.out]; kernel_rfl) (by rw [hops.out]; kernel_rfl) (fun _ _ _ h => h) (by assumption) ?_
        try simp only [Act.put, List.setIfInBounds_toArray, List.set_cons_zero, List.set_cons_succ]
        refine take_skip 15 57 (by rw [hops.out]; kernel_rfl) (by rw [hops.out]; kernel_rfl) (by rw [hops.out]; kernel_rfl) (fun _ _ _ h => h) (by assumption) ?_
        try simp only [Act.put, List.setIfInBounds_toArray, List.set_cons_zero, List.set_cons_succ]
        refine take_skip 16 58 (by rw [hops.out]; kernel_rfl) (by rw [hops.out]; kernel_rfl) (by rw [hops.out]; kernel_rfl) (fun _ _ _ h => h) (by assumption) ?_
        try simp only [Act.put, List.setIfInBounds_toArray, List.set_cons_zero, List.set_cons_succ]
        refine take_skip 17 59 (by rw [hops.out]; kernel_rfl) (by rw [hops.out]; kernel_rfl) (by rw [hops.out]; kernel_rfl) (fun _ _ _ h => h) (by assumption) ?_
        try simp only [Act.put, List.setIfInBounds_toArray, List.set_cons_zero, List.set_cons_succ]
        refine take_skip 18 60 (by rw [hops.out]; kernel_rfl) (by rw [hops.out]; kernel_rfl) (by rw [hops.out]; kernel_rfl) (fun _ _ _ h => h) (by assumption) ?_
        try simp only [Act.put, List.setIfInBounds_toArray, List.set_cons_zero, List.set_cons_succ]
        refine take_skip 19 61 (by rw [hops.out]; kernel_rfl) (by rw [hops.out]; kernel_rfl) (by rw [hops.out]; kernel_rfl) (fun _ _ _ h => h) (by assumption) ?_
        try simp only [Act.put, List.setIfInBounds_toArray, List.set_cons_zero, List.set_cons_succ]
        refine take_skip 20 62 (by rw [hops.out]; kernel_rfl) (by rw [hops.out]; kernel_rfl) (by rw [hops.out]; kernel_rfl) (fun _ _ _ h => h) (by assumption) ?_
        try simp only [Act.put, List.setIfInBounds_toArray, List.set_cons_zero, List.set_cons_succ]
        refine take_skip 21 63 (by rw [hops.out]; kernel_rfl) (by rw [hops.out]; kernel_rfl) (by rw [hops.out]; kernel_rfl) (fun _ _ _ h => h) (by assumption) ?_
        try simp only [Act.put, List.setIfInBounds_toArray, List.set_cons_zero, List.set_cons_succ]
        refine take_skip 22 64 (by rw [hops.out]; kernel_rfl) (by rw [hops.out]; kernel_rfl) (by rw [hops.out]; kernel_rfl) (fun _ _ _ h => h) (by assumption) ?_
        try simp only [Act.put, List.setIfInBounds_toArray, List.set_cons_zero, List.set_cons_succ]
        refine take_skip 23 65 (by rw [hops.out]; kernel_rfl) (by rw [hops.out]; kernel_rfl) (by rw [hops.out]; kernel_rfl) (fun _ _ _ h => h) (by assumption) ?_
        try simp only [Act.put, List.setIfInBounds_toArray, List.set_cons_zero, List.set_cons_succ]
        refine take_do 24 (oi := ?_) (v := ?_) ?_ (by rw [hops.out]; kernel_rfl) ?_ ?_ ?_ (by assumption) ?_
        rotate_left 2
        · rw [hops.out]; simp only [List.getElem?_toArray, List.getElem?_cons_succ, List.getElem?_cons_zero]; rfl
        · rw [hops.out]; kernel_rfl
        · intro W hW; (try dsimp only at hW); go_simp <;> with_reducible rfl
        · exact fun _ _ _ h => h
        try simp only [Act.put, List.setIfInBounds_toArray, List.set_cons_zero, List.set_cons_succ]
        refine wpAnyH_done (by rw [hops.out]; kernel_rfl) ?_ _
        clear hops ops
        go_wp2
        go_ret
        exact ⟨by rw [R4.out, HF.out]; rfl, BD⟩
      by_cases hk0 : k = 0
      · have hk1 : ¬ (0 : Int) < (k : Int) := by omega
        have hk2 : decide (0 < k) = false := decide_eq_false (by omega)
        have hk3 : decide ((0 : Int) < (k : Int)) = false := decide_eq_false hk1
        have HAT2 := hide (show ascAt cmpN x.heard k = true by rw [hk0]; rfl)
        clear hk0
        go_wp2
        refine wp_region_start (S := (fun W => W.cell? ⟨bx, 4, none⟩ = some (.slice (some ⟨b, off, none⟩) x.heard.length c1) ∧ W.cell? ⟨b, off + k, none⟩ = some (.int .i64 z))) (by kernel_rfl) 25 rfl ⟨s4, d0⟩ (fun ops hops hHeld => ?_)
        refine take_do 0 (oi := ?_) (v := ?_) ?_ (by rw [hops.out]; kernel_rfl) ?_ ?_ ?_ (by assumption) ?_
        rotate_left 2
        · rw [hops.out]; simp only [List.getElem?_toArray, List.getElem?_cons_succ, List.getElem?_cons_zero]; rfl
        · rw [hops.out]; kernel_rfl
        · intro W hW; (try dsimp only at hW); go_simp <;> with_reducible rfl
        · exact fun _ _ _ h => h
        try simp only [Act.put, List.setIfInBounds_toArray, List.set_cons_zero, List.set_cons_succ]
        refine take_do 1 (oi := ?_) (v := ?_) ?_ (by rw [hops.out]; kernel_rfl) ?_ ?_ ?_ (by assumption) ?_
        rotate_left 2
        · rw [hops.out]; simp only [List.getElem?_toArray, List.getElem?_cons_succ, List.getElem?_cons_zero]; rfl
        · rw [hops.out]; kernel_rfl
        · intro W hW; (try dsimp only at hW); go_simp <;> with_reducible rfl
        · exact fun _ _ _ h => h
        try simp only [Act.put, List.setIfInBounds_toArray, List.set_cons_zero, List.set_cons_succ]
        refine take_do 2 (oi := ?_) (v := ?_) ?_ (by rw [hops.out]; kernel_rfl) ?_ ?_ ?_ (by assumption) ?_
        rotate_left 2
        · rw [hops.out]; simp only [List.getElem?_toArray, List.getElem?_cons_succ, List.getElem?_cons_zero]; rfl
        · rw [hops.out]; kernel_rfl
        · intro W hW; (try dsimp only at hW); go_simp <;> with_reducible rfl
        · exact fun _ _ _ h => h
        try simp only [Act.put, List.setIfInBounds_toArray, List.set_cons_zero, List.set_cons_succ]
        refine take_do 3 (oi := ?_) (v := ?_) ?_ (by rw [hops.out]; kernel_rfl) ?_ ?_ ?_ (by assumption) ?_
        rotate_left 2
        · rw [hops.out]; simp only [List.getElem?_toArray, List.getElem?_cons_succ, List.getElem?_cons_zero]; rfl
        · rw [hops.out]; kernel_rfl
        · intro W hW; (try dsimp only at hW); go_simp <;> with_reducible rfl
        · exact fun _ _ _ h => h
        try simp only [Act.put, List.setIfInBounds_toArray, List.set_cons_zero, List.set_cons_succ]
        refine take_do 4 (oi := ?_) (v := ?_) ?_ (by rw [hops.out]; kernel_rfl) ?_ ?_ ?_ (by assumption) ?_
        rotate_left 2
        · rw [hops.out]; simp only [List.getElem?_toArray, List.getElem?_cons_succ, List.getElem?_cons_zero]; rfl
        · rw [hops.out]; kernel_rfl
        · intro W hW; (try dsimp only at hW); go_simp <;> with_reducible rfl
        · exact fun _ _ _ h => h
        try simp only [Act.put, List.setIfInBounds_toArray, List.set_cons_zero, List.set_cons_succ]
        refine take_call 5 (oi := ?_) ?_ (by rw [hops.out]; kernel_rfl) ?_ ?_
        rotate_left 1
        · rw [hops.out]; simp only [List.getElem?_toArray, List.getElem?_cons_succ, List.getElem?_cons_zero]; rfl
        · rw [hops.out]; kernel_rfl
        intro K hK
        go_simp
        refine (HIN.out _).mono ?_
        rintro e w1 ⟨rfl, rfl⟩
        refine hK.out _ _ (by assumption) (fun hHeld => ?_)
        clear hK K
        try simp only [Act.put, List.setIfInBounds_toArray, List.set_cons_zero, List.set_cons_succ]
        refine take_do 6 (oi := ?_) (v := ?_) ?_ (by rw [hops.out]; kernel_rfl) ?_ ?_ ?_ (by assumption) ?_
        rotate_left 2
        · rw [hops.out]; simp only [List.getElem?_toArray, List.getElem?_cons_succ, List.getElem?_cons_zero]; rfl
        · rw [hops.out]; kernel_rfl
        · intro W hW; (try dsimp only at hW); go_simp <;> with_reducible rfl
        · exact fun _ _ _ h => h
        try simp only [Act.put, List.setIfInBounds_toArray, List.set_cons_zero, List.set_cons_succ]
        refine take_do 7 (oi := ?_) (v := ?_) ?_ (by rw [hops.out]; kernel_rfl) ?_ ?_ ?_ (by assumption) ?_
        rotate_left 2
        · rw [hops.out]; simp only [List.getElem?_toArray, List.getElem?_cons_succ, List.getElem?_cons_zero]; rfl
        · rw [hops.out]; kernel_rfl
        · intro W hW; (try dsimp only at hW); go_simp <;> with_reducible rfl
        · exact fun _ _ _ h => h
        try simp only [Act.put, List.setIfInBounds_toArray, List.set_cons_zero, List.set_cons_succ]
        refine take_do 8 (oi := ?_) (v := ?_) ?_ (by rw [hops.out]; kernel_rfl) ?_ ?_ ?_ (by assumption) ?_
        rotate_left 2
        · rw [hops.out]; simp only [List.getElem?_toArray, List.getElem?_cons_succ, List.getElem?_cons_zero]; rfl
        · rw [hops.out]; kernel_rfl
        · intro W hW; (try dsimp only at hW); go_simp <;> with_reducible rfl
        · exact fun _ _ _ h => h
        try simp only [Act.put, List.setIfInBounds_toArray, List.set_cons_zero, List.set_cons_succ]
        refine take_do 9 (oi := ?_) (v := ?_) ?_ (by rw [hops.out]; kernel_rfl) ?_ ?_ ?_ (by assumption) ?_
        rotate_left 2
        · rw [hops.out]; simp only [List.getElem?_toArray, List.getElem?_cons_succ, List.getElem?_cons_zero]; rfl
        · rw [hops.out]; kernel_rfl
        · intro W hW; (try dsimp only at hW); go_simp <;> with_reducible rfl
        · exact fun _ _ _ h => h
        try simp only [Act.put, List.setIfInBounds_toArray, List.set_cons_zero, List.set_cons_succ]
        refine take_do 10 (oi := ?_) (v := ?_) ?_ (by rw [hops.out]; kernel_rfl) ?_ ?_ ?_ (by assumption) ?_
        rotate_left 2
        · rw [hops.out]; simp only [List.getElem?_toArray, List.getElem?_cons_succ, List.getElem?_cons_zero]; rfl
        · rw [hops.out]; kernel_rfl
        · intro W hW; (try dsimp only at hW); go_simp <;> with_reducible rfl
        · exact fun _ _ _ h => h
        try simp only [Act.put, List.setIfInBounds_toArray, List.set_cons_zero, List.set_cons_succ]
        refine take_skip 11 53 (by rw [hops.out]; kernel_rfl) (by rw [hops.out]; kernel_rfl) (by rw [hops.out]; kernel_rfl) (fun _ _ _ h => h) (by assumption) ?_
        try simp only [Act.put, List.setIfInBounds_toArray, List.set_cons_zero, List.set_cons_succ]
        refine take_skip 12 54 (by rw [hops.out]; kernel_rfl) (by rw [hops.out]; kernel_rfl) (by rw [hops.out]; kernel_rfl) (fun _ _ _ h => h) (by assumption) ?_
        try simp only [Act.put, List.setIfInBounds_toArray, List.set_cons_zero, List.set_cons_succ]
        refine take_skip 13 55 (by rw [hops.out]; kernel_rfl) (by rw [hops.out]; kernel_rfl) (by rw [hops.out]; kernel_rfl) (fun _ _ _ h => h) (by assumption) ?_
        try simp only [Act.put, List.setIfInBounds_toArray, List.set_cons_zero, List.set_cons_succ]
        refine take_skip 14 56 (by rw [hops.out]; kernel_rfl) (by rw [hops.out]; kernel_rfl) (by rw [hops.out]; kernel_rfl) (fun _ _ _ h => h) (by assumption) ?_
        try simp only [Act.put, List.setIfInBounds_toArray, List.set_cons_zero, List.set_cons_succ]
        refine take_skip 15 57 (by rw [hops.out]; kernel_rfl) (by rw [hops.out]; kernel_rfl) (by rw [hops.out]; kernel_rfl) (fun _ _ _ h => h) (by assumption) ?_
        try simp only [Act.put, List.setIfInBounds_toArray, List.set_cons_zero, List.set_cons_succ]
        refine take_skip 16 58 (by rw [hops.out]; kernel_rfl) (by rw [hops.out]; kernel_rfl) (by rw [hops.out]; kernel_rfl) (fun _ _ _ h => h) (by assumption) ?_
        try simp only [Act.put, List.setIfInBounds_toArray, List.set_cons_zero, List.set_cons_succ]
        refine take_skip 17 59 (by rw [hops.out]; kernel_rfl) (by rw [hops.out]; kernel_rfl) (by rw [hops.out]; kernel_rfl) (fun _ _ _ h => h) (by assumption) ?_
        try simp only [Act.put, List.setIfInBounds_toArray, List.set_cons_zero, List.set_cons_succ]
        refine take_skip 18 60 (by rw [hops.out]; kernel_rfl) (by rw [hops.out]; kernel_rfl) (by rw [hops.out]; kernel_rfl) (fun _ _ _ h => h) (by assumption) ?_
        try simp only [Act.put, List.setIfInBounds_toArray, List.set_cons_zero, List.set_cons_succ]
        refine take_skip 19 61 (by rw [hops.out]; kernel_rfl) (by rw [hops.out]; kernel_rfl) (by rw [hops.out]; kernel_rfl) (fun _ _ _ h => h) (by assumption) ?_
        try simp only [Act.put, List.setIfInBounds_toArray, List.set_cons_zero, List.set_cons_succ]
        refine take_skip 20 62 (by rw [hops.out]; kernel_rfl) (by rw [hops.out]; kernel_rfl) (by rw [hops.out]; kernel_rfl) (fun _ _ _ h => h) (by assumption) ?_
        try simp only [Act.put, List.setIfInBounds_toArray, List.set_cons_zero, List.set_cons_succ]
        refine take_skip 21 63 (by rw [hops.out]; kernel_rfl) (by rw [hops.out]; kernel_rfl) (by rw [hops.out]; kernel_rfl) (fun _ _ _ h => h) (by assumption) ?_
        try simp only [Act.put, List.setIfInBounds_toArray, List.set_cons_zero, List.set_cons_succ]
        refine take_skip 22 64 (by rw [hops.out]; kernel_rfl) (by rw [hops.out]; kernel_rfl) (by rw [hops.out]; kernel_rfl) (fun _ _ _ h => h) (by assumption) ?_
        try simp only [Act.put, List.setIfInBounds_toArray, List.set_cons_zero, List.set_cons_succ]
        refine take_do 23 (oi := ?_) (v := ?_) ?_ (by rw [hops.out]; kernel_rfl) ?_ ?_ ?_ (by assumption) ?_
        rotate_left 2
        · rw [hops.out]; simp only [List.getElem?_toArray, List.getElem?_cons_succ, List.getElem?_cons_zero]; rfl
        · rw [hops.out]; kernel_rfl
        · intro W hW; (try dsimp only at hW); go_simp <;> with_reducible rfl
        · exact fun _ _ _ h => h
        try simp only [Act.put, List.setIfInBounds_toArray, List.set_cons_zero, List.set_cons_succ]
        refine take_do 24 (oi := ?_) (v := ?_) ?_ (by rw [hops.out]; kernel_rfl) ?_ ?_ ?_ (by assumption) ?_
        rotate_left 2
        · rw [hops.out]; simp only [List.getElem?_toArray, List.getElem?_cons_succ, List.getElem?_cons_zero]; rfl
        · rw [hops.out]; kernel_rfl
        · intro W hW; (try dsimp only at hW); go_simp <;> with_reducible rfl
        · exact fun _ _ _ h => h
        try simp only [Act.put, List.setIfInBounds_toArray, List.set_cons_zero, List.set_cons_succ]
        refine wpAnyH_done (by rw [hops.out]; kernel_rfl) ?_ _
        clear hops ops
        go_wp2
        go_roundw
        case rel => exact ⟨k + 1, by omega, by go_num, next_true HALL.out HAT1.out, next_true HASC.out HAT2.out, hnd⟩
        case measure => simp [intOf]; omega
      · have hk1 : (0 : Int) < (k : Int) := by omega
        have hk2 : decide (0 < k) = true := decide_eq_true (by omega)
        have hk3 : decide ((0 : Int) < (k : Int)) = true := decide_eq_true hk1
        obtain ⟨j, hj⟩ : ∃ j, k = j + 1 := ⟨k - 1, by omega⟩
        obtain ⟨p, hp⟩ : ∃ p, x.heard[j]? = some p := ⟨x.heard[j], List.getElem?_eq_getElem (by omega)⟩
        obtain ⟨b2, off2, cap2, hve, hbb2, f0⟩ := HopsAt.cell (HX.out.then BA).heard j p hp
        cases hve
        rw [← hnx.cell (p := ⟨b, off + j, none⟩) hbb2] at f0
        have HAT2 := hide (show ascAt cmpN x.heard k = decide (cmpN p z < 0) by rw [hj]; exact ascAt_eq hp (by rw [← hj]; exact HZ.out))
        have hj1 : (k : Int) - 1 = (j : Int) := by omega
        have hj2 : (0 : Int) ≤ (j : Int) := by omega
        have hj3 : (j : Int) < (x.heard.length : Int) := by omega
        have hj5 : IntKind.i64.wrap (j : Int) = (j : Int) := wrap_fit _ (by omega) (by omega)
        clear hk0 hj hp
        by_cases hpz : p < z
        · have hge : ¬ z ≤ p := by omega
          have HT := hide (show ascAt cmpN x.heard k = true by rw [HAT2.out]; exact decide_eq_true (cmpN_neg.2 hpz))
          clear hpz
          go_wp2
          refine wp_region_start (S := (fun W => W.cell? ⟨bx, 4, none⟩ = some (.slice (some ⟨b, off, none⟩) x.heard.length c1) ∧ W.cell? ⟨b, off + k, none⟩ = some (.int .i64 z) ∧ W.cell? ⟨b, off + j, none⟩ = some (.int .i64 p))) (by kernel_rfl) 25 rfl ⟨s4, d0, f0⟩ (fun ops hops hHeld => ?_)
          refine take_do 0 (oi := ?_) (v := ?_) ?_ (by rw [hops.out]; kernel_rfl) ?_ ?_ ?_ (by assumption) ?_
          rotate_left 2
          · rw [hops.out]; simp only [List.getElem?_toArray, List.getElem?_cons_succ, List.getElem?_cons_zero]; rfl
          · rw [hops.out]; kernel_rfl
          · intro W hW; (try dsimp only at hW); go_simp <;> with_reducible rfl
          · exact fun _ _ _ h => h
          try simp only [Act.put, List.setIfInBounds_toArray, List.set_cons_zero, List.set_cons_succ]
          refine take_do 1 (oi := ?_) (v := ?_) ?_ (by rw [hops.out]; kernel_rfl) ?_ ?_ ?_ (by assumption) ?_
          rotate_left 2
          · rw [hops.out]; simp only [List.getElem?_toArray, List.getElem?_cons_succ, List.getElem?_cons_zero]; rfl
          · rw [hops.out]; kernel_rfl
          · intro W hW; (try dsimp only at hW); go_simp <;> with_reducible rfl
          · exact fun _ _ _ h => h
          try simp only [Act.put, List.setIfInBounds_toArray, List.set_cons_zero, List.set_cons_succ]
          refine take_do 2 (oi := ?_) (v := ?_) ?_ (by rw [hops.out]; kernel_rfl) ?_ ?_ ?_ (by assumption) ?_
          rotate_left 2
          · rw [hops.out]; simp only [List.getElem?_toArray, List.getElem?_cons_succ, List.getElem?_cons_zero]; rfl
          · rw [hops.out]; kernel_rfl
          · intro W hW; (try dsimp only at hW); go_simp <;> with_reducible rfl
          · exact fun _ _ _ h => h
          try simp only [Act.put, List.setIfInBounds_toArray, List.set_cons_zero, List.set_cons_succ]
          refine take_do 3 (oi := ?_) (v := ?_) ?_ (by rw [hops.out]; kernel_rfl) ?_ ?_ ?_ (by assumption) ?_
          rotate_left 2
          · rw [hops.out]; simp only [List.getElem?_toArray, List.getElem?_cons_succ, List.getElem?_cons_zero]; rfl
          · rw [hops.out]; kernel_rfl
          · intro W hW; (try dsimp only at hW); go_simp <;> with_reducible rfl
          · exact fun _ _ _ h => h
          try simp only [Act.put, List.setIfInBounds_toArray, List.set_cons_zero, List.set_cons_succ]
          refine take_do 4 (oi := ?_) (v := ?_) ?_ (by rw [hops.out]; kernel_rfl) ?_ ?_ ?_ (by assumption) ?_
          rotate_left 2
          · rw [hops.out]; simp only [List.getElem?_toArray, List.getElem?_cons_succ, List.getElem?_cons_zero]; rfl
          · rw [hops.out]; kernel_rfl
          · intro W hW; (try dsimp only at hW); go_simp <;> with_reducible rfl
          · exact fun _ _ _ h => h
          try simp only [Act.put, List.setIfInBounds_toArray, List.set_cons_zero, List.set_cons_succ]
          refine take_call 5 (oi := ?_) ?_ (by rw [hops.out]; kernel_rfl) ?_ ?_
          rotate_left 1
          · rw [hops.out]; simp only [List.getElem?_toArray, List.getElem?_cons_succ, List.getElem?_cons_zero]; rfl
          · rw [hops.out]; kernel_rfl
          intro K hK
          go_simp
          refine (HIN.out _).mono ?_
          rintro e w1 ⟨rfl, rfl⟩
          refine hK.out _ _ (by assumption) (fun hHeld => ?_)
          clear hK K
          try simp only [Act.put, List.setIfInBounds_toArray, List.set_cons_zero, List.set_cons_succ]
          refine take_do 6 (oi := ?_) (v := ?_) ?_ (by rw [hops.out]; kernel_rfl) ?_ ?_ ?_ (by assumption) ?_
          rotate_left 2
          · rw [hops.out]; simp only [List.getElem?_toArray, List.getElem?_cons_succ, List.getElem?_cons_zero]; rfl
          · rw [hops.out]; kernel_rfl
          · intro W hW; (try dsimp only at hW); go_simp <;> with_reducible rfl
          · exact fun _ _ _ h => h
          try simp only [Act.put, List.setIfInBounds_toArray, List.set_cons_zero, List.set_cons_succ]
          refine take_do 7 (oi := ?_) (v := ?_) ?_ (by rw [hops.out]; kernel_rfl) ?_ ?_ ?_ (by assumption) ?_
          rotate_left 2
          · rw [hops.out]; simp only [List.getElem?_toArray, List.getElem?_cons_succ, List.getElem?_cons_zero]; rfl
          · rw [hops.out]; kernel_rfl
          · intro W hW; (try dsimp only at hW); go_simp <;> with_reducible rfl
          · exact fun _ _ _ h => h
          try simp only [Act.put, List.setIfInBounds_toArray, List.set_cons_zero, List.set_cons_succ]
          refine take_do 8 (oi := ?_) (v := ?_) ?_ (by rw [hops.out]; kernel_rfl) ?_ ?_ ?_ (by assumption) ?_
          rotate_left 2
          · rw [hops.out]; simp only [List.getElem?_toArray, List.getElem?_cons_succ, List.getElem?_cons_zero]; rfl
          · rw [hops.out]; kernel_rfl
          · intro W hW; (try dsimp only at hW); go_simp <;> with_reducible rfl
          · exact fun _ _ _ h => h
          try simp only [Act.put, List.setIfInBounds_toArray, List.set_cons_zero, List.set_cons_succ]
          refine take_do 9 (oi := ?_) (v := ?_) ?_ (by rw [hops.out]; kernel_rfl) ?_ ?_ ?_ (by assumption) ?_
          rotate_left 2
          · rw [hops.out]; simp only [List.getElem?_toArray, List.getElem?_cons_succ, List.getElem?_cons_zero]; rfl
          · rw [hops.out]; kernel_rfl
          · intro W hW; (try dsimp only at hW); go_simp <;> with_reducible rfl
          · exact fun _ _ _ h => h
          try simp only [Act.put, List.setIfInBounds_toArray, List.set_cons_zero, List.set_cons_succ]
          refine take_do 10 (oi := ?_) (v := ?_) ?_ (by rw [hops.out]; kernel_rfl) ?_ ?_ ?_ (by assumption) ?_
          rotate_left 2
          · rw [hops.out]; simp only [List.getElem?_toArray, List.getElem?_cons_succ, List.getElem?_cons_zero]; rfl
          · rw [hops.out]; kernel_rfl
          · intro W hW; (try dsimp only at hW); go_simp <;> with_reducible rfl
          · exact fun _ _ _ h => h
          try simp only [Act.put, List.setIfInBounds_toArray, List.set_cons_zero, List.set_cons_succ]
          refine take_do 11 (oi := ?_) (v := ?_) ?_ (by rw [hops.out]; kernel_rfl) ?_ ?_ ?_ (by assumption) ?_
          rotate_left 2
          · rw [hops.out]; simp only [List.getElem?_toArray, List.getElem?_cons_succ, List.getElem?_cons_zero]; rfl
          · rw [hops.out]; kernel_rfl
          · intro W hW; (try dsimp only at hW); go_simp <;> with_reducible rfl
          · exact fun _ _ _ h => h
          try simp only [Act.put, List.setIfInBounds_toArray, List.set_cons_zero, List.set_cons_succ]
          refine take_do 12 (oi := ?_) (v := ?_) ?_ (by rw [hops.out]; kernel_rfl) ?_ ?_ ?_ (by assumption) ?_
          rotate_left 2
          · rw [hops.out]; simp only [List.getElem?_toArray, List.getElem?_cons_succ, List.getElem?_cons_zero]; rfl
          · rw [hops.out]; kernel_rfl
          · intro W hW; (try dsimp only at hW); go_simp <;> with_reducible rfl
          · exact fun _ _ _ h => h
          try simp only [Act.put, List.setIfInBounds_toArray, List.set_cons_zero, List.set_cons_succ]
          refine take_do 13 (oi := ?_) (v := ?_) ?_ (by rw [hops.out]; kernel_rfl) ?_ ?_ ?_ (by assumption) ?_
          rotate_left 2
          · rw [hops.out]; simp only [List.getElem?_toArray, List.getElem?_cons_succ, List.getElem?_cons_zero]; rfl
          · rw [hops.out]; kernel_rfl
          · intro W hW; (try dsimp only at hW); go_simp <;> with_reducible rfl
          · exact fun _ _ _ h => h
          try simp only [Act.put, List.setIfInBounds_toArray, List.set_cons_zero, List.set_cons_succ]
          refine take_do 14 (oi := ?_) (v := ?_) ?_ (by rw [hops.out]; kernel_rfl) ?_ ?_ ?_ (by assumption) ?_
          rotate_left 2
          · rw [hops.out]; simp only [List.getElem?_toArray, List.getElem?_cons_succ, List.getElem?_cons_zero]; rfl
          · rw [hops.out]; kernel_rfl
          · intro W hW; (try dsimp only at hW); go_simp <;> with_reducible rfl
          · exact fun _ _ _ h => h
          try simp only [Act.put, List.setIfInBounds_toArray, List.set_cons_zero, List.set_cons_succ]
          refine take_do 15 (oi := ?_) (v := ?_) ?_ (by rw [hops.out]; kernel_rfl) ?_ ?_ ?_ (by assumption) ?_
          rotate_left 2
          · rw [hops.out]; simp only [List.getElem?_toArray, List.getElem?_cons_succ, List.getElem?_cons_zero]; rfl
          · rw [hops.out]; kernel_rfl
          · intro W hW; (try dsimp only at hW); go_simp <;> with_reducible rfl
          · exact fun _ _ _ h => h
          try simp only [Act.put, List.setIfInBounds_toArray, List.set_cons_zero, List.set_cons_succ]
          refine take_do 16 (oi := ?_) (v := ?_) ?_ (by rw [hops.out]; kernel_rfl) ?_ ?_ ?_ (by assumption) ?_
          rotate_left 2
          · rw [hops.out]; simp only [List.getElem?_toArray, List.getElem?_cons_succ, List.getElem?_cons_zero]; rfl
          · rw [hops.out]; kernel_rfl
          · intro W hW; (try dsimp only at hW); go_simp <;> with_reducible rfl
          · exact fun _ _ _ h => h
          try simp only [Act.put, List.setIfInBounds_toArray, List.set_cons_zero, List.set_cons_succ]
          refine take_do 17 (oi := ?_) (v := ?_) ?_ (by rw [hops.out]; kernel_rfl) ?_ ?_ ?_ (by assumption) ?_
          rotate_left 2
          · rw [hops.out]; simp only [List.getElem?_toArray, List.getElem?_cons_succ, List.getElem?_cons_zero]; rfl
          · rw [hops.out]; kernel_rfl
          · intro W hW; (try dsimp only at hW); go_simp <;> with_reducible rfl
          · exact fun _ _ _ h => h
          try simp only [Act.put, List.setIfInBounds_toArray, List.set_cons_zero, List.set_cons_succ]
          refine take_do 18 (oi := ?_) (v := ?_) ?_ (by rw [hops.out]; kernel_rfl) ?_ ?_ ?_ (by assumption) ?_
          rotate_left 2
          · rw [hops.out]; simp only [List.getElem?_toArray, List.getElem?_cons_succ, List.getElem?_cons_zero]; rfl
          · rw [hops.out]; kernel_rfl
          · intro W hW; (try dsimp only at hW); go_simp <;> with_reducible rfl
          · exact fun _ _ _ h => h
          try simp only [Act.put, List.setIfInBounds_toArray, List.set_cons_zero, List.set_cons_succ]
          refine take_do 19 (oi := ?_) (v := ?_) ?_ (by rw [hops.out]; kernel_rfl) ?_ ?_ ?_ (by assumption) ?_
          rotate_left 2
          · rw [hops.out]; simp only [List.getElem?_toArray, List.getElem?_cons_succ, List.getElem?_cons_zero]; rfl
          · rw [hops.out]; kernel_rfl
          · intro W hW; (try dsimp only at hW); go_simp <;> with_reducible rfl
          · exact fun _ _ _ h => h
          try simp only [Act.put, List.setIfInBounds_toArray, List.set_cons_zero, List.set_cons_succ]
          refine take_do 20 (oi := ?_) (v := ?_) ?_ (by rw [hops.out]; kernel_rfl) ?_ ?_ ?_ (by assumption) ?_
          rotate_left 2
          · rw [hops.out]; simp only [List.getElem?_toArray, List.getElem?_cons_succ, List.getElem?_cons_zero]; rfl
          · rw [hops.out]; kernel_rfl
          · intro W hW; (try dsimp only at hW); go_simp <;> with_reducible rfl
          · exact fun _ _ _ h => h
          try simp only [Act.put, List.setIfInBounds_toArray, List.set_cons_zero, List.set_cons_succ]
          refine take_do 21 (oi := ?_) (v := ?_) ?_ (by rw [hops.out]; kernel_rfl) ?_ ?_ ?_ (by assumption) ?_
          rotate_left 2
          · rw [hops.out]; simp only [List.getElem?_toArray, List.getElem?_cons_succ, List.getElem?_cons_zero]; rfl
          · rw [hops.out]; kernel_rfl
          · intro W hW; (try dsimp only at hW); go_simp <;> with_reducible rfl
          · exact fun _ _ _ h => h
          try simp only [Act.put, List.setIfInBounds_toArray, List.set_cons_zero, List.set_cons_succ]
          refine take_do 22 (oi := ?_) (v := ?_) ?_ (by rw [hops.out]; kernel_rfl) ?_ ?_ ?_ (by assumption) ?_
          rotate_left 2
          · rw [hops.out]; simp only [List.getElem?_toArray, List.getElem?_cons_succ, List.getElem?_cons_zero]; rfl
          · rw [hops.out]; kernel_rfl
          · intro W hW; (try dsimp only at hW); go_simp <;> with_reducible rfl
          · exact fun _ _ _ h => h
          try simp only [Act.put, List.setIfInBounds_toArray, List.set_cons_zero, List.set_cons_succ]
          refine take_do 23 (oi := ?_) (v := ?_) ?_ (by rw [hops.out]; kernel_rfl) ?_ ?_ ?_ (by assumption) ?_
          rotate_left 2
          · rw [hops.out]; simp only [List.getElem?_toArray, List.getElem?_cons_succ, List.getElem?_cons_zero]; rfl
          · rw [hops.out]; kernel_rfl
          · intro W hW; (try dsimp only at hW); go_simp <;> with_reducible rfl
          · exact fun _ _ _ h => h
          try simp only [Act.put, List.setIfInBounds_toArray, List.set_cons_zero, List.set_cons_succ]
          refine take_do 24 (oi := ?_) (v := ?_) ?_ (by rw [hops.out]; kernel_rfl) ?_ ?_ ?_ (by assumption) ?_
          rotate_left 2
          · rw [hops.out]; simp only [List.getElem?_toArray, List.getElem?_cons_succ, List.getElem?_cons_zero]; rfl
          · rw [hops.out]; kernel_rfl
          · intro W hW; (try dsimp only at hW); go_simp <;> with_reducible rfl
          · exact fun _ _ _ h => h
          try simp only [Act.put, List.setIfInBounds_toArray, List.set_cons_zero, List.set_cons_succ]
          refine wpAnyH_done (by rw [hops.out]; kernel_rfl) ?_ _
          clear hops ops
          go_wp2
          go_roundw
          case rel => exact ⟨k + 1, by omega, by go_num, next_true HALL.out HAT1.out, next_true HASC.out HT.out, hnd⟩
          case measure => simp [intOf]; omega
        · have hge : z ≤ p := by omega
          have HT := hide (said_heard (x := x) (xs := fsts ps) (nodes_asc hlt (by rw [HAT2.out]; exact decide_eq_false (fun h => hpz (cmpN_neg.1 h)))))
          clear hpz
          go_wp2
          refine wp_region_start (S := (fun W => W.cell? ⟨bx, 4, none⟩ = some (.slice (some ⟨b, off, none⟩) x.heard.length c1) ∧ W.cell? ⟨b, off + k, none⟩ = some (.int .i64 z) ∧ W.cell? ⟨b, off + j, none⟩ = some (.int .i64 p))) (by kernel_rfl) 25 rfl ⟨s4, d0, f0⟩ (fun ops hops hHeld => ?_)
          refine take_do 0 (oi := ?_) (v := ?_) ?_ (by rw [hops.out]; kernel_rfl) ?_ ?_ ?_ (by assumption) ?_
          rotate_left 2
          · rw [hops.out]; simp only [List.getElem?_toArray, List.getElem?_cons_succ, List.getElem?_cons_zero]; rfl
          · rw [hops.out]; kernel_rfl
          · intro W hW; (try dsimp only at hW); go_simp <;> with_reducible rfl
          · exact fun _ _ _ h => h
          try simp only [Act.put, List.setIfInBounds_toArray, List.set_cons_zero, List.set_cons_succ]
          refine take_do 1 (oi := ?_) (v := ?_) ?_ (by rw [hops.out]; kernel_rfl) ?_ ?_ ?_ (by assumption) ?_
          rotate_left 2
          · rw [hops.out]; simp only [List.getElem?_toArray, List.getElem?_cons_succ, List.getElem?_cons_zero]; rfl
          · rw [hops.out]; kernel_rfl
          · intro W hW; (try dsimp only at hW); go_simp <;> with_reducible rfl
          · exact fun _ _ _ h => h
          try simp only [Act.put, List.setIfInBounds_toArray, List.set_cons_zero, List.set_cons_succ]
          refine take_do 2 (oi := ?_) (v := ?_) ?_ (by rw [hops.out]; kernel_rfl) ?_ ?_ ?_ (by assumption) ?_
          rotate_left 2
          · rw [hops.out]; simp only [List.getElem?_toArray, List.getElem?_cons_succ, List.getElem?_cons_zero]; rfl
          · rw [hops.out]; kernel_rfl
          · intro W hW; (try dsimp only at hW); go_simp <;> with_reducible rfl
          · exact fun _ _ _ h => h
          try simp only [Act.put, List.setIfInBounds_toArray, List.set_cons_zero, List.set_cons_succ]
          refine take_do 3 (oi := ?_) (v := ?_) ?_ (by rw [hops.out]; kernel_rfl) ?_ ?_ ?_ (by assumption) ?_
          rotate_left 2
          · rw [hops.out]; simp only [List.getElem?_toArray, List.getElem?_cons_succ, List.getElem?_cons_zero]; rfl
          · rw [hops.out]; kernel_rfl
          · intro W hW; (try dsimp only at hW); go_simp <;> with_reducible rfl
          · exact fun _ _ _ h => h
          try simp only [Act.put, List.setIfInBounds_toArray, List.set_cons_zero, List.set_cons_succ]
          refine take_do 4 (oi := ?_) (v := ?_) ?_ (by rw [hops.out]; kernel_rfl) ?_ ?_ ?_ (by assumption) ?_
          rotate_left 2
          · rw [hops.out]; simp only [List.getElem?_toArray, List.getElem?_cons_succ, List.getElem?_cons_zero]; rfl
          · rw [hops.out]; kernel_rfl
          · intro W hW; (try dsimp only at hW); go_simp <;> with_reducible rfl
          · exact fun _ _ _ h => h
          try simp only [Act.put, List.setIfInBounds_toArray, List.set_cons_zero, List.set_cons_succ]
          refine take_call 5 (oi := ?_) ?_ (by rw [hops.out]; kernel_rfl) ?_ ?_
          rotate_left 1
          · rw [hops.out]; simp only [List.getElem?_toArray, List.getElem?_cons_succ, List.getElem?_cons_zero]; rfl
          · rw [hops.out]; kernel_rfl
          intro K hK
          go_simp
          refine (HIN.out _).mono ?_
          rintro e w1 ⟨rfl, rfl⟩
          refine hK.out _ _ (by assumption) (fun hHeld => ?_)
          clear hK K
          try simp only [Act.put, List.setIfInBounds_toArray, List.set_cons_zero, List.set_cons_succ]
          refine take_do 6 (oi := ?_) (v := ?_) ?_ (by rw [hops.out]; kernel_rfl) ?_ ?_ ?_ (by assumption) ?_
          rotate_left 2
          · rw [hops.out]; simp only [List.getElem?_toArray, List.getElem?_cons_succ, List.getElem?_cons_zero]; rfl
          · rw [hops.out]; kernel_rfl
          · intro W hW; (try dsimp only at hW); go_simp <;> with_reducible rfl
          · exact fun _ _ _ h => h
          try simp only [Act.put, List.setIfInBounds_toArray, List.set_cons_zero, List.set_cons_succ]
          refine take_do 7 (oi := ?_) (v := ?_) ?_ (by rw [hops.out]; kernel_rfl) ?_ ?_ ?_ (by assumption) ?_
          rotate_left 2
          · rw [hops.out]; simp only [List.getElem?_toArray, List.getElem?_cons_succ, List.getElem?_cons_zero]; rfl
          · rw [hops.out]; kernel_rfl
          · intro W hW; (try dsimp only at hW); go_simp <;> with_reducible rfl
          · exact fun _ _ _ h => h
          try simp only [Act.put, List.setIfInBounds_toArray, List.set_cons_zero, List.set_cons_succ]
          refine take_do 8 (oi := ?_) (v := ?_) ?_ (by rw [hops.out]; kernel_rfl) ?_ ?_ ?_ (by assumption) ?_
          rotate_left 2
          · rw [hops.out]; simp only [List.getElem?_toArray, List.getElem?_cons_succ, List.getElem?_cons_zero]; rfl
          · rw [hops.out]; kernel_rfl
          · intro W hW; (try dsimp only at hW); go_simp <;> with_reducible rfl
          · exact fun _ _ _ h => h
          try simp only [Act.put, List.setIfInBounds_toArray, List.set_cons_zero, List.set_cons_succ]
          refine take_do 9 (oi := ?_) (v := ?_) ?_ (by rw [hops.out]; kernel_rfl) ?_ ?_ ?_ (by assumption) ?_
          rotate_left 2
          · rw [hops.out]; simp only [List.getElem?_toArray, List.getElem?_cons_succ, List.getElem?_cons_zero]; rfl
          · rw [hops.out]; kernel_rfl
          · intro W hW; (try dsimp only at hW); go_simp <;> with_reducible rfl
          · exact fun _ _ _ h => h
          try simp only [Act.put, List.setIfInBounds_toArray, List.set_cons_zero, List.set_cons_succ]
          refine take_do 10 (oi := ?_) (v := ?_) ?_ (by rw [hops.out]; kernel_rfl) ?_ ?_ ?_ (by assumption) ?_
          rotate_left 2
          · rw [hops.out]; simp only [List.getElem?_toArray, List.getElem?_cons_succ, List.getElem?_cons_zero]; rfl
          · rw [hops.out]; kernel_rfl
          · intro W hW; (try dsimp only at hW); go_simp <;> with_reducible rfl
          · exact fun _ _ _ h => h
          try simp only [Act.put, List.setIfInBounds_toArray, List.set_cons_zero, List.set_cons_succ]
          refine take_do 11 (oi := ?_) (v := ?_) ?_ (by rw [hops.out]; kernel_rfl) ?_ ?_ ?_ (by assumption) ?_
          rotate_left 2
          · rw [hops.out]; simp only [List.getElem?_toArray, List.getElem?_cons_succ, List.getElem?_cons_zero]; rfl
          · rw [hops.out]; kernel_rfl
          · intro W hW; (try dsimp only at hW); go_simp <;> with_reducible rfl
          · exact fun _ _ _ h => h
          try simp only [Act.put, List.setIfInBounds_toArray, List.set_cons_zero, List.set_cons_succ]
          refine take_do 12 (oi := ?_) (v := ?_) ?_ (by rw [hops.out]; kernel_rfl) ?_ ?_ ?_ (by assumption) ?_
          rotate_left 2
          · rw [hops.out]; simp only [List.getElem?_toArray, List.getElem?_cons_succ, List.getElem?_cons_zero]; rfl
          · rw [hops.out]; kernel_rfl
          · intro W hW; (try dsimp only at hW); go_simp <;> with_reducible rfl
          · exact fun _ _ _ h => h
          try simp only [Act.put, List.setIfInBounds_toArray, List.set_cons_zero, List.set_cons_succ]
          refine take_do 13 (oi := ?_) (v := ?_) ?_ (by rw [hops.out]; kernel_rfl) ?_ ?_ ?_ (by assumption) ?_
          rotate_left 2
          · rw [hops.out]; simp only [List.getElem?_toArray, List.getElem?_cons_succ, List.getElem?_cons_zero]; rfl
          · rw [hops.out]; kernel_rfl
          · intro W hW; (try dsimp only at hW); go_simp <;> with_reducible rfl
          · exact fun _ _ _ h => h
          try simp only [Act.put, List.setIfInBounds_toArray, List.set_cons_zero, List.set_cons_succ]
          refine take_do 14 (oi := ?_) (v := ?_) ?_ (by rw [hops.out]; kernel_rfl) ?_ ?_ ?_ (by assumption) ?_
          rotate_left 2
          · rw [hops.out]; simp only [List.getElem?_toArray, List.getElem?_cons_succ, List.getElem?_cons_zero]; rfl
          · rw [hops.out]; kernel_rfl
          · intro W hW; (try dsimp only at hW); go_simp <;> with_reducible rfl
          · exact fun _ _ _ h => h
          try simp only [Act.put, List.setIfInBounds_toArray, List.set_cons_zero, List.set_cons_succ]
          refine take_do 15 (oi := ?_) (v := ?_) ?_ (by rw [hops.out]; kernel_rfl) ?_ ?_ ?_ (by assumption) ?_
          rotate_left 2
          · rw [hops.out]; simp only [List.getElem?_toArray, List.getElem?_cons_succ, List.getElem?_cons_zero]; rfl
          · rw [hops.out]; kernel_rfl
          · intro W hW; (try dsimp only at hW); go_simp <;> with_reducible rfl
          · exact fun _ _ _ h => h
          try simp only [Act.put, List.setIfInBounds_toArray, List.set_cons_zero, List.set_cons_succ]
          refine take_do 16 (oi := ?_) (v := ?_) ?_ (by rw [hops.out]; kernel_rfl) ?_ ?_ ?_ (by assumption) ?_
          rotate_left 2
          · rw [hops.out]; simp only [List.getElem?_toArray, List.getElem?_cons_succ, List.getElem?_cons_zero]; rfl
          · rw [hops.out]; kernel_rfl
          · intro W hW; (try dsimp only at hW); go_simp <;> with_reducible rfl
          · exact fun _ _ _ h => h
          try simp only [Act.put, List.setIfInBounds_toArray, List.set_cons_zero, List.set_cons_succ]
          refine take_do 17 (oi := ?_) (v := ?_) ?_ (by rw [hops.out]; kernel_rfl) ?_ ?_ ?_ (by assumption) ?_
          rotate_left 2
          · rw [hops.out]; simp only [List.getElem?_toArray, List.getElem?_cons_succ, List.getElem?_cons_zero]; rfl
          · rw [hops.out]; kernel_rfl
          · intro W hW; (try dsimp only at hW); go_simp <;> with_reducible rfl
          · exact fun _ _ _ h => h
          try simp only [Act.put, List.setIfInBounds_toArray, List.set_cons_zero, List.set_cons_succ]
          refine take_do 18 (oi := ?_) (v := ?_) ?_ (by rw [hops.out]; kernel_rfl) ?_ ?_ ?_ (by assumption) ?_
          rotate_left 2
          · rw [hops.out]; simp only [List.getElem?_toArray, List.getElem?_cons_succ, List.getElem?_cons_zero]; rfl
          · rw [hops.out]; kernel_rfl
          · intro W hW; (try dsimp only at hW); go_simp <;> with_reducible rfl
          · exact fun _ _ _ h => h
          try simp only [Act.put, List.setIfInBounds_toArray, List.set_cons_zero, List.set_cons_succ]
          refine take_do 19 (oi := ?_) (v := ?_) ?_ (by rw [hops.out]; kernel_rfl) ?_ ?_ ?_ (by assumption) ?_
          rotate_left 2
          · rw [hops.out]; simp only [List.getElem?_toArray, List.getElem?_cons_succ, List.getElem?_cons_zero]; rfl
          · rw [hops.out]; kernel_rfl
          · intro W hW; (try dsimp only at hW); go_simp <;> with_reducible rfl
          · exact fun _ _ _ h => h
          try simp only [Act.put, List.setIfInBounds_toArray, List.set_cons_zero, List.set_cons_succ]
          refine take_do 20 (oi := ?_) (v := ?_) ?_ (by rw [hops.out]; kernel_rfl) ?_ ?_ ?_ (by assumption) ?_
          rotate_left 2
          · rw [hops.out]; simp only [List.getElem?_toArray, List.getElem?_cons_succ, List.getElem?_cons_zero]; rfl
          · rw [hops.out]; kernel_rfl
          · intro W hW; (try dsimp only at hW); go_simp <;> with_reducible rfl
          · exact fun _ _ _ h => h
          try simp only [Act.put, List.setIfInBounds_toArray, List.set_cons_zero, List.set_cons_succ]
          refine take_do 21 (oi := ?_) (v := ?_) ?_ (by rw [hops.out]; kernel_rfl) ?_ ?_ ?_ (by assumption) ?_
          rotate_left 2
          · rw [hops.out]; simp only [List.getElem?_toArray, List.getElem?_cons_succ, List.getElem?_cons_zero]; rfl
          · rw [hops.out]; kernel_rfl
          · intro W hW; (try dsimp only at hW); go_simp <;> with_reducible rfl
          · exact fun _ _ _ h => h
          try simp only [Act.put, List.setIfInBounds_toArray, List.set_cons_zero, List.set_cons_succ]
          refine take_do 22 (oi := ?_) (v := ?_) ?_ (by rw [hops.out]; kernel_rfl) ?_ ?_ ?_ (by assumption) ?_
          rotate_left 2
          · rw [hops.out]; simp only [List.getElem?_toArray, List.getElem?_cons_succ, List.getElem?_cons_zero]; rfl
          · rw [hops.out]; kernel_rfl
          · intro W hW; (try dsimp only at hW); go_simp <;> with_reducible rfl
          · exact fun _ _ _ h => h
          try simp only [Act.put, List.setIfInBounds_toArray, List.set_cons_zero, List.set_cons_succ]
          refine take_do 23 (oi := ?_) (v := ?_) ?_ (by rw [hops.out]; kernel_rfl) ?_ ?_ ?_ (by assumption) ?_
          rotate_left 2
          · rw [hops.out]; simp only [List.getElem?_toArray, List.getElem?_cons_succ, List.getElem?_cons_zero]; rfl
          · rw [hops.out]; kernel_rfl
          · intro W hW; (try dsimp only at hW); go_simp <;> with_reducible rfl
          · exact fun _ _ _ h => h
          try simp only [Act.put, List.setIfInBounds_toArray, List.set_cons_zero, List.set_cons_succ]
          refine take_do 24 (oi := ?_) (v := ?_) ?_ (by rw [hops.out]; kernel_rfl) ?_ ?_ ?_ (by assumption) ?_
          rotate_left 2
          · rw [hops.out]; simp only [List.getElem?_toArray, List.getElem?_cons_succ, List.getElem?_cons_zero]; rfl
          · rw [hops.out]; kernel_rfl
          · intro W hW; (try dsimp only at hW); go_simp <;> with_reducible rfl
          · exact fun _ _ _ h => h
          try simp only [Act.put, List.setIfInBounds_toArray, List.set_cons_zero, List.set_cons_succ]
          refine wpAnyH_done (by rw [hops.out]; kernel_rfl) ?_ _
          clear hops ops
          go_wp2
          go_ret
          exact ⟨by rw [R4.out, HT.out]; rfl, BD⟩
    · have HN := hide (show nodesB x.heard = true by
        unfold nodesB
        rw [show allOk (fun z => inB z 1 6) x.heard = true from all_true fun i hi => HALL.out i (by omega), show ascB cmpN x.heard = true from all_true fun i hi => HASC.out i (by omega)]
        rfl)
      have BR : Below w.heap.size w wr := BA.trans (hnx.mono BA.size)
      have HST := hide (sstoreOk_any _ ps wr hlR (HX.out.then BR).list)
      have HG := hide ((hnx.block _ hbl).trans G0.out)
      clear HALL HASC
      by_cases k1 : x.kind = 1
      · have kb : (x.kind == 1) = true := by simpa using k1
        have kn : (x.kind != 1) = false := by simp [k1]
        have SA := hide (said_one (xs := fsts ps) k1)
        rw [HN.out, HFL.out] at SA
        clear k1
        cases ps with
        | nil =>
          have HT := hide (show r4 = true by rw [R4.out, SA.out]; rfl)
          rw [show storeB (fsts []) = true from rfl] at HST
          simp only [List.length_nil] at s5 HST HG
          have HGG := HG
          clear SA G0 HG
          go_wp2_with fail
          refine HST.out.mono ?_
          rintro e w2 ⟨rfl, b2⟩
          have g2 := (b2.block _ (lt_of_heap HGG.out)).trans HGG.out
          have B2 : Below w.heap.size w w2 := BR.trans (b2.mono BR.size)
          have y5 := cells_at g2 5
          simp at y5
          clear g2 s0 s4 s5
          go_wp2
          go_loopw [4] (fun i wr => i = .int .i64 0 ∧ wr = w2) (fun i _ => 0)
          case atStart => exact ⟨rfl, rfl⟩
          case round =>
            obtain ⟨rfl, rfl⟩ := hrel
            go_wp2
            go_ret
            exact ⟨by rw [HT.out]; rfl, B2⟩
        | cons p0 pl =>
          have HT := hide (show r4 = false by rw [R4.out, SA.out]; rfl)
          clear SA
          have hl1 : (0 : Int) < ((p0 :: pl).length : Int) := by simp
          go_wp2
          go_ret
          exact ⟨by rw [HT.out]; rfl, BR⟩
      have kb : (x.kind == 1) = false := by simpa using k1
      have kn : (x.kind != 1) = true := by simpa using k1
      by_cases hl : x.heard.length = 0
      case neg =>
        have hl1 : (0 : Int) < (x.heard.length : Int) := by omega
        have hl2 : ¬ x.heard = [] := fun h => hl (by rw [h]; rfl)
        have HT := hide (show r4 = false by rw [R4.out]; exact said_long k1 hl)
        clear hl k1
        go_wp2
        go_ret
        exact ⟨by rw [HT.out]; rfl, BR⟩
      have hl1 : ¬ (0 : Int) < (x.heard.length : Int) := by omega
      have hl2 : x.heard = [] := List.eq_nil_of_length_eq_zero hl
      have HL := hide hl
      have HK1 := hide k1
      obtain ⟨qs, hqs⟩ : ∃ q, q = storeB (fsts ps) := ⟨_, rfl⟩
      rw [← hqs] at HST
      have HQS := hide hqs
      clear hl k1 hqs hk hlt hnx
      go_wp2_with fail
      refine HST.out.mono ?_
      rintro e w2 ⟨rfl, b2⟩
      have B2 : Below w.heap.size w w2 := BR.trans (b2.mono BR.size)
      have hnz : Below wr.heap.size wr w2 := b2
      cases qs
      · have HT := hide (show r4 = false by rw [R4.out]; exact said_store HK1.out (by unfold toldB; rw [← HQS.out]; simp))
        go_wp2
        go_ret
        exact ⟨by rw [HT.out]; rfl, B2⟩
      have g2 := (hnz.block _ (Nat.lt_of_lt_of_le hbl hsz)).trans (show wr.heap[bx]? = some (.cells #[.int .i64 x.kind, .int .i64 x.src, .int .i64 x.dst, .int .i64 x.area, .slice a1 x.heard.length c1, .slice a2 ps.length c2] 27) from HG.out)
      have G2 := hide g2
      have hbl2 := lt_of_heap g2
      clear g2 s0 s4 s5 hnz b2 HST
      clear hl1 hl2 kb kn
      go_wp2
      go_loopw [4] (fun i wr => ∃ k : Nat, k ≤ ps.length ∧ i = .int .i64 k ∧ (∀ j, j < k → okAt (inScope x.area) (fsts ps) j = true) ∧ Hid (x.kind = 2 → ∀ j, j < k → okAt (fun r => sameBodyB r (headD r)) (fsts ps) j = true) ∧ Below w2.heap.size w2 wr) (fun i _ => ps.length - (intOf i).toNat)
      case atStart => exact ⟨0, by omega, rfl, by omega, hide (fun _ j hj => by omega), Below.refl _ _⟩
      case round =>
        obtain ⟨k, hk, rfl, hall, hhd, hnx⟩ := hrel
        have HALL := hide hall
        clear hall
        have hsz2 := hnx.size
        have gr := (hnx.block _ hbl2).trans G2.out
        have s0 := cells_at gr 0
        have s3 := cells_at gr 3
        have s5 := cells_at gr 5
        simp at s0 s3 s5
        have hbl3 := lt_of_heap gr
        clear gr
        have BW : Below w.heap.size w wr := B2.trans (hnx.mono B2.size)
        by_cases hlt : k < ps.length
        · obtain ⟨p, hp⟩ : ∃ p, ps[k]? = some p := ⟨ps[k], List.getElem?_eq_getElem hlt⟩
          obtain ⟨b, off, cap', hve, hbb, c0, c1, c2, c3, c4, c5, c6, c7, _⟩ := (HX.out.then B2).list.cells k p hp
          cases hve
          rw [← hnx.cell (p := ⟨b, off + k * 8, none⟩) hbb] at c0
          rw [← hnx.cell (p := ⟨b, off + k * 8 + 1, none⟩) hbb] at c1
          rw [← hnx.cell (p := ⟨b, off + k * 8 + 2, none⟩) hbb] at c2
          rw [← hnx.cell (p := ⟨b, off + k * 8 + 3, none⟩) hbb] at c3
          rw [← hnx.cell (p := ⟨b, off + k * 8 + 4, none⟩) hbb] at c4
          rw [← hnx.cell (p := ⟨b, off + k * 8 + 5, none⟩) hbb] at c5
          rw [← hnx.cell (p := ⟨b, off + k * 8 + 6, none⟩) hbb] at c6
          rw [← hnx.cell (p := ⟨b, off + k * 8 + 7, none⟩) hbb] at c7
          have hpm := List.mem_of_getElem? hp
          have hpl : p.1.near.length ≤ 1048576 := by have := tot_mem hpm; omega
          have hno0 := HRC.out.nears p hpm
          obtain ⟨pa, pc, hpn⟩ := owns_lenS hno0.1
          have HNE := hide (fun W (hb : Below w.heap.size w W) => hno0.keep (W' := W) (fun j _ h2 _ => hb.block j (by omega)))
          have HCP0 := fun W (hb : Below w.heap.size w W) => copy5_any p.1 p.2 0 W (HNE.out W hb).1 hpl
          have HSB0 := fun W (v : Value) (hb : Below w.heap.size w W) (hn : NearsAt W v [] W.heap.size) => ssameBody_any (.agg (recC (headD p.1) v)) (.agg (recC p.1 p.2)) (headD p.1) p.1 W ⟨_, rfl, hn⟩ ⟨_, rfl, RowAt.more (HNE.out W hb).at (Nat.le_trans hhi hb.size)⟩ (by simp [headD]) (by omega)
          have HHD0 := fun (a : Option Addr) (n c : Nat) W => shead_any p.1 a n c W
          have HAT1 := hide (okAt_eq (ok := inScope x.area) (fsts_at hp))
          have HAT2 := hide (okAt_eq (ok := fun r => sameBodyB r (headD r)) (fsts_at hp))
          have HSQ := hide (same_comm (headD p.1) p.1)
          obtain ⟨q, hq⟩ : ∃ q, q = sameBodyB p.1 (headD p.1) := ⟨_, rfl⟩
          rw [← hq] at HAT2 HSQ
          rw [HSQ.out] at HSB0
          obtain ⟨y, hy⟩ : ∃ y, y = headD p.1 := ⟨_, rfl⟩
          rw [← hy] at HSB0 HHD0
          rw [hpn] at c5 HCP0 HSB0
          unfold recC at HCP0 HSB0 HHD0
          have HCP := hide HCP0
          have HSB := hide HSB0
          have HHD := hide HHD0
          clear hp hpm hno0 hpn HCP0 HSB0 HHD0 hy hq HSQ
          have hki : (0 : Int) ≤ (k : Int) := by omega
          have hkj : (k : Int) < (ps.length : Int) := by omega
          have B0 := (Below.refl wr.heap.size wr).alloc (Nat.le_refl _) (.cells #[.int .i64 p.1.area, .int .i64 p.1.kind, .int .i64 p.1.owner, .int .i64 p.1.key, .int .i64 p.1.seq, .slice pa p.1.near.length pc, .int .i64 p.1.cost, .bool p.1.far] 51)
          have g0 := heap_alloc_new wr (.cells #[.int .i64 p.1.area, .int .i64 p.1.kind, .int .i64 p.1.owner, .int .i64 p.1.key, .int .i64 p.1.seq, .slice pa p.1.near.length pc, .int .i64 p.1.cost, .bool p.1.far] 51)
          obtain ⟨w3, hw3⟩ : ∃ W, W = wr.alloc (.cells #[.int .i64 p.1.area, .int .i64 p.1.kind, .int .i64 p.1.owner, .int .i64 p.1.key, .int .i64 p.1.seq, .slice pa p.1.near.length pc, .int .i64 p.1.cost, .bool p.1.far] 51) := ⟨_, rfl⟩
          rw [← hw3] at B0 g0
          have d0 := cells_at g0 0
          have d1 := cells_at g0 1
          have d2 := cells_at g0 2
          have d3 := cells_at g0 3
          have d4 := cells_at g0 4
          have d5 := cells_at g0 5
          have d6 := cells_at g0 6
          have d7 := cells_at g0 7
          simp at d0 d1 d2 d3 d4 d5 d6 d7
          have hrl := lt_of_heap g0
          have z0 : w3.cell? ⟨bx, 0, none⟩ = some (.int .i64 x.kind) := (B0.cell hbl3).trans s0
          have z3 : w3.cell? ⟨bx, 3, none⟩ = some (.int .i64 x.area) := (B0.cell hbl3).trans s3
          have BW3 : Below w.heap.size w w3.drew := (BW.trans (B0.mono BW.size)).drew
          have hbl4 : bx < w3.drew.heap.size := Nat.lt_of_lt_of_le hbl3 B0.size
          have hrl4 : wr.heap.size < w3.drew.heap.size := hrl
          obtain ⟨rb, hrb⟩ : ∃ z, z = wr.heap.size := ⟨_, rfl⟩
          rw [← hrb] at d0 d1 d2 d3 d4 d5 d6 d7 hrl4
          clear g0 hrl
          have BW4 : Below w2.heap.size w2 w3.drew := (hnx.trans (B0.mono hsz2)).drew
          by_cases h1 : p.1.area = x.area
          · have hd : (p.1.area != x.area) = false := by simp [h1]
            have HT := hide (show okAt (inScope x.area) (fsts ps) k = true by rw [HAT1.out]; simp [inScope, h1])
            clear h1
            by_cases k2 : x.kind = 2
            · have kb : (x.kind == 2) = true := by simpa using k2
              cases q
              · have HF := hide (show r4 = false by
                  rw [R4.out, said_two k2, show headsB (fsts ps) = false from heads_bad (by rw [HFL.out]; exact hlt) HAT2.out]
                  simp)
                clear k2
                go_wp2
                rw [← hw3]
                clear hw3
                rw [← hrb]
                clear hrb
                refine wp_region_start (S := (fun W => W.cell? ⟨rb, 0, none⟩ = some (.int .i64 p.1.area) ∧ W.cell? ⟨rb, 1, none⟩ = some (.int .i64 p.1.kind) ∧ W.cell? ⟨rb, 2, none⟩ = some (.int .i64 p.1.owner) ∧ W.cell? ⟨rb, 3, none⟩ = some (.int .i64 p.1.key) ∧ W.cell? ⟨rb, 4, none⟩ = some (.int .i64 p.1.seq) ∧ W.cell? ⟨rb, 5, none⟩ = some (.slice pa p.1.near.length pc) ∧ W.cell? ⟨rb, 6, none⟩ = some (.int .i64 p.1.cost) ∧ W.cell? ⟨rb, 7, none⟩ = some (.bool p.1.far) ∧ W.cell? ⟨bx, 0, none⟩ = some (.int .i64 x.kind) ∧ W.cell? ⟨bx, 3, none⟩ = some (.int .i64 x.area))) (by kernel_rfl) 23 rfl ⟨d0, d1, d2, d3, d4, d5, d6, d7, z0, z3⟩ (fun ops hops hHeld => ?_)
                refine take_do 0 (oi := ?_) (v := ?_) ?_ (by rw [hops.out]; kernel_rfl) ?_ ?_ ?_ (by assumption) ?_
                rotate_left 2
                · rw [hops.out]; simp only [List.getElem?_toArray, List.getElem?_cons_succ, List.getElem?_cons_zero]; rfl
                · rw [hops.out]; kernel_rfl
                · intro W hW; (try dsimp only at hW); go_simp <;> with_reducible rfl
                · exact fun _ _ _ h => h
                try simp only [Act.put, List.setIfInBounds_toArray, List.set_cons_zero, List.set_cons_succ]
                refine take_do 1 (oi := ?_) (v := ?_) ?_ (by rw [hops.out]; kernel_rfl) ?_ ?_ ?_ (by assumption) ?_
                rotate_left 2
                · rw [hops.out]; simp only [List.getElem?_toArray, List.getElem?_cons_succ, List.getElem?_cons_zero]; rfl
                · rw [hops.out]; kernel_rfl
                · intro W hW; (try dsimp only at hW); go_simp <;> with_reducible rfl
                · exact fun _ _ _ h => h
                try simp only [Act.put, List.setIfInBounds_toArray, List.set_cons_zero, List.set_cons_succ]
                refine take_do 2 (oi := ?_) (v := ?_) ?_ (by rw [hops.out]; kernel_rfl) ?_ ?_ ?_ (by assumption) ?_
                rotate_left 2
                · rw [hops.out]; simp only [List.getElem?_toArray, List.getElem?_cons_succ, List.getElem?_cons_zero]; rfl
                · rw [hops.out]; kernel_rfl
                · intro W hW; (try dsimp only at hW); go_simp <;> with_reducible rfl
                · exact fun _ _ _ h => h
                try simp only [Act.put, List.setIfInBounds_toArray, List.set_cons_zero, List.set_cons_succ]
                refine take_do 3 (oi := ?_) (v := ?_) ?_ (by rw [hops.out]; kernel_rfl) ?_ ?_ ?_ (by assumption) ?_
                rotate_left 2
                · rw [hops.out]; simp only [List.getElem?_toArray, List.getElem?_cons_succ, List.getElem?_cons_zero]; rfl
                · rw [hops.out]; kernel_rfl
                · intro W hW; (try dsimp only at hW); go_simp <;> with_reducible rfl
                · exact fun _ _ _ h => h
                try simp only [Act.put, List.setIfInBounds_toArray, List.set_cons_zero, List.set_cons_succ]
                refine take_do 4 (oi := ?_) (v := ?_) ?_ (by rw [hops.out]; kernel_rfl) ?_ ?_ ?_ (by assumption) ?_
                rotate_left 2
                · rw [hops.out]; simp only [List.getElem?_toArray, List.getElem?_cons_succ, List.getElem?_cons_zero]; rfl
                · rw [hops.out]; kernel_rfl
                · intro W hW; (try dsimp only at hW); go_simp <;> with_reducible rfl
                · exact fun _ _ _ h => h
                try simp only [Act.put, List.setIfInBounds_toArray, List.set_cons_zero, List.set_cons_succ]
                refine take_do 5 (oi := ?_) (v := ?_) ?_ (by rw [hops.out]; kernel_rfl) ?_ ?_ ?_ (by assumption) ?_
                rotate_left 2
                · rw [hops.out]; simp only [List.getElem?_toArray, List.getElem?_cons_succ, List.getElem?_cons_zero]; rfl
                · rw [hops.out]; kernel_rfl
                · intro W hW; (try dsimp only at hW); go_simp <;> with_reducible rfl
                · exact fun _ _ _ h => h
                try simp only [Act.put, List.setIfInBounds_toArray, List.set_cons_zero, List.set_cons_succ]
                refine take_skip 6 111 (by rw [hops.out]; kernel_rfl) (by rw [hops.out]; kernel_rfl) (by rw [hops.out]; kernel_rfl) (fun _ _ _ h => h) (by assumption) ?_
                try simp only [Act.put, List.setIfInBounds_toArray, List.set_cons_zero, List.set_cons_succ]
                refine take_skip 7 112 (by rw [hops.out]; kernel_rfl) (by rw [hops.out]; kernel_rfl) (by rw [hops.out]; kernel_rfl) (fun _ _ _ h => h) (by assumption) ?_
                try simp only [Act.put, List.setIfInBounds_toArray, List.set_cons_zero, List.set_cons_succ]
                refine take_skip 8 113 (by rw [hops.out]; kernel_rfl) (by rw [hops.out]; kernel_rfl) (by rw [hops.out]; kernel_rfl) (fun _ _ _ h => h) (by assumption) ?_
                try simp only [Act.put, List.setIfInBounds_toArray, List.set_cons_zero, List.set_cons_succ]
                refine take_do 9 (oi := ?_) (v := ?_) ?_ (by rw [hops.out]; kernel_rfl) ?_ ?_ ?_ (by assumption) ?_
                rotate_left 2
                · rw [hops.out]; simp only [List.getElem?_toArray, List.getElem?_cons_succ, List.getElem?_cons_zero]; rfl
                · rw [hops.out]; kernel_rfl
                · intro W hW; (try dsimp only at hW); go_simp <;> with_reducible rfl
                · exact fun _ _ _ h => h
                try simp only [Act.put, List.setIfInBounds_toArray, List.set_cons_zero, List.set_cons_succ]
                refine take_do 10 (oi := ?_) (v := ?_) ?_ (by rw [hops.out]; kernel_rfl) ?_ ?_ ?_ (by assumption) ?_
                rotate_left 2
                · rw [hops.out]; simp only [List.getElem?_toArray, List.getElem?_cons_succ, List.getElem?_cons_zero]; rfl
                · rw [hops.out]; kernel_rfl
                · intro W hW; (try dsimp only at hW); go_simp <;> with_reducible rfl
                · exact fun _ _ _ h => h
                try simp only [Act.put, List.setIfInBounds_toArray, List.set_cons_zero, List.set_cons_succ]
                refine take_do 11 (oi := ?_) (v := ?_) ?_ (by rw [hops.out]; kernel_rfl) ?_ ?_ ?_ (by assumption) ?_
                rotate_left 2
                · rw [hops.out]; simp only [List.getElem?_toArray, List.getElem?_cons_succ, List.getElem?_cons_zero]; rfl
                · rw [hops.out]; kernel_rfl
                · intro W hW; (try dsimp only at hW); go_simp <;> with_reducible rfl
                · exact fun _ _ _ h => h
                try simp only [Act.put, List.setIfInBounds_toArray, List.set_cons_zero, List.set_cons_succ]
                refine take_do 12 (oi := ?_) (v := ?_) ?_ (by rw [hops.out]; kernel_rfl) ?_ ?_ ?_ (by assumption) ?_
                rotate_left 2
                · rw [hops.out]; simp only [List.getElem?_toArray, List.getElem?_cons_succ, List.getElem?_cons_zero]; rfl
                · rw [hops.out]; kernel_rfl
                · intro W hW; (try dsimp only at hW); go_simp <;> with_reducible rfl
                · exact fun _ _ _ h => h
                try simp only [Act.put, List.setIfInBounds_toArray, List.set_cons_zero, List.set_cons_succ]
                refine take_do 13 (oi := ?_) (v := ?_) ?_ (by rw [hops.out]; kernel_rfl) ?_ ?_ ?_ (by assumption) ?_
                rotate_left 2
                · rw [hops.out]; simp only [List.getElem?_toArray, List.getElem?_cons_succ, List.getElem?_cons_zero]; rfl
                · rw [hops.out]; kernel_rfl
                · intro W hW; (try dsimp only at hW); go_simp <;> with_reducible rfl
                · exact fun _ _ _ h => h
                try simp only [Act.put, List.setIfInBounds_toArray, List.set_cons_zero, List.set_cons_succ]
                refine take_do 14 (oi := ?_) (v := ?_) ?_ (by rw [hops.out]; kernel_rfl) ?_ ?_ ?_ (by assumption) ?_
                rotate_left 2
                · rw [hops.out]; simp only [List.getElem?_toArray, List.getElem?_cons_succ, List.getElem?_cons_zero]; rfl
                · rw [hops.out]; kernel_rfl
                · intro W hW; (try dsimp only at hW); go_simp <;> with_reducible rfl
                · exact fun _ _ _ h => h
                try simp only [Act.put, List.setIfInBounds_toArray, List.set_cons_zero, List.set_cons_succ]
                refine take_do 15 (oi := ?_) (v := ?_) ?_ (by rw [hops.out]; kernel_rfl) ?_ ?_ ?_ (by assumption) ?_
                rotate_left 2
                · rw [hops.out]; simp only [List.getElem?_toArray, List.getElem?_cons_succ, List.getElem?_cons_zero]; rfl
                · rw [hops.out]; kernel_rfl
                · intro W hW; (try dsimp only at hW); go_simp <;> with_reducible rfl
                · exact fun _ _ _ h => h
                try simp only [Act.put, List.setIfInBounds_toArray, List.set_cons_zero, List.set_cons_succ]
                refine take_do 18 (oi := ?_) (v := ?_) ?_ (by rw [hops.out]; kernel_rfl) ?_ ?_ ?_ (by assumption) ?_
                rotate_left 2
                · rw [hops.out]; simp only [List.getElem?_toArray, List.getElem?_cons_succ, List.getElem?_cons_zero]; rfl
                · rw [hops.out]; kernel_rfl
                · intro W hW; (try dsimp only at hW); go_simp <;> with_reducible rfl
                · exact fun _ _ _ h => h
                try simp only [Act.put, List.setIfInBounds_toArray, List.set_cons_zero, List.set_cons_succ]
                refine take_call 16 (oi := ?_) ?_ (by rw [hops.out]; kernel_rfl) ?_ ?_
                rotate_left 1
                · rw [hops.out]; simp only [List.getElem?_toArray, List.getElem?_cons_succ, List.getElem?_cons_zero]; rfl
                · rw [hops.out]; kernel_rfl
                intro K hK
                go_simp
                refine (HCP.out _ BW3).mono ?_
                rintro e w5 ⟨v1, rfl, hn5, b5⟩
                obtain ⟨n1a, n1c, rfl⟩ := owns_lenS hn5
                have hS5 : _ ∧ _ := (show ((fun W => W.cell? ⟨rb, 0, none⟩ = some (.int .i64 p.1.area) ∧ W.cell? ⟨rb, 1, none⟩ = some (.int .i64 p.1.kind) ∧ W.cell? ⟨rb, 2, none⟩ = some (.int .i64 p.1.owner) ∧ W.cell? ⟨rb, 3, none⟩ = some (.int .i64 p.1.key) ∧ W.cell? ⟨rb, 4, none⟩ = some (.int .i64 p.1.seq) ∧ W.cell? ⟨rb, 5, none⟩ = some (.slice pa p.1.near.length pc) ∧ W.cell? ⟨rb, 6, none⟩ = some (.int .i64 p.1.cost) ∧ W.cell? ⟨rb, 7, none⟩ = some (.bool p.1.far) ∧ W.cell? ⟨bx, 0, none⟩ = some (.int .i64 x.kind) ∧ W.cell? ⟨bx, 3, none⟩ = some (.int .i64 x.area))) w5 from by
                  obtain ⟨m0, m1, m2, m3, m4, m5, m6, m7, m8, m9⟩ := hHeld
                  refine ⟨?_, ?_, ?_, ?_, ?_, ?_, ?_, ?_, ?_, ?_⟩ <;> (refine (b5.cell ?_).trans ?_ <;> assumption))
                have hbl5 : bx < w5.heap.size := Nat.lt_of_lt_of_le (by assumption) b5.size
                have hrl5 : rb < w5.heap.size := Nat.lt_of_lt_of_le (by assumption) b5.size
                refine hK.out _ _ hS5 (fun hHeld => ?_)
                clear hK K hS5
                try simp only [Act.put, List.setIfInBounds_toArray, List.set_cons_zero, List.set_cons_succ]
                refine take_call 17 (oi := ?_) ?_ (by rw [hops.out]; kernel_rfl) ?_ ?_
                rotate_left 1
                · rw [hops.out]; simp only [List.getElem?_toArray, List.getElem?_cons_succ, List.getElem?_cons_zero]; rfl
                · rw [hops.out]; kernel_rfl
                intro K hK
                go_simp
                refine (HHD.out _ _ _ _).mono ?_
                rintro e w6 ⟨v2, rfl, hn6, b6⟩
                obtain ⟨n2a, n2c, rfl⟩ := owns_lenS hn6
                have hS6 : _ ∧ _ := (show ((fun W => W.cell? ⟨rb, 0, none⟩ = some (.int .i64 p.1.area) ∧ W.cell? ⟨rb, 1, none⟩ = some (.int .i64 p.1.kind) ∧ W.cell? ⟨rb, 2, none⟩ = some (.int .i64 p.1.owner) ∧ W.cell? ⟨rb, 3, none⟩ = some (.int .i64 p.1.key) ∧ W.cell? ⟨rb, 4, none⟩ = some (.int .i64 p.1.seq) ∧ W.cell? ⟨rb, 5, none⟩ = some (.slice pa p.1.near.length pc) ∧ W.cell? ⟨rb, 6, none⟩ = some (.int .i64 p.1.cost) ∧ W.cell? ⟨rb, 7, none⟩ = some (.bool p.1.far) ∧ W.cell? ⟨bx, 0, none⟩ = some (.int .i64 x.kind) ∧ W.cell? ⟨bx, 3, none⟩ = some (.int .i64 x.area))) w6 from by
                  obtain ⟨m0, m1, m2, m3, m4, m5, m6, m7, m8, m9⟩ := hHeld
                  refine ⟨?_, ?_, ?_, ?_, ?_, ?_, ?_, ?_, ?_, ?_⟩ <;> (refine (b6.cell ?_).trans ?_ <;> assumption))
                have hbl6 : bx < w6.heap.size := Nat.lt_of_lt_of_le (by assumption) b6.size
                have hrl6 : rb < w6.heap.size := Nat.lt_of_lt_of_le (by assumption) b6.size
                refine hK.out _ _ hS6 (fun hHeld => ?_)
                clear hK K hS6
                try simp only [Act.put, List.setIfInBounds_toArray, List.set_cons_zero, List.set_cons_succ]
                refine take_call 19 (oi := ?_) ?_ (by rw [hops.out]; kernel_rfl) ?_ ?_
                rotate_left 1
                · rw [hops.out]; simp only [List.getElem?_toArray, List.getElem?_cons_succ, List.getElem?_cons_zero]; rfl
                · rw [hops.out]; kernel_rfl
                intro K hK
                go_simp
                refine (HSB.out _ _ ((BW3.trans (b5.mono BW3.size)).trans (b6.mono (Nat.le_trans BW3.size b5.size))) (owns_rowAt (xs := ([] : List Nr)) hn6)).mono ?_
                rintro e w7 ⟨rfl, b7⟩
                have hS7 : _ ∧ _ := (show ((fun W => W.cell? ⟨rb, 0, none⟩ = some (.int .i64 p.1.area) ∧ W.cell? ⟨rb, 1, none⟩ = some (.int .i64 p.1.kind) ∧ W.cell? ⟨rb, 2, none⟩ = some (.int .i64 p.1.owner) ∧ W.cell? ⟨rb, 3, none⟩ = some (.int .i64 p.1.key) ∧ W.cell? ⟨rb, 4, none⟩ = some (.int .i64 p.1.seq) ∧ W.cell? ⟨rb, 5, none⟩ = some (.slice pa p.1.near.length pc) ∧ W.cell? ⟨rb, 6, none⟩ = some (.int .i64 p.1.cost) ∧ W.cell? ⟨rb, 7, none⟩ = some (.bool p.1.far) ∧ W.cell? ⟨bx, 0, none⟩ = some (.int .i64 x.kind) ∧ W.cell? ⟨bx, 3, none⟩ = some (.int .i64 x.area))) w7 from by
                  obtain ⟨m0, m1, m2, m3, m4, m5, m6, m7, m8, m9⟩ := hHeld
                  refine ⟨?_, ?_, ?_, ?_, ?_, ?_, ?_, ?_, ?_, ?_⟩ <;> (refine (b7.cell ?_).trans ?_ <;> assumption))
                have hbl7 : bx < w7.heap.size := Nat.lt_of_lt_of_le (by assumption) b7.size
                have hrl7 : rb < w7.heap.size := Nat.lt_of_lt_of_le (by assumption) b7.size
                refine hK.out _ _ hS7 (fun hHeld => ?_)
                clear hK K hS7
                try simp only [Act.put, List.setIfInBounds_toArray, List.set_cons_zero, List.set_cons_succ]
                refine take_do 20 (oi := ?_) (v := ?_) ?_ (by rw [hops.out]; kernel_rfl) ?_ ?_ ?_ (by assumption) ?_
                rotate_left 2
                · rw [hops.out]; simp only [List.getElem?_toArray, List.getElem?_cons_succ, List.getElem?_cons_zero]; rfl
                · rw [hops.out]; kernel_rfl
                · intro W hW; (try dsimp only at hW); go_simp <;> with_reducible rfl
                · exact fun _ _ _ h => h
                try simp only [Act.put, List.setIfInBounds_toArray, List.set_cons_zero, List.set_cons_succ]
                refine take_do 21 (oi := ?_) (v := ?_) ?_ (by rw [hops.out]; kernel_rfl) ?_ ?_ ?_ (by assumption) ?_
                rotate_left 2
                · rw [hops.out]; simp only [List.getElem?_toArray, List.getElem?_cons_succ, List.getElem?_cons_zero]; rfl
                · rw [hops.out]; kernel_rfl
                · intro W hW; (try dsimp only at hW); go_simp <;> with_reducible rfl
                · exact fun _ _ _ h => h
                try simp only [Act.put, List.setIfInBounds_toArray, List.set_cons_zero, List.set_cons_succ]
                refine take_do 22 (oi := ?_) (v := ?_) ?_ (by rw [hops.out]; kernel_rfl) ?_ ?_ ?_ (by assumption) ?_
                rotate_left 2
                · rw [hops.out]; simp only [List.getElem?_toArray, List.getElem?_cons_succ, List.getElem?_cons_zero]; rfl
                · rw [hops.out]; kernel_rfl
                · intro W hW; (try dsimp only at hW); go_simp <;> with_reducible rfl
                · exact fun _ _ _ h => h
                try simp only [Act.put, List.setIfInBounds_toArray, List.set_cons_zero, List.set_cons_succ]
                refine wpAnyH_done (by rw [hops.out]; kernel_rfl) ?_ _
                clear hops ops
                have B7 : Below w.heap.size w w7 := ((BW3.trans (b5.mono BW3.size)).trans (b6.mono (Nat.le_trans BW3.size b5.size))).trans (b7.mono (Nat.le_trans (Nat.le_trans BW3.size b5.size) b6.size))
                go_wp2
                go_ret
                exact ⟨by rw [HF.out]; rfl, B7⟩
              · clear k2
                go_wp2
                rw [← hw3]
                clear hw3
                rw [← hrb]
                clear hrb
                refine wp_region_start (S := (fun W => W.cell? ⟨rb, 0, none⟩ = some (.int .i64 p.1.area) ∧ W.cell? ⟨rb, 1, none⟩ = some (.int .i64 p.1.kind) ∧ W.cell? ⟨rb, 2, none⟩ = some (.int .i64 p.1.owner) ∧ W.cell? ⟨rb, 3, none⟩ = some (.int .i64 p.1.key) ∧ W.cell? ⟨rb, 4, none⟩ = some (.int .i64 p.1.seq) ∧ W.cell? ⟨rb, 5, none⟩ = some (.slice pa p.1.near.length pc) ∧ W.cell? ⟨rb, 6, none⟩ = some (.int .i64 p.1.cost) ∧ W.cell? ⟨rb, 7, none⟩ = some (.bool p.1.far) ∧ W.cell? ⟨bx, 0, none⟩ = some (.int .i64 x.kind) ∧ W.cell? ⟨bx, 3, none⟩ = some (.int .i64 x.area))) (by kernel_rfl) 23 rfl ⟨d0, d1, d2, d3, d4, d5, d6, d7, z0, z3⟩ (fun ops hops hHeld => ?_)
                refine take_do 0 (oi := ?_) (v := ?_) ?_ (by rw [hops.out]; kernel_rfl) ?_ ?_ ?_ (by assumption) ?_
                rotate_left 2
                · rw [hops.out]; simp only [List.getElem?_toArray, List.getElem?_cons_succ, List.getElem?_cons_zero]; rfl
                · rw [hops.out]; kernel_rfl
                · intro W hW; (try dsimp only at hW); go_simp <;> with_reducible rfl
                · exact fun _ _ _ h => h
                try simp only [Act.put, List.setIfInBounds_toArray, List.set_cons_zero, List.set_cons_succ]
                refine take_do 1 (oi := ?_) (v := ?_) ?_ (by rw [hops.out]; kernel_rfl) ?_ ?_ ?_ (by assumption) ?_
                rotate_left 2
                · rw [hops.out]; simp only [List.getElem?_toArray, List.getElem?_cons_succ, List.getElem?_cons_zero]; rfl
                · rw [hops.out]; kernel_rfl
                · intro W hW; (try dsimp only at hW); go_simp <;> with_reducible rfl
                · exact fun _ _ _ h => h
                try simp only [Act.put, List.setIfInBounds_toArray, List.set_cons_zero, List.set_cons_succ]
                refine take_do 2 (oi := ?_) (v := ?_) ?_ (by rw [hops.out]; kernel_rfl) ?_ ?_ ?_ (by assumption) ?_
                rotate_left 2
                · rw [hops.out]; simp only [List.getElem?_toArray, List.getElem?_cons_succ, List.getElem?_cons_zero]; rfl
                · rw [hops.out]; kernel_rfl
                · intro W hW; (try dsimp only at hW); go_simp <;> with_reducible rfl
                · exact fun _ _ _ h => h
                try simp only [Act.put, List.setIfInBounds_toArray, List.set_cons_zero, List.set_cons_succ]
                refine take_do 3 (oi := ?_) (v := ?_) ?_ (by rw [hops.out]; kernel_rfl) ?_ ?_ ?_ (by assumption) ?_
                rotate_left 2
                · rw [hops.out]; simp only [List.getElem?_toArray, List.getElem?_cons_succ, List.getElem?_cons_zero]; rfl
                · rw [hops.out]; kernel_rfl
                · intro W hW; (try dsimp only at hW); go_simp <;> with_reducible rfl
                · exact fun _ _ _ h => h
                try simp only [Act.put, List.setIfInBounds_toArray, List.set_cons_zero, List.set_cons_succ]
                refine take_do 4 (oi := ?_) (v := ?_) ?_ (by rw [hops.out]; kernel_rfl) ?_ ?_ ?_ (by assumption) ?_
                rotate_left 2
                · rw [hops.out]; simp only [List.getElem?_toArray, List.getElem?_cons_succ, List.getElem?_cons_zero]; rfl
                · rw [hops.out]; kernel_rfl
                · intro W hW; (try dsimp only at hW); go_simp <;> with_reducible rfl
                · exact fun _ _ _ h => h
                try simp only [Act.put, List.setIfInBounds_toArray, List.set_cons_zero, List.set_cons_succ]
                refine take_do 5 (oi := ?_) (v := ?_) ?_ (by rw [hops.out]; kernel_rfl) ?_ ?_ ?_ (by assumption) ?_
                rotate_left 2
                · rw [hops.out]; simp only [List.getElem?_toArray, List.getElem?_cons_succ, List.getElem?_cons_zero]; rfl
                · rw [hops.out]; kernel_rfl
                · intro W hW; (try dsimp only at hW); go_simp <;> with_reducible rfl
                · exact fun _ _ _ h => h
                try simp only [Act.put, List.setIfInBounds_toArray, List.set_cons_zero, List.set_cons_succ]
                refine take_skip 6 111 (by rw [hops.out]; kernel_rfl) (by rw [hops.out]; kernel_rfl) (by rw [hops.out]; kernel_rfl) (fun _ _ _ h => h) (by assumption) ?_
                try simp only [Act.put, List.setIfInBounds_toArray, List.set_cons_zero, List.set_cons_succ]
                refine take_skip 7 112 (by rw [hops.out]; kernel_rfl) (by rw [hops.out]; kernel_rfl) (by rw [hops.out]; kernel_rfl) (fun _ _ _ h => h) (by assumption) ?_
                try simp only [Act.put, List.setIfInBounds_toArray, List.set_cons_zero, List.set_cons_succ]
                refine take_skip 8 113 (by rw [hops.out]; kernel_rfl) (by rw [hops.out]; kernel_rfl) (by rw [hops.out]; kernel_rfl) (fun _ _ _ h => h) (by assumption) ?_
                try simp only [Act.put, List.setIfInBounds_toArray, List.set_cons_zero, List.set_cons_succ]
                refine take_do 9 (oi := ?_) (v := ?_) ?_ (by rw [hops.out]; kernel_rfl) ?_ ?_ ?_ (by assumption) ?_
                rotate_left 2
                · rw [hops.out]; simp only [List.getElem?_toArray, List.getElem?_cons_succ, List.getElem?_cons_zero]; rfl
                · rw [hops.out]; kernel_rfl
                · intro W hW; (try dsimp only at hW); go_simp <;> with_reducible rfl
                · exact fun _ _ _ h => h
                try simp only [Act.put, List.setIfInBounds_toArray, List.set_cons_zero, List.set_cons_succ]
                refine take_do 10 (oi := ?_) (v := ?_) ?_ (by rw [hops.out]; kernel_rfl) ?_ ?_ ?_ (by assumption) ?_
                rotate_left 2
                · rw [hops.out]; simp only [List.getElem?_toArray, List.getElem?_cons_succ, List.getElem?_cons_zero]; rfl
                · rw [hops.out]; kernel_rfl
                · intro W hW; (try dsimp only at hW); go_simp <;> with_reducible rfl
                · exact fun _ _ _ h => h
                try simp only [Act.put, List.setIfInBounds_toArray, List.set_cons_zero, List.set_cons_succ]
                refine take_do 11 (oi := ?_) (v := ?_) ?_ (by rw [hops.out]; kernel_rfl) ?_ ?_ ?_ (by assumption) ?_
                rotate_left 2
                · rw [hops.out]; simp only [List.getElem?_toArray, List.getElem?_cons_succ, List.getElem?_cons_zero]; rfl
                · rw [hops.out]; kernel_rfl
                · intro W hW; (try dsimp only at hW); go_simp <;> with_reducible rfl
                · exact fun _ _ _ h => h
                try simp only [Act.put, List.setIfInBounds_toArray, List.set_cons_zero, List.set_cons_succ]
                refine take_do 12 (oi := ?_) (v := ?_) ?_ (by rw [hops.out]; kernel_rfl) ?_ ?_ ?_ (by assumption) ?_
                rotate_left 2
                · rw [hops.out]; simp only [List.getElem?_toArray, List.getElem?_cons_succ, List.getElem?_cons_zero]; rfl
                · rw [hops.out]; kernel_rfl
                · intro W hW; (try dsimp only at hW); go_simp <;> with_reducible rfl
                · exact fun _ _ _ h => h
                try simp only [Act.put, List.setIfInBounds_toArray, List.set_cons_zero, List.set_cons_succ]
                refine take_do 13 (oi := ?_) (v := ?_) ?_ (by rw [hops.out]; kernel_rfl) ?_ ?_ ?_ (by assumption) ?_
                rotate_left 2
                · rw [hops.out]; simp only [List.getElem?_toArray, List.getElem?_cons_succ, List.getElem?_cons_zero]; rfl
                · rw [hops.out]; kernel_rfl
                · intro W hW; (try dsimp only at hW); go_simp <;> with_reducible rfl
                · exact fun _ _ _ h => h
                try simp only [Act.put, List.setIfInBounds_toArray, List.set_cons_zero, List.set_cons_succ]
                refine take_do 14 (oi := ?_) (v := ?_) ?_ (by rw [hops.out]; kernel_rfl) ?_ ?_ ?_ (by assumption) ?_
                rotate_left 2
                · rw [hops.out]; simp only [List.getElem?_toArray, List.getElem?_cons_succ, List.getElem?_cons_zero]; rfl
                · rw [hops.out]; kernel_rfl
                · intro W hW; (try dsimp only at hW); go_simp <;> with_reducible rfl
                · exact fun _ _ _ h => h
                try simp only [Act.put, List.setIfInBounds_toArray, List.set_cons_zero, List.set_cons_succ]
                refine take_do 15 (oi := ?_) (v := ?_) ?_ (by rw [hops.out]; kernel_rfl) ?_ ?_ ?_ (by assumption) ?_
                rotate_left 2
                · rw [hops.out]; simp only [List.getElem?_toArray, List.getElem?_cons_succ, List.getElem?_cons_zero]; rfl
                · rw [hops.out]; kernel_rfl
                · intro W hW; (try dsimp only at hW); go_simp <;> with_reducible rfl
                · exact fun _ _ _ h => h
                try simp only [Act.put, List.setIfInBounds_toArray, List.set_cons_zero, List.set_cons_succ]
                refine take_do 18 (oi := ?_) (v := ?_) ?_ (by rw [hops.out]; kernel_rfl) ?_ ?_ ?_ (by assumption) ?_
                rotate_left 2
                · rw [hops.out]; simp only [List.getElem?_toArray, List.getElem?_cons_succ, List.getElem?_cons_zero]; rfl
                · rw [hops.out]; kernel_rfl
                · intro W hW; (try dsimp only at hW); go_simp <;> with_reducible rfl
                · exact fun _ _ _ h => h
                try simp only [Act.put, List.setIfInBounds_toArray, List.set_cons_zero, List.set_cons_succ]
                refine take_call 16 (oi := ?_) ?_ (by rw [hops.out]; kernel_rfl) ?_ ?_
                rotate_left 1
                · rw [hops.out]; simp only [List.getElem?_toArray, List.getElem?_cons_succ, List.getElem?_cons_zero]; rfl
                · rw [hops.out]; kernel_rfl
                intro K hK
                go_simp
                refine (HCP.out _ BW3).mono ?_
                rintro e w5 ⟨v1, rfl, hn5, b5⟩
                obtain ⟨n1a, n1c, rfl⟩ := owns_lenS hn5
                have hS5 : _ ∧ _ := (show ((fun W => W.cell? ⟨rb, 0, none⟩ = some (.int .i64 p.1.area) ∧ W.cell? ⟨rb, 1, none⟩ = some (.int .i64 p.1.kind) ∧ W.cell? ⟨rb, 2, none⟩ = some (.int .i64 p.1.owner) ∧ W.cell? ⟨rb, 3, none⟩ = some (.int .i64 p.1.key) ∧ W.cell? ⟨rb, 4, none⟩ = some (.int .i64 p.1.seq) ∧ W.cell? ⟨rb, 5, none⟩ = some (.slice pa p.1.near.length pc) ∧ W.cell? ⟨rb, 6, none⟩ = some (.int .i64 p.1.cost) ∧ W.cell? ⟨rb, 7, none⟩ = some (.bool p.1.far) ∧ W.cell? ⟨bx, 0, none⟩ = some (.int .i64 x.kind) ∧ W.cell? ⟨bx, 3, none⟩ = some (.int .i64 x.area))) w5 from by
                  obtain ⟨m0, m1, m2, m3, m4, m5, m6, m7, m8, m9⟩ := hHeld
                  refine ⟨?_, ?_, ?_, ?_, ?_, ?_, ?_, ?_, ?_, ?_⟩ <;> (refine (b5.cell ?_).trans ?_ <;> assumption))
                have hbl5 : bx < w5.heap.size := Nat.lt_of_lt_of_le (by assumption) b5.size
                have hrl5 : rb < w5.heap.size := Nat.lt_of_lt_of_le (by assumption) b5.size
                refine hK.out _ _ hS5 (fun hHeld => ?_)
                clear hK K hS5
                try simp only [Act.put, List.setIfInBounds_toArray, List.set_cons_zero, List.set_cons_succ]
                refine take_call 17 (oi := ?_) ?_ (by rw [hops.out]; kernel_rfl) ?_ ?_
                rotate_left 1
                · rw [hops.out]; simp only [List.getElem?_toArray, List.getElem?_cons_succ, List.getElem?_cons_zero]; rfl
                · rw [hops.out]; kernel_rfl
                intro K hK
                go_simp
                refine (HHD.out _ _ _ _).mono ?_
                rintro e w6 ⟨v2, rfl, hn6, b6⟩
                obtain ⟨n2a, n2c, rfl⟩ := owns_lenS hn6
                have hS6 : _ ∧ _ := (show ((fun W => W.cell? ⟨rb, 0, none⟩ = some (.int .i64 p.1.area) ∧ W.cell? ⟨rb, 1, none⟩ = some (.int .i64 p.1.kind) ∧ W.cell? ⟨rb, 2, none⟩ = some (.int .i64 p.1.owner) ∧ W.cell? ⟨rb, 3, none⟩ = some (.int .i64 p.1.key) ∧ W.cell? ⟨rb, 4, none⟩ = some (.int .i64 p.1.seq) ∧ W.cell? ⟨rb, 5, none⟩ = some (.slice pa p.1.near.length pc) ∧ W.cell? ⟨rb, 6, none⟩ = some (.int .i64 p.1.cost) ∧ W.cell? ⟨rb, 7, none⟩ = some (.bool p.1.far) ∧ W.cell? ⟨bx, 0, none⟩ = some (.int .i64 x.kind) ∧ W.cell? ⟨bx, 3, none⟩ = some (.int .i64 x.area))) w6 from by
                  obtain ⟨m0, m1, m2, m3, m4, m5, m6, m7, m8, m9⟩ := hHeld
                  refine ⟨?_, ?_, ?_, ?_, ?_, ?_, ?_, ?_, ?_, ?_⟩ <;> (refine (b6.cell ?_).trans ?_ <;> assumption))
                have hbl6 : bx < w6.heap.size := Nat.lt_of_lt_of_le (by assumption) b6.size
                have hrl6 : rb < w6.heap.size := Nat.lt_of_lt_of_le (by assumption) b6.size
                refine hK.out _ _ hS6 (fun hHeld => ?_)
                clear hK K hS6
                try simp only [Act.put, List.setIfInBounds_toArray, List.set_cons_zero, List.set_cons_succ]
                refine take_call 19 (oi := ?_) ?_ (by rw [hops.out]; kernel_rfl) ?_ ?_
                rotate_left 1
                · rw [hops.out]; simp only [List.getElem?_toArray, List.getElem?_cons_succ, List.getElem?_cons_zero]; rfl
                · rw [hops.out]; kernel_rfl
                intro K hK
                go_simp
                refine (HSB.out _ _ ((BW3.trans (b5.mono BW3.size)).trans (b6.mono (Nat.le_trans BW3.size b5.size))) (owns_rowAt (xs := ([] : List Nr)) hn6)).mono ?_
                rintro e w7 ⟨rfl, b7⟩
                have hS7 : _ ∧ _ := (show ((fun W => W.cell? ⟨rb, 0, none⟩ = some (.int .i64 p.1.area) ∧ W.cell? ⟨rb, 1, none⟩ = some (.int .i64 p.1.kind) ∧ W.cell? ⟨rb, 2, none⟩ = some (.int .i64 p.1.owner) ∧ W.cell? ⟨rb, 3, none⟩ = some (.int .i64 p.1.key) ∧ W.cell? ⟨rb, 4, none⟩ = some (.int .i64 p.1.seq) ∧ W.cell? ⟨rb, 5, none⟩ = some (.slice pa p.1.near.length pc) ∧ W.cell? ⟨rb, 6, none⟩ = some (.int .i64 p.1.cost) ∧ W.cell? ⟨rb, 7, none⟩ = some (.bool p.1.far) ∧ W.cell? ⟨bx, 0, none⟩ = some (.int .i64 x.kind) ∧ W.cell? ⟨bx, 3, none⟩ = some (.int .i64 x.area))) w7 from by
                  obtain ⟨m0, m1, m2, m3, m4, m5, m6, m7, m8, m9⟩ := hHeld
                  refine ⟨?_, ?_, ?_, ?_, ?_, ?_, ?_, ?_, ?_, ?_⟩ <;> (refine (b7.cell ?_).trans ?_ <;> assumption))
                have hbl7 : bx < w7.heap.size := Nat.lt_of_lt_of_le (by assumption) b7.size
                have hrl7 : rb < w7.heap.size := Nat.lt_of_lt_of_le (by assumption) b7.size
                refine hK.out _ _ hS7 (fun hHeld => ?_)
                clear hK K hS7
                try simp only [Act.put, List.setIfInBounds_toArray, List.set_cons_zero, List.set_cons_succ]
                refine take_do 20 (oi := ?_) (v := ?_) ?_ (by rw [hops.out]; kernel_rfl) ?_ ?_ ?_ (by assumption) ?_
                rotate_left 2
                · rw [hops.out]; simp only [List.getElem?_toArray, List.getElem?_cons_succ, List.getElem?_cons_zero]; rfl
                · rw [hops.out]; kernel_rfl
                · intro W hW; (try dsimp only at hW); go_simp <;> with_reducible rfl
                · exact fun _ _ _ h => h
                try simp only [Act.put, List.setIfInBounds_toArray, List.set_cons_zero, List.set_cons_succ]
                refine take_do 21 (oi := ?_) (v := ?_) ?_ (by rw [hops.out]; kernel_rfl) ?_ ?_ ?_ (by assumption) ?_
                rotate_left 2
                · rw [hops.out]; simp only [List.getElem?_toArray, List.getElem?_cons_succ, List.getElem?_cons_zero]; rfl
                · rw [hops.out]; kernel_rfl
                · intro W hW; (try dsimp only at hW); go_simp <;> with_reducible rfl
                · exact fun _ _ _ h => h
                try simp only [Act.put, List.setIfInBounds_toArray, List.set_cons_zero, List.set_cons_succ]
                refine take_do 22 (oi := ?_) (v := ?_) ?_ (by rw [hops.out]; kernel_rfl) ?_ ?_ ?_ (by assumption) ?_
                rotate_left 2
                · rw [hops.out]; simp only [List.getElem?_toArray, List.getElem?_cons_succ, List.getElem?_cons_zero]; rfl
                · rw [hops.out]; kernel_rfl
                · intro W hW; (try dsimp only at hW); go_simp <;> with_reducible rfl
                · exact fun _ _ _ h => h
                try simp only [Act.put, List.setIfInBounds_toArray, List.set_cons_zero, List.set_cons_succ]
                refine wpAnyH_done (by rw [hops.out]; kernel_rfl) ?_ _
                clear hops ops
                have B7 : Below w2.heap.size w2 w7 := ((BW4.trans (b5.mono BW4.size)).trans (b6.mono (Nat.le_trans BW4.size b5.size))).trans (b7.mono (Nat.le_trans (Nat.le_trans BW4.size b5.size) b6.size))
                go_wp2
                go_roundw
                case rel => exact ⟨k + 1, by omega, by go_num, next_true HALL.out HT.out, hide (fun h => next_true (hhd.out h) HAT2.out), B7⟩
                case measure => simp [intOf]; omega
            · have kb : (x.kind == 2) = false := by simpa using k2
              have HK2 := hide k2
              clear k2
              go_wp2
              rw [← hw3]
              clear hw3
              rw [← hrb]
              clear hrb
              refine wp_region_start (S := (fun W => W.cell? ⟨rb, 0, none⟩ = some (.int .i64 p.1.area) ∧ W.cell? ⟨rb, 1, none⟩ = some (.int .i64 p.1.kind) ∧ W.cell? ⟨rb, 2, none⟩ = some (.int .i64 p.1.owner) ∧ W.cell? ⟨rb, 3, none⟩ = some (.int .i64 p.1.key) ∧ W.cell? ⟨rb, 4, none⟩ = some (.int .i64 p.1.seq) ∧ W.cell? ⟨rb, 5, none⟩ = some (.slice pa p.1.near.length pc) ∧ W.cell? ⟨rb, 6, none⟩ = some (.int .i64 p.1.cost) ∧ W.cell? ⟨rb, 7, none⟩ = some (.bool p.1.far) ∧ W.cell? ⟨bx, 0, none⟩ = some (.int .i64 x.kind) ∧ W.cell? ⟨bx, 3, none⟩ = some (.int .i64 x.area))) (by kernel_rfl) 23 rfl ⟨d0, d1, d2, d3, d4, d5, d6, d7, z0, z3⟩ (fun ops hops hHeld => ?_)
              refine take_do 0 (oi := ?_) (v := ?_) ?_ (by rw [hops.out]; kernel_rfl) ?_ ?_ ?_ (by assumption) ?_
              rotate_left 2
              · rw [hops.out]; simp only [List.getElem?_toArray, List.getElem?_cons_succ, List.getElem?_cons_zero]; rfl
              · rw [hops.out]; kernel_rfl
              · intro W hW; (try dsimp only at hW); go_simp <;> with_reducible rfl
              · exact fun _ _ _ h => h
              try simp only [Act.put, List.setIfInBounds_toArray, List.set_cons_zero, List.set_cons_succ]
              refine take_do 1 (oi := ?_) (v := ?_) ?_ (by rw [hops.out]; kernel_rfl) ?_ ?_ ?_ (by assumption) ?_
              rotate_left 2
              · rw [hops.out]; simp only [List.getElem?_toArray, List.getElem?_cons_succ, List.getElem?_cons_zero]; rfl
              · rw [hops.out]; kernel_rfl
              · intro W hW; (try dsimp only at hW); go_simp <;> with_reducible rfl
              · exact fun _ _ _ h => h
              try simp only [Act.put, List.setIfInBounds_toArray, List.set_cons_zero, List.set_cons_succ]
              refine take_do 2 (oi := ?_) (v := ?_) ?_ (by rw [hops.out]; kernel_rfl) ?_ ?_ ?_ (by assumption) ?_
              rotate_left 2
              · rw [hops.out]; simp only [List.getElem?_toArray, List.getElem?_cons_succ, List.getElem?_cons_zero]; rfl
              · rw [hops.out]; kernel_rfl
              · intro W hW; (try dsimp only at hW); go_simp <;> with_reducible rfl
              · exact fun _ _ _ h => h
              try simp only [Act.put, List.setIfInBounds_toArray, List.set_cons_zero, List.set_cons_succ]
              refine take_do 3 (oi := ?_) (v := ?_) ?_ (by rw [hops.out]; kernel_rfl) ?_ ?_ ?_ (by assumption) ?_
              rotate_left 2
              · rw [hops.out]; simp only [List.getElem?_toArray, List.getElem?_cons_succ, List.getElem?_cons_zero]; rfl
              · rw [hops.out]; kernel_rfl
              · intro W hW; (try dsimp only at hW); go_simp <;> with_reducible rfl
              · exact fun _ _ _ h => h
              try simp only [Act.put, List.setIfInBounds_toArray, List.set_cons_zero, List.set_cons_succ]
              refine take_do 4 (oi := ?_) (v := ?_) ?_ (by rw [hops.out]; kernel_rfl) ?_ ?_ ?_ (by assumption) ?_
              rotate_left 2
              · rw [hops.out]; simp only [List.getElem?_toArray, List.getElem?_cons_succ, List.getElem?_cons_zero]; rfl
              · rw [hops.out]; kernel_rfl
              · intro W hW; (try dsimp only at hW); go_simp <;> with_reducible rfl
              · exact fun _ _ _ h => h
              try simp only [Act.put, List.setIfInBounds_toArray, List.set_cons_zero, List.set_cons_succ]
              refine take_do 5 (oi := ?_) (v := ?_) ?_ (by rw [hops.out]; kernel_rfl) ?_ ?_ ?_ (by assumption) ?_
              rotate_left 2
              · rw [hops.out]; simp only [List.getElem?_toArray, List.getElem?_cons_succ, List.getElem?_cons_zero]; rfl
              · rw [hops.out]; kernel_rfl
              · intro W hW; (try dsimp only at hW); go_simp <;> with_reducible rfl
              · exact fun _ _ _ h => h
              try simp only [Act.put, List.setIfInBounds_toArray, List.set_cons_zero, List.set_cons_succ]
              refine take_skip 6 111 (by rw [hops.out]; kernel_rfl) (by rw [hops.out]; kernel_rfl) (by rw [hops.out]; kernel_rfl) (fun _ _ _ h => h) (by assumption) ?_
              try simp only [Act.put, List.setIfInBounds_toArray, List.set_cons_zero, List.set_cons_succ]
              refine take_skip 7 112 (by rw [hops.out]; kernel_rfl) (by rw [hops.out]; kernel_rfl) (by rw [hops.out]; kernel_rfl) (fun _ _ _ h => h) (by assumption) ?_
              try simp only [Act.put, List.setIfInBounds_toArray, List.set_cons_zero, List.set_cons_succ]
              refine take_skip 8 113 (by rw [hops.out]; kernel_rfl) (by rw [hops.out]; kernel_rfl) (by rw [hops.out]; kernel_rfl) (fun _ _ _ h => h) (by assumption) ?_
              try simp only [Act.put, List.setIfInBounds_toArray, List.set_cons_zero, List.set_cons_succ]
              refine take_do 9 (oi := ?_) (v := ?_) ?_ (by rw [hops.out]; kernel_rfl) ?_ ?_ ?_ (by assumption) ?_
              rotate_left 2
              · rw [hops.out]; simp only [List.getElem?_toArray, List.getElem?_cons_succ, List.getElem?_cons_zero]; rfl
              · rw [hops.out]; kernel_rfl
              · intro W hW; (try dsimp only at hW); go_simp <;> with_reducible rfl
              · exact fun _ _ _ h => h
              try simp only [Act.put, List.setIfInBounds_toArray, List.set_cons_zero, List.set_cons_succ]
              refine take_do 10 (oi := ?_) (v := ?_) ?_ (by rw [hops.out]; kernel_rfl) ?_ ?_ ?_ (by assumption) ?_
              rotate_left 2
              · rw [hops.out]; simp only [List.getElem?_toArray, List.getElem?_cons_succ, List.getElem?_cons_zero]; rfl
              · rw [hops.out]; kernel_rfl
              · intro W hW; (try dsimp only at hW); go_simp <;> with_reducible rfl
              · exact fun _ _ _ h => h
              try simp only [Act.put, List.setIfInBounds_toArray, List.set_cons_zero, List.set_cons_succ]
              refine take_do 11 (oi := ?_) (v := ?_) ?_ (by rw [hops.out]; kernel_rfl) ?_ ?_ ?_ (by assumption) ?_
              rotate_left 2
              · rw [hops.out]; simp only [List.getElem?_toArray, List.getElem?_cons_succ, List.getElem?_cons_zero]; rfl
              · rw [hops.out]; kernel_rfl
              · intro W hW; (try dsimp only at hW); go_simp <;> with_reducible rfl
              · exact fun _ _ _ h => h
              try simp only [Act.put, List.setIfInBounds_toArray, List.set_cons_zero, List.set_cons_succ]
              refine take_do 12 (oi := ?_) (v := ?_) ?_ (by rw [hops.out]; kernel_rfl) ?_ ?_ ?_ (by assumption) ?_
              rotate_left 2
              · rw [hops.out]; simp only [List.getElem?_toArray, List.getElem?_cons_succ, List.getElem?_cons_zero]; rfl
              · rw [hops.out]; kernel_rfl
              · intro W hW; (try dsimp only at hW); go_simp <;> with_reducible rfl
              · exact fun _ _ _ h => h
              try simp only [Act.put, List.setIfInBounds_toArray, List.set_cons_zero, List.set_cons_succ]
              refine take_do 13 (oi := ?_) (v := ?_) ?_ (by rw [hops.out]; kernel_rfl) ?_ ?_ ?_ (by assumption) ?_
              rotate_left 2
              · rw [hops.out]; simp only [List.getElem?_toArray, List.getElem?_cons_succ, List.getElem?_cons_zero]; rfl
              · rw [hops.out]; kernel_rfl
              · intro W hW; (try dsimp only at hW); go_simp <;> with_reducible rfl
              · exact fun _ _ _ h => h
              try simp only [Act.put, List.setIfInBounds_toArray, List.set_cons_zero, List.set_cons_succ]
              refine take_do 14 (oi := ?_) (v := ?_) ?_ (by rw [hops.out]; kernel_rfl) ?_ ?_ ?_ (by assumption) ?_
              rotate_left 2
              · rw [hops.out]; simp only [List.getElem?_toArray, List.getElem?_cons_succ, List.getElem?_cons_zero]; rfl
              · rw [hops.out]; kernel_rfl
              · intro W hW; (try dsimp only at hW); go_simp <;> with_reducible rfl
              · exact fun _ _ _ h => h
              try simp only [Act.put, List.setIfInBounds_toArray, List.set_cons_zero, List.set_cons_succ]
              refine take_skip 15 120 (by rw [hops.out]; kernel_rfl) (by rw [hops.out]; kernel_rfl) (by rw [hops.out]; kernel_rfl) (fun _ _ _ h => h) (by assumption) ?_
              try simp only [Act.put, List.setIfInBounds_toArray, List.set_cons_zero, List.set_cons_succ]
              refine take_skip 16 121 (by rw [hops.out]; kernel_rfl) (by rw [hops.out]; kernel_rfl) (by rw [hops.out]; kernel_rfl) (fun _ _ _ h => h) (by assumption) ?_
              try simp only [Act.put, List.setIfInBounds_toArray, List.set_cons_zero, List.set_cons_succ]
              refine take_skip 17 122 (by rw [hops.out]; kernel_rfl) (by rw [hops.out]; kernel_rfl) (by rw [hops.out]; kernel_rfl) (fun _ _ _ h => h) (by assumption) ?_
              try simp only [Act.put, List.setIfInBounds_toArray, List.set_cons_zero, List.set_cons_succ]
              refine take_skip 18 123 (by rw [hops.out]; kernel_rfl) (by rw [hops.out]; kernel_rfl) (by rw [hops.out]; kernel_rfl) (fun _ _ _ h => h) (by assumption) ?_
              try simp only [Act.put, List.setIfInBounds_toArray, List.set_cons_zero, List.set_cons_succ]
              refine take_skip 19 124 (by rw [hops.out]; kernel_rfl) (by rw [hops.out]; kernel_rfl) (by rw [hops.out]; kernel_rfl) (fun _ _ _ h => h) (by assumption) ?_
              try simp only [Act.put, List.setIfInBounds_toArray, List.set_cons_zero, List.set_cons_succ]
              refine take_skip 20 125 (by rw [hops.out]; kernel_rfl) (by rw [hops.out]; kernel_rfl) (by rw [hops.out]; kernel_rfl) (fun _ _ _ h => h) (by assumption) ?_
              try simp only [Act.put, List.setIfInBounds_toArray, List.set_cons_zero, List.set_cons_succ]
              refine take_do 21 (oi := ?_) (v := ?_) ?_ (by rw [hops.out]; kernel_rfl) ?_ ?_ ?_ (by assumption) ?_
              rotate_left 2
              · rw [hops.out]; simp only [List.getElem?_toArray, List.getElem?_cons_succ, List.getElem?_cons_zero]; rfl
              · rw [hops.out]; kernel_rfl
              · intro W hW; (try dsimp only at hW); go_simp <;> with_reducible rfl
              · exact fun _ _ _ h => h
              try simp only [Act.put, List.setIfInBounds_toArray, List.set_cons_zero, List.set_cons_succ]
              refine take_do 22 (oi := ?_) (v := ?_) ?_ (by rw [hops.out]; kernel_rfl) ?_ ?_ ?_ (by assumption) ?_
              rotate_left 2
              · rw [hops.out]; simp only [List.getElem?_toArray, List.getElem?_cons_succ, List.getElem?_cons_zero]; rfl
              · rw [hops.out]; kernel_rfl
              · intro W hW; (try dsimp only at hW); go_simp <;> with_reducible rfl
              · exact fun _ _ _ h => h
              try simp only [Act.put, List.setIfInBounds_toArray, List.set_cons_zero, List.set_cons_succ]
              refine wpAnyH_done (by rw [hops.out]; kernel_rfl) ?_ _
              clear hops ops
              go_wp2
              go_roundw
              case rel => exact ⟨k + 1, by omega, by go_num, next_true HALL.out HT.out, hide (fun h => absurd h HK2.out), BW4⟩
              case measure => simp [intOf]; omega
          have hd : (p.1.area != x.area) = true := by simpa using h1
          by_cases h2 : p.1.area = 9
          · have hd2 : (p.1.area != 9) = false := by simp [h2]
            have HT := hide (show okAt (inScope x.area) (fsts ps) k = true by rw [HAT1.out]; simp [inScope, h2])
            clear h1 h2
            by_cases k2 : x.kind = 2
            · have kb : (x.kind == 2) = true := by simpa using k2
              cases q
              · have HF := hide (show r4 = false by
                  rw [R4.out, said_two k2, show headsB (fsts ps) = false from heads_bad (by rw [HFL.out]; exact hlt) HAT2.out]
                  simp)
                clear k2
                go_wp2
                rw [← hw3]
                clear hw3
                rw [← hrb]
                clear hrb
                refine wp_region_start (S := (fun W => W.cell? ⟨rb, 0, none⟩ = some (.int .i64 p.1.area) ∧ W.cell? ⟨rb, 1, none⟩ = some (.int .i64 p.1.kind) ∧ W.cell? ⟨rb, 2, none⟩ = some (.int .i64 p.1.owner) ∧ W.cell? ⟨rb, 3, none⟩ = some (.int .i64 p.1.key) ∧ W.cell? ⟨rb, 4, none⟩ = some (.int .i64 p.1.seq) ∧ W.cell? ⟨rb, 5, none⟩ = some (.slice pa p.1.near.length pc) ∧ W.cell? ⟨rb, 6, none⟩ = some (.int .i64 p.1.cost) ∧ W.cell? ⟨rb, 7, none⟩ = some (.bool p.1.far) ∧ W.cell? ⟨bx, 0, none⟩ = some (.int .i64 x.kind) ∧ W.cell? ⟨bx, 3, none⟩ = some (.int .i64 x.area))) (by kernel_rfl) 23 rfl ⟨d0, d1, d2, d3, d4, d5, d6, d7, z0, z3⟩ (fun ops hops hHeld => ?_)
                refine take_do 0 (oi := ?_) (v := ?_) ?_ (by rw [hops.out]; kernel_rfl) ?_ ?_ ?_ (by assumption) ?_
                rotate_left 2
                · rw [hops.out]; simp only [List.getElem?_toArray, List.getElem?_cons_succ, List.getElem?_cons_zero]; rfl
                · rw [hops.out]; kernel_rfl
                · intro W hW; (try dsimp only at hW); go_simp <;> with_reducible rfl
                · exact fun _ _ _ h => h
                try simp only [Act.put, List.setIfInBounds_toArray, List.set_cons_zero, List.set_cons_succ]
                refine take_do 1 (oi := ?_) (v := ?_) ?_ (by rw [hops.out]; kernel_rfl) ?_ ?_ ?_ (by assumption) ?_
                rotate_left 2
                · rw [hops.out]; simp only [List.getElem?_toArray, List.getElem?_cons_succ, List.getElem?_cons_zero]; rfl
                · rw [hops.out]; kernel_rfl
                · intro W hW; (try dsimp only at hW); go_simp <;> with_reducible rfl
                · exact fun _ _ _ h => h
                try simp only [Act.put, List.setIfInBounds_toArray, List.set_cons_zero, List.set_cons_succ]
                refine take_do 2 (oi := ?_) (v := ?_) ?_ (by rw [hops.out]; kernel_rfl) ?_ ?_ ?_ (by assumption) ?_
                rotate_left 2
                · rw [hops.out]; simp only [List.getElem?_toArray, List.getElem?_cons_succ, List.getElem?_cons_zero]; rfl
                · rw [hops.out]; kernel_rfl
                · intro W hW; (try dsimp only at hW); go_simp <;> with_reducible rfl
                · exact fun _ _ _ h => h
                try simp only [Act.put, List.setIfInBounds_toArray, List.set_cons_zero, List.set_cons_succ]
                refine take_do 3 (oi := ?_) (v := ?_) ?_ (by rw [hops.out]; kernel_rfl) ?_ ?_ ?_ (by assumption) ?_
                rotate_left 2
                · rw [hops.out]; simp only [List.getElem?_toArray, List.getElem?_cons_succ, List.getElem?_cons_zero]; rfl
                · rw [hops.out]; kernel_rfl
                · intro W hW; (try dsimp only at hW); go_simp <;> with_reducible rfl
                · exact fun _ _ _ h => h
                try simp only [Act.put, List.setIfInBounds_toArray, List.set_cons_zero, List.set_cons_succ]
                refine take_do 4 (oi := ?_) (v := ?_) ?_ (by rw [hops.out]; kernel_rfl) ?_ ?_ ?_ (by assumption) ?_
                rotate_left 2
                · rw [hops.out]; simp only [List.getElem?_toArray, List.getElem?_cons_succ, List.getElem?_cons_zero]; rfl
                · rw [hops.out]; kernel_rfl
                · intro W hW; (try dsimp only at hW); go_simp <;> with_reducible rfl
                · exact fun _ _ _ h => h
                try simp only [Act.put, List.setIfInBounds_toArray, List.set_cons_zero, List.set_cons_succ]
                refine take_do 5 (oi := ?_) (v := ?_) ?_ (by rw [hops.out]; kernel_rfl) ?_ ?_ ?_ (by assumption) ?_
                rotate_left 2
                · rw [hops.out]; simp only [List.getElem?_toArray, List.getElem?_cons_succ, List.getElem?_cons_zero]; rfl
                · rw [hops.out]; kernel_rfl
                · intro W hW; (try dsimp only at hW); go_simp <;> with_reducible rfl
                · exact fun _ _ _ h => h
                try simp only [Act.put, List.setIfInBounds_toArray, List.set_cons_zero, List.set_cons_succ]
                refine take_do 6 (oi := ?_) (v := ?_) ?_ (by rw [hops.out]; kernel_rfl) ?_ ?_ ?_ (by assumption) ?_
                rotate_left 2
                · rw [hops.out]; simp only [List.getElem?_toArray, List.getElem?_cons_succ, List.getElem?_cons_zero]; rfl
                · rw [hops.out]; kernel_rfl
                · intro W hW; (try dsimp only at hW); go_simp <;> with_reducible rfl
                · exact fun _ _ _ h => h
                try simp only [Act.put, List.setIfInBounds_toArray, List.set_cons_zero, List.set_cons_succ]
                refine take_do 7 (oi := ?_) (v := ?_) ?_ (by rw [hops.out]; kernel_rfl) ?_ ?_ ?_ (by assumption) ?_
                rotate_left 2
                · rw [hops.out]; simp only [List.getElem?_toArray, List.getElem?_cons_succ, List.getElem?_cons_zero]; rfl
                · rw [hops.out]; kernel_rfl
                · intro W hW; (try dsimp only at hW); go_simp <;> with_reducible rfl
                · exact fun _ _ _ h => h
                try simp only [Act.put, List.setIfInBounds_toArray, List.set_cons_zero, List.set_cons_succ]
                refine take_do 8 (oi := ?_) (v := ?_) ?_ (by rw [hops.out]; kernel_rfl) ?_ ?_ ?_ (by assumption) ?_
                rotate_left 2
                · rw [hops.out]; simp only [List.getElem?_toArray, List.getElem?_cons_succ, List.getElem?_cons_zero]; rfl
                · rw [hops.out]; kernel_rfl
                · intro W hW; (try dsimp only at hW); go_simp <;> with_reducible rfl
                · exact fun _ _ _ h => h
                try simp only [Act.put, List.setIfInBounds_toArray, List.set_cons_zero, List.set_cons_succ]
                refine take_do 9 (oi := ?_) (v := ?_) ?_ (by rw [hops.out]; kernel_rfl) ?_ ?_ ?_ (by assumption) ?_
                rotate_left 2
                · rw [hops.out]; simp only [List.getElem?_toArray, List.getElem?_cons_succ, List.getElem?_cons_zero]; rfl
                · rw [hops.out]; kernel_rfl
                · intro W hW; (try dsimp only at hW); go_simp <;> with_reducible rfl
                · exact fun _ _ _ h => h
                try simp only [Act.put, List.setIfInBounds_toArray, List.set_cons_zero, List.set_cons_succ]
                refine take_do 10 (oi := ?_) (v := ?_) ?_ (by rw [hops.out]; kernel_rfl) ?_ ?_ ?_ (by assumption) ?_
                rotate_left 2
                · rw [hops.out]; simp only [List.getElem?_toArray, List.getElem?_cons_succ, List.getElem?_cons_zero]; rfl
                · rw [hops.out]; kernel_rfl
                · intro W hW; (try dsimp only at hW); go_simp <;> with_reducible rfl
                · exact fun _ _ _ h => h
                try simp only [Act.put, List.setIfInBounds_toArray, List.set_cons_zero, List.set_cons_succ]
                refine take_do 11 (oi := ?_) (v := ?_) ?_ (by rw [hops.out]; kernel_rfl) ?_ ?_ ?_ (by assumption) ?_
                rotate_left 2
                · rw [hops.out]; simp only [List.getElem?_toArray, List.getElem?_cons_succ, List.getElem?_cons_zero]; rfl
                · rw [hops.out]; kernel_rfl
                · intro W hW; (try dsimp only at hW); go_simp <;> with_reducible rfl
                · exact fun _ _ _ h => h
                try simp only [Act.put, List.setIfInBounds_toArray, List.set_cons_zero, List.set_cons_succ]
                refine take_do 12 (oi := ?_) (v := ?_) ?_ (by rw [hops.out]; kernel_rfl) ?_ ?_ ?_ (by assumption) ?_
                rotate_left 2
                · rw [hops.out]; simp only [List.getElem?_toArray, List.getElem?_cons_succ, List.getElem?_cons_zero]; rfl
                · rw [hops.out]; kernel_rfl
                · intro W hW; (try dsimp only at hW); go_simp <;> with_reducible rfl
                · exact fun _ _ _ h => h
                try simp only [Act.put, List.setIfInBounds_toArray, List.set_cons_zero, List.set_cons_succ]
                refine take_do 13 (oi := ?_) (v := ?_) ?_ (by rw [hops.out]; kernel_rfl) ?_ ?_ ?_ (by assumption) ?_
                rotate_left 2
                · rw [hops.out]; simp only [List.getElem?_toArray, List.getElem?_cons_succ, List.getElem?_cons_zero]; rfl
                · rw [hops.out]; kernel_rfl
                · intro W hW; (try dsimp only at hW); go_simp <;> with_reducible rfl
                · exact fun _ _ _ h => h
                try simp only [Act.put, List.setIfInBounds_toArray, List.set_cons_zero, List.set_cons_succ]
                refine take_do 14 (oi := ?_) (v := ?_) ?_ (by rw [hops.out]; kernel_rfl) ?_ ?_ ?_ (by assumption) ?_
                rotate_left 2
                · rw [hops.out]; simp only [List.getElem?_toArray, List.getElem?_cons_succ, List.getElem?_cons_zero]; rfl
                · rw [hops.out]; kernel_rfl
                · intro W hW; (try dsimp only at hW); go_simp <;> with_reducible rfl
                · exact fun _ _ _ h => h
                try simp only [Act.put, List.setIfInBounds_toArray, List.set_cons_zero, List.set_cons_succ]
                refine take_do 15 (oi := ?_) (v := ?_) ?_ (by rw [hops.out]; kernel_rfl) ?_ ?_ ?_ (by assumption) ?_
                rotate_left 2
                · rw [hops.out]; simp only [List.getElem?_toArray, List.getElem?_cons_succ, List.getElem?_cons_zero]; rfl
                · rw [hops.out]; kernel_rfl
                · intro W hW; (try dsimp only at hW); go_simp <;> with_reducible rfl
                · exact fun _ _ _ h => h
                try simp only [Act.put, List.setIfInBounds_toArray, List.set_cons_zero, List.set_cons_succ]
                refine take_do 18 (oi := ?_) (v := ?_) ?_ (by rw [hops.out]; kernel_rfl) ?_ ?_ ?_ (by assumption) ?_
                rotate_left 2
                · rw [hops.out]; simp only [List.getElem?_toArray, List.getElem?_cons_succ, List.getElem?_cons_zero]; rfl
                · rw [hops.out]; kernel_rfl
                · intro W hW; (try dsimp only at hW); go_simp <;> with_reducible rfl
                · exact fun _ _ _ h => h
                try simp only [Act.put, List.setIfInBounds_toArray, List.set_cons_zero, List.set_cons_succ]
                refine take_call 16 (oi := ?_) ?_ (by rw [hops.out]; kernel_rfl) ?_ ?_
                rotate_left 1
                · rw [hops.out]; simp only [List.getElem?_toArray, List.getElem?_cons_succ, List.getElem?_cons_zero]; rfl
                · rw [hops.out]; kernel_rfl
                intro K hK
                go_simp
                refine (HCP.out _ BW3).mono ?_
                rintro e w5 ⟨v1, rfl, hn5, b5⟩
                obtain ⟨n1a, n1c, rfl⟩ := owns_lenS hn5
                have hS5 : _ ∧ _ := (show ((fun W => W.cell? ⟨rb, 0, none⟩ = some (.int .i64 p.1.area) ∧ W.cell? ⟨rb, 1, none⟩ = some (.int .i64 p.1.kind) ∧ W.cell? ⟨rb, 2, none⟩ = some (.int .i64 p.1.owner) ∧ W.cell? ⟨rb, 3, none⟩ = some (.int .i64 p.1.key) ∧ W.cell? ⟨rb, 4, none⟩ = some (.int .i64 p.1.seq) ∧ W.cell? ⟨rb, 5, none⟩ = some (.slice pa p.1.near.length pc) ∧ W.cell? ⟨rb, 6, none⟩ = some (.int .i64 p.1.cost) ∧ W.cell? ⟨rb, 7, none⟩ = some (.bool p.1.far) ∧ W.cell? ⟨bx, 0, none⟩ = some (.int .i64 x.kind) ∧ W.cell? ⟨bx, 3, none⟩ = some (.int .i64 x.area))) w5 from by
                  obtain ⟨m0, m1, m2, m3, m4, m5, m6, m7, m8, m9⟩ := hHeld
                  refine ⟨?_, ?_, ?_, ?_, ?_, ?_, ?_, ?_, ?_, ?_⟩ <;> (refine (b5.cell ?_).trans ?_ <;> assumption))
                have hbl5 : bx < w5.heap.size := Nat.lt_of_lt_of_le (by assumption) b5.size
                have hrl5 : rb < w5.heap.size := Nat.lt_of_lt_of_le (by assumption) b5.size
                refine hK.out _ _ hS5 (fun hHeld => ?_)
                clear hK K hS5
                try simp only [Act.put, List.setIfInBounds_toArray, List.set_cons_zero, List.set_cons_succ]
                refine take_call 17 (oi := ?_) ?_ (by rw [hops.out]; kernel_rfl) ?_ ?_
                rotate_left 1
                · rw [hops.out]; simp only [List.getElem?_toArray, List.getElem?_cons_succ, List.getElem?_cons_zero]; rfl
                · rw [hops.out]; kernel_rfl
                intro K hK
                go_simp
                refine (HHD.out _ _ _ _).mono ?_
                rintro e w6 ⟨v2, rfl, hn6, b6⟩
                obtain ⟨n2a, n2c, rfl⟩ := owns_lenS hn6
                have hS6 : _ ∧ _ := (show ((fun W => W.cell? ⟨rb, 0, none⟩ = some (.int .i64 p.1.area) ∧ W.cell? ⟨rb, 1, none⟩ = some (.int .i64 p.1.kind) ∧ W.cell? ⟨rb, 2, none⟩ = some (.int .i64 p.1.owner) ∧ W.cell? ⟨rb, 3, none⟩ = some (.int .i64 p.1.key) ∧ W.cell? ⟨rb, 4, none⟩ = some (.int .i64 p.1.seq) ∧ W.cell? ⟨rb, 5, none⟩ = some (.slice pa p.1.near.length pc) ∧ W.cell? ⟨rb, 6, none⟩ = some (.int .i64 p.1.cost) ∧ W.cell? ⟨rb, 7, none⟩ = some (.bool p.1.far) ∧ W.cell? ⟨bx, 0, none⟩ = some (.int .i64 x.kind) ∧ W.cell? ⟨bx, 3, none⟩ = some (.int .i64 x.area))) w6 from by
                  obtain ⟨m0, m1, m2, m3, m4, m5, m6, m7, m8, m9⟩ := hHeld
                  refine ⟨?_, ?_, ?_, ?_, ?_, ?_, ?_, ?_, ?_, ?_⟩ <;> (refine (b6.cell ?_).trans ?_ <;> assumption))
                have hbl6 : bx < w6.heap.size := Nat.lt_of_lt_of_le (by assumption) b6.size
                have hrl6 : rb < w6.heap.size := Nat.lt_of_lt_of_le (by assumption) b6.size
                refine hK.out _ _ hS6 (fun hHeld => ?_)
                clear hK K hS6
                try simp only [Act.put, List.setIfInBounds_toArray, List.set_cons_zero, List.set_cons_succ]
                refine take_call 19 (oi := ?_) ?_ (by rw [hops.out]; kernel_rfl) ?_ ?_
                rotate_left 1
                · rw [hops.out]; simp only [List.getElem?_toArray, List.getElem?_cons_succ, List.getElem?_cons_zero]; rfl
                · rw [hops.out]; kernel_rfl
                intro K hK
                go_simp
                refine (HSB.out _ _ ((BW3.trans (b5.mono BW3.size)).trans (b6.mono (Nat.le_trans BW3.size b5.size))) (owns_rowAt (xs := ([] : List Nr)) hn6)).mono ?_
                rintro e w7 ⟨rfl, b7⟩
                have hS7 : _ ∧ _ := (show ((fun W => W.cell? ⟨rb, 0, none⟩ = some (.int .i64 p.1.area) ∧ W.cell? ⟨rb, 1, none⟩ = some (.int .i64 p.1.kind) ∧ W.cell? ⟨rb, 2, none⟩ = some (.int .i64 p.1.owner) ∧ W.cell? ⟨rb, 3, none⟩ = some (.int .i64 p.1.key) ∧ W.cell? ⟨rb, 4, none⟩ = some (.int .i64 p.1.seq) ∧ W.cell? ⟨rb, 5, none⟩ = some (.slice pa p.1.near.length pc) ∧ W.cell? ⟨rb, 6, none⟩ = some (.int .i64 p.1.cost) ∧ W.cell? ⟨rb, 7, none⟩ = some (.bool p.1.far) ∧ W.cell? ⟨bx, 0, none⟩ = some (.int .i64 x.kind) ∧ W.cell? ⟨bx, 3, none⟩ = some (.int .i64 x.area))) w7 from by
                  obtain ⟨m0, m1, m2, m3, m4, m5, m6, m7, m8, m9⟩ := hHeld
                  refine ⟨?_, ?_, ?_, ?_, ?_, ?_, ?_, ?_, ?_, ?_⟩ <;> (refine (b7.cell ?_).trans ?_ <;> assumption))
                have hbl7 : bx < w7.heap.size := Nat.lt_of_lt_of_le (by assumption) b7.size
                have hrl7 : rb < w7.heap.size := Nat.lt_of_lt_of_le (by assumption) b7.size
                refine hK.out _ _ hS7 (fun hHeld => ?_)
                clear hK K hS7
                try simp only [Act.put, List.setIfInBounds_toArray, List.set_cons_zero, List.set_cons_succ]
                refine take_do 20 (oi := ?_) (v := ?_) ?_ (by rw [hops.out]; kernel_rfl) ?_ ?_ ?_ (by assumption) ?_
                rotate_left 2
                · rw [hops.out]; simp only [List.getElem?_toArray, List.getElem?_cons_succ, List.getElem?_cons_zero]; rfl
                · rw [hops.out]; kernel_rfl
                · intro W hW; (try dsimp only at hW); go_simp <;> with_reducible rfl
                · exact fun _ _ _ h => h
                try simp only [Act.put, List.setIfInBounds_toArray, List.set_cons_zero, List.set_cons_succ]
                refine take_do 21 (oi := ?_) (v := ?_) ?_ (by rw [hops.out]; kernel_rfl) ?_ ?_ ?_ (by assumption) ?_
                rotate_left 2
                · rw [hops.out]; simp only [List.getElem?_toArray, List.getElem?_cons_succ, List.getElem?_cons_zero]; rfl
                · rw [hops.out]; kernel_rfl
                · intro W hW; (try dsimp only at hW); go_simp <;> with_reducible rfl
                · exact fun _ _ _ h => h
                try simp only [Act.put, List.setIfInBounds_toArray, List.set_cons_zero, List.set_cons_succ]
                refine take_do 22 (oi := ?_) (v := ?_) ?_ (by rw [hops.out]; kernel_rfl) ?_ ?_ ?_ (by assumption) ?_
                rotate_left 2
                · rw [hops.out]; simp only [List.getElem?_toArray, List.getElem?_cons_succ, List.getElem?_cons_zero]; rfl
                · rw [hops.out]; kernel_rfl
                · intro W hW; (try dsimp only at hW); go_simp <;> with_reducible rfl
                · exact fun _ _ _ h => h
                try simp only [Act.put, List.setIfInBounds_toArray, List.set_cons_zero, List.set_cons_succ]
                refine wpAnyH_done (by rw [hops.out]; kernel_rfl) ?_ _
                clear hops ops
                have B7 : Below w.heap.size w w7 := ((BW3.trans (b5.mono BW3.size)).trans (b6.mono (Nat.le_trans BW3.size b5.size))).trans (b7.mono (Nat.le_trans (Nat.le_trans BW3.size b5.size) b6.size))
                go_wp2
                go_ret
                exact ⟨by rw [HF.out]; rfl, B7⟩
              · clear k2
                go_wp2
                rw [← hw3]
                clear hw3
                rw [← hrb]
                clear hrb
                refine wp_region_start (S := (fun W => W.cell? ⟨rb, 0, none⟩ = some (.int .i64 p.1.area) ∧ W.cell? ⟨rb, 1, none⟩ = some (.int .i64 p.1.kind) ∧ W.cell? ⟨rb, 2, none⟩ = some (.int .i64 p.1.owner) ∧ W.cell? ⟨rb, 3, none⟩ = some (.int .i64 p.1.key) ∧ W.cell? ⟨rb, 4, none⟩ = some (.int .i64 p.1.seq) ∧ W.cell? ⟨rb, 5, none⟩ = some (.slice pa p.1.near.length pc) ∧ W.cell? ⟨rb, 6, none⟩ = some (.int .i64 p.1.cost) ∧ W.cell? ⟨rb, 7, none⟩ = some (.bool p.1.far) ∧ W.cell? ⟨bx, 0, none⟩ = some (.int .i64 x.kind) ∧ W.cell? ⟨bx, 3, none⟩ = some (.int .i64 x.area))) (by kernel_rfl) 23 rfl ⟨d0, d1, d2, d3, d4, d5, d6, d7, z0, z3⟩ (fun ops hops hHeld => ?_)
                refine take_do 0 (oi := ?_) (v := ?_) ?_ (by rw [hops.out]; kernel_rfl) ?_ ?_ ?_ (by assumption) ?_
                rotate_left 2
                · rw [hops.out]; simp only [List.getElem?_toArray, List.getElem?_cons_succ, List.getElem?_cons_zero]; rfl
                · rw [hops.out]; kernel_rfl
                · intro W hW; (try dsimp only at hW); go_simp <;> with_reducible rfl
                · exact fun _ _ _ h => h
                try simp only [Act.put, List.setIfInBounds_toArray, List.set_cons_zero, List.set_cons_succ]
                refine take_do 1 (oi := ?_) (v := ?_) ?_ (by rw [hops.out]; kernel_rfl) ?_ ?_ ?_ (by assumption) ?_
                rotate_left 2
                · rw [hops.out]; simp only [List.getElem?_toArray, List.getElem?_cons_succ, List.getElem?_cons_zero]; rfl
                · rw [hops.out]; kernel_rfl
                · intro W hW; (try dsimp only at hW); go_simp <;> with_reducible rfl
                · exact fun _ _ _ h => h
                try simp only [Act.put, List.setIfInBounds_toArray, List.set_cons_zero, List.set_cons_succ]
                refine take_do 2 (oi := ?_) (v := ?_) ?_ (by rw [hops.out]; kernel_rfl) ?_ ?_ ?_ (by assumption) ?_
                rotate_left 2
                · rw [hops.out]; simp only [List.getElem?_toArray, List.getElem?_cons_succ, List.getElem?_cons_zero]; rfl
                · rw [hops.out]; kernel_rfl
                · intro W hW; (try dsimp only at hW); go_simp <;> with_reducible rfl
                · exact fun _ _ _ h => h
                try simp only [Act.put, List.setIfInBounds_toArray, List.set_cons_zero, List.set_cons_succ]
                refine take_do 3 (oi := ?_) (v := ?_) ?_ (by rw [hops.out]; kernel_rfl) ?_ ?_ ?_ (by assumption) ?_
                rotate_left 2
                · rw [hops.out]; simp only [List.getElem?_toArray, List.getElem?_cons_succ, List.getElem?_cons_zero]; rfl
                · rw [hops.out]; kernel_rfl
                · intro W hW; (try dsimp only at hW); go_simp <;> with_reducible rfl
                · exact fun _ _ _ h => h
                try simp only [Act.put, List.setIfInBounds_toArray, List.set_cons_zero, List.set_cons_succ]
                refine take_do 4 (oi := ?_) (v := ?_) ?_ (by rw [hops.out]; kernel_rfl) ?_ ?_ ?_ (by assumption) ?_
                rotate_left 2
                · rw [hops.out]; simp only [List.getElem?_toArray, List.getElem?_cons_succ, List.getElem?_cons_zero]; rfl
                · rw [hops.out]; kernel_rfl
                · intro W hW; (try dsimp only at hW); go_simp <;> with_reducible rfl
                · exact fun _ _ _ h => h
                try simp only [Act.put, List.setIfInBounds_toArray, List.set_cons_zero, List.set_cons_succ]
                refine take_do 5 (oi := ?_) (v := ?_) ?_ (by rw [hops.out]; kernel_rfl) ?_ ?_ ?_ (by assumption) ?_
                rotate_left 2
                · rw [hops.out]; simp only [List.getElem?_toArray, List.getElem?_cons_succ, List.getElem?_cons_zero]; rfl
                · rw [hops.out]; kernel_rfl
                · intro W hW; (try dsimp only at hW); go_simp <;> with_reducible rfl
                · exact fun _ _ _ h => h
                try simp only [Act.put, List.setIfInBounds_toArray, List.set_cons_zero, List.set_cons_succ]
                refine take_do 6 (oi := ?_) (v := ?_) ?_ (by rw [hops.out]; kernel_rfl) ?_ ?_ ?_ (by assumption) ?_
                rotate_left 2
                · rw [hops.out]; simp only [List.getElem?_toArray, List.getElem?_cons_succ, List.getElem?_cons_zero]; rfl
                · rw [hops.out]; kernel_rfl
                · intro W hW; (try dsimp only at hW); go_simp <;> with_reducible rfl
                · exact fun _ _ _ h => h
                try simp only [Act.put, List.setIfInBounds_toArray, List.set_cons_zero, List.set_cons_succ]
                refine take_do 7 (oi := ?_) (v := ?_) ?_ (by rw [hops.out]; kernel_rfl) ?_ ?_ ?_ (by assumption) ?_
                rotate_left 2
                · rw [hops.out]; simp only [List.getElem?_toArray, List.getElem?_cons_succ, List.getElem?_cons_zero]; rfl
                · rw [hops.out]; kernel_rfl
                · intro W hW; (try dsimp only at hW); go_simp <;> with_reducible rfl
                · exact fun _ _ _ h => h
                try simp only [Act.put, List.setIfInBounds_toArray, List.set_cons_zero, List.set_cons_succ]
                refine take_do 8 (oi := ?_) (v := ?_) ?_ (by rw [hops.out]; kernel_rfl) ?_ ?_ ?_ (by assumption) ?_
                rotate_left 2
                · rw [hops.out]; simp only [List.getElem?_toArray, List.getElem?_cons_succ, List.getElem?_cons_zero]; rfl
                · rw [hops.out]; kernel_rfl
                · intro W hW; (try dsimp only at hW); go_simp <;> with_reducible rfl
                · exact fun _ _ _ h => h
                try simp only [Act.put, List.setIfInBounds_toArray, List.set_cons_zero, List.set_cons_succ]
                refine take_do 9 (oi := ?_) (v := ?_) ?_ (by rw [hops.out]; kernel_rfl) ?_ ?_ ?_ (by assumption) ?_
                rotate_left 2
                · rw [hops.out]; simp only [List.getElem?_toArray, List.getElem?_cons_succ, List.getElem?_cons_zero]; rfl
                · rw [hops.out]; kernel_rfl
                · intro W hW; (try dsimp only at hW); go_simp <;> with_reducible rfl
                · exact fun _ _ _ h => h
                try simp only [Act.put, List.setIfInBounds_toArray, List.set_cons_zero, List.set_cons_succ]
                refine take_do 10 (oi := ?_) (v := ?_) ?_ (by rw [hops.out]; kernel_rfl) ?_ ?_ ?_ (by assumption) ?_
                rotate_left 2
                · rw [hops.out]; simp only [List.getElem?_toArray, List.getElem?_cons_succ, List.getElem?_cons_zero]; rfl
                · rw [hops.out]; kernel_rfl
                · intro W hW; (try dsimp only at hW); go_simp <;> with_reducible rfl
                · exact fun _ _ _ h => h
                try simp only [Act.put, List.setIfInBounds_toArray, List.set_cons_zero, List.set_cons_succ]
                refine take_do 11 (oi := ?_) (v := ?_) ?_ (by rw [hops.out]; kernel_rfl) ?_ ?_ ?_ (by assumption) ?_
                rotate_left 2
                · rw [hops.out]; simp only [List.getElem?_toArray, List.getElem?_cons_succ, List.getElem?_cons_zero]; rfl
                · rw [hops.out]; kernel_rfl
                · intro W hW; (try dsimp only at hW); go_simp <;> with_reducible rfl
                · exact fun _ _ _ h => h
                try simp only [Act.put, List.setIfInBounds_toArray, List.set_cons_zero, List.set_cons_succ]
                refine take_do 12 (oi := ?_) (v := ?_) ?_ (by rw [hops.out]; kernel_rfl) ?_ ?_ ?_ (by assumption) ?_
                rotate_left 2
                · rw [hops.out]; simp only [List.getElem?_toArray, List.getElem?_cons_succ, List.getElem?_cons_zero]; rfl
                · rw [hops.out]; kernel_rfl
                · intro W hW; (try dsimp only at hW); go_simp <;> with_reducible rfl
                · exact fun _ _ _ h => h
                try simp only [Act.put, List.setIfInBounds_toArray, List.set_cons_zero, List.set_cons_succ]
                refine take_do 13 (oi := ?_) (v := ?_) ?_ (by rw [hops.out]; kernel_rfl) ?_ ?_ ?_ (by assumption) ?_
                rotate_left 2
                · rw [hops.out]; simp only [List.getElem?_toArray, List.getElem?_cons_succ, List.getElem?_cons_zero]; rfl
                · rw [hops.out]; kernel_rfl
                · intro W hW; (try dsimp only at hW); go_simp <;> with_reducible rfl
                · exact fun _ _ _ h => h
                try simp only [Act.put, List.setIfInBounds_toArray, List.set_cons_zero, List.set_cons_succ]
                refine take_do 14 (oi := ?_) (v := ?_) ?_ (by rw [hops.out]; kernel_rfl) ?_ ?_ ?_ (by assumption) ?_
                rotate_left 2
                · rw [hops.out]; simp only [List.getElem?_toArray, List.getElem?_cons_succ, List.getElem?_cons_zero]; rfl
                · rw [hops.out]; kernel_rfl
                · intro W hW; (try dsimp only at hW); go_simp <;> with_reducible rfl
                · exact fun _ _ _ h => h
                try simp only [Act.put, List.setIfInBounds_toArray, List.set_cons_zero, List.set_cons_succ]
                refine take_do 15 (oi := ?_) (v := ?_) ?_ (by rw [hops.out]; kernel_rfl) ?_ ?_ ?_ (by assumption) ?_
                rotate_left 2
                · rw [hops.out]; simp only [List.getElem?_toArray, List.getElem?_cons_succ, List.getElem?_cons_zero]; rfl
                · rw [hops.out]; kernel_rfl
                · intro W hW; (try dsimp only at hW); go_simp <;> with_reducible rfl
                · exact fun _ _ _ h => h
                try simp only [Act.put, List.setIfInBounds_toArray, List.set_cons_zero, List.set_cons_succ]
                refine take_do 18 (oi := ?_) (v := ?_) ?_ (by rw [hops.out]; kernel_rfl) ?_ ?_ ?_ (by assumption) ?_
                rotate_left 2
                · rw [hops.out]; simp only [List.getElem?_toArray, List.getElem?_cons_succ, List.getElem?_cons_zero]; rfl
                · rw [hops.out]; kernel_rfl
                · intro W hW; (try dsimp only at hW); go_simp <;> with_reducible rfl
                · exact fun _ _ _ h => h
                try simp only [Act.put, List.setIfInBounds_toArray, List.set_cons_zero, List.set_cons_succ]
                refine take_call 16 (oi := ?_) ?_ (by rw [hops.out]; kernel_rfl) ?_ ?_
                rotate_left 1
                · rw [hops.out]; simp only [List.getElem?_toArray, List.getElem?_cons_succ, List.getElem?_cons_zero]; rfl
                · rw [hops.out]; kernel_rfl
                intro K hK
                go_simp
                refine (HCP.out _ BW3).mono ?_
                rintro e w5 ⟨v1, rfl, hn5, b5⟩
                obtain ⟨n1a, n1c, rfl⟩ := owns_lenS hn5
                have hS5 : _ ∧ _ := (show ((fun W => W.cell? ⟨rb, 0, none⟩ = some (.int .i64 p.1.area) ∧ W.cell? ⟨rb, 1, none⟩ = some (.int .i64 p.1.kind) ∧ W.cell? ⟨rb, 2, none⟩ = some (.int .i64 p.1.owner) ∧ W.cell? ⟨rb, 3, none⟩ = some (.int .i64 p.1.key) ∧ W.cell? ⟨rb, 4, none⟩ = some (.int .i64 p.1.seq) ∧ W.cell? ⟨rb, 5, none⟩ = some (.slice pa p.1.near.length pc) ∧ W.cell? ⟨rb, 6, none⟩ = some (.int .i64 p.1.cost) ∧ W.cell? ⟨rb, 7, none⟩ = some (.bool p.1.far) ∧ W.cell? ⟨bx, 0, none⟩ = some (.int .i64 x.kind) ∧ W.cell? ⟨bx, 3, none⟩ = some (.int .i64 x.area))) w5 from by
                  obtain ⟨m0, m1, m2, m3, m4, m5, m6, m7, m8, m9⟩ := hHeld
                  refine ⟨?_, ?_, ?_, ?_, ?_, ?_, ?_, ?_, ?_, ?_⟩ <;> (refine (b5.cell ?_).trans ?_ <;> assumption))
                have hbl5 : bx < w5.heap.size := Nat.lt_of_lt_of_le (by assumption) b5.size
                have hrl5 : rb < w5.heap.size := Nat.lt_of_lt_of_le (by assumption) b5.size
                refine hK.out _ _ hS5 (fun hHeld => ?_)
                clear hK K hS5
                try simp only [Act.put, List.setIfInBounds_toArray, List.set_cons_zero, List.set_cons_succ]
                refine take_call 17 (oi := ?_) ?_ (by rw [hops.out]; kernel_rfl) ?_ ?_
                rotate_left 1
                · rw [hops.out]; simp only [List.getElem?_toArray, List.getElem?_cons_succ, List.getElem?_cons_zero]; rfl
                · rw [hops.out]; kernel_rfl
                intro K hK
                go_simp
                refine (HHD.out _ _ _ _).mono ?_
                rintro e w6 ⟨v2, rfl, hn6, b6⟩
                obtain ⟨n2a, n2c, rfl⟩ := owns_lenS hn6
                have hS6 : _ ∧ _ := (show ((fun W => W.cell? ⟨rb, 0, none⟩ = some (.int .i64 p.1.area) ∧ W.cell? ⟨rb, 1, none⟩ = some (.int .i64 p.1.kind) ∧ W.cell? ⟨rb, 2, none⟩ = some (.int .i64 p.1.owner) ∧ W.cell? ⟨rb, 3, none⟩ = some (.int .i64 p.1.key) ∧ W.cell? ⟨rb, 4, none⟩ = some (.int .i64 p.1.seq) ∧ W.cell? ⟨rb, 5, none⟩ = some (.slice pa p.1.near.length pc) ∧ W.cell? ⟨rb, 6, none⟩ = some (.int .i64 p.1.cost) ∧ W.cell? ⟨rb, 7, none⟩ = some (.bool p.1.far) ∧ W.cell? ⟨bx, 0, none⟩ = some (.int .i64 x.kind) ∧ W.cell? ⟨bx, 3, none⟩ = some (.int .i64 x.area))) w6 from by
                  obtain ⟨m0, m1, m2, m3, m4, m5, m6, m7, m8, m9⟩ := hHeld
                  refine ⟨?_, ?_, ?_, ?_, ?_, ?_, ?_, ?_, ?_, ?_⟩ <;> (refine (b6.cell ?_).trans ?_ <;> assumption))
                have hbl6 : bx < w6.heap.size := Nat.lt_of_lt_of_le (by assumption) b6.size
                have hrl6 : rb < w6.heap.size := Nat.lt_of_lt_of_le (by assumption) b6.size
                refine hK.out _ _ hS6 (fun hHeld => ?_)
                clear hK K hS6
                try simp only [Act.put, List.setIfInBounds_toArray, List.set_cons_zero, List.set_cons_succ]
                refine take_call 19 (oi := ?_) ?_ (by rw [hops.out]; kernel_rfl) ?_ ?_
                rotate_left 1
                · rw [hops.out]; simp only [List.getElem?_toArray, List.getElem?_cons_succ, List.getElem?_cons_zero]; rfl
                · rw [hops.out]; kernel_rfl
                intro K hK
                go_simp
                refine (HSB.out _ _ ((BW3.trans (b5.mono BW3.size)).trans (b6.mono (Nat.le_trans BW3.size b5.size))) (owns_rowAt (xs := ([] : List Nr)) hn6)).mono ?_
                rintro e w7 ⟨rfl, b7⟩
                have hS7 : _ ∧ _ := (show ((fun W => W.cell? ⟨rb, 0, none⟩ = some (.int .i64 p.1.area) ∧ W.cell? ⟨rb, 1, none⟩ = some (.int .i64 p.1.kind) ∧ W.cell? ⟨rb, 2, none⟩ = some (.int .i64 p.1.owner) ∧ W.cell? ⟨rb, 3, none⟩ = some (.int .i64 p.1.key) ∧ W.cell? ⟨rb, 4, none⟩ = some (.int .i64 p.1.seq) ∧ W.cell? ⟨rb, 5, none⟩ = some (.slice pa p.1.near.length pc) ∧ W.cell? ⟨rb, 6, none⟩ = some (.int .i64 p.1.cost) ∧ W.cell? ⟨rb, 7, none⟩ = some (.bool p.1.far) ∧ W.cell? ⟨bx, 0, none⟩ = some (.int .i64 x.kind) ∧ W.cell? ⟨bx, 3, none⟩ = some (.int .i64 x.area))) w7 from by
                  obtain ⟨m0, m1, m2, m3, m4, m5, m6, m7, m8, m9⟩ := hHeld
                  refine ⟨?_, ?_, ?_, ?_, ?_, ?_, ?_, ?_, ?_, ?_⟩ <;> (refine (b7.cell ?_).trans ?_ <;> assumption))
                have hbl7 : bx < w7.heap.size := Nat.lt_of_lt_of_le (by assumption) b7.size
                have hrl7 : rb < w7.heap.size := Nat.lt_of_lt_of_le (by assumption) b7.size
                refine hK.out _ _ hS7 (fun hHeld => ?_)
                clear hK K hS7
                try simp only [Act.put, List.setIfInBounds_toArray, List.set_cons_zero, List.set_cons_succ]
                refine take_do 20 (oi := ?_) (v := ?_) ?_ (by rw [hops.out]; kernel_rfl) ?_ ?_ ?_ (by assumption) ?_
                rotate_left 2
                · rw [hops.out]; simp only [List.getElem?_toArray, List.getElem?_cons_succ, List.getElem?_cons_zero]; rfl
                · rw [hops.out]; kernel_rfl
                · intro W hW; (try dsimp only at hW); go_simp <;> with_reducible rfl
                · exact fun _ _ _ h => h
                try simp only [Act.put, List.setIfInBounds_toArray, List.set_cons_zero, List.set_cons_succ]
                refine take_do 21 (oi := ?_) (v := ?_) ?_ (by rw [hops.out]; kernel_rfl) ?_ ?_ ?_ (by assumption) ?_
                rotate_left 2
                · rw [hops.out]; simp only [List.getElem?_toArray, List.getElem?_cons_succ, List.getElem?_cons_zero]; rfl
                · rw [hops.out]; kernel_rfl
                · intro W hW; (try dsimp only at hW); go_simp <;> with_reducible rfl
                · exact fun _ _ _ h => h
                try simp only [Act.put, List.setIfInBounds_toArray, List.set_cons_zero, List.set_cons_succ]
                refine take_do 22 (oi := ?_) (v := ?_) ?_ (by rw [hops.out]; kernel_rfl) ?_ ?_ ?_ (by assumption) ?_
                rotate_left 2
                · rw [hops.out]; simp only [List.getElem?_toArray, List.getElem?_cons_succ, List.getElem?_cons_zero]; rfl
                · rw [hops.out]; kernel_rfl
                · intro W hW; (try dsimp only at hW); go_simp <;> with_reducible rfl
                · exact fun _ _ _ h => h
                try simp only [Act.put, List.setIfInBounds_toArray, List.set_cons_zero, List.set_cons_succ]
                refine wpAnyH_done (by rw [hops.out]; kernel_rfl) ?_ _
                clear hops ops
                have B7 : Below w2.heap.size w2 w7 := ((BW4.trans (b5.mono BW4.size)).trans (b6.mono (Nat.le_trans BW4.size b5.size))).trans (b7.mono (Nat.le_trans (Nat.le_trans BW4.size b5.size) b6.size))
                go_wp2
                go_roundw
                case rel => exact ⟨k + 1, by omega, by go_num, next_true HALL.out HT.out, hide (fun h => next_true (hhd.out h) HAT2.out), B7⟩
                case measure => simp [intOf]; omega
            · have kb : (x.kind == 2) = false := by simpa using k2
              have HK2 := hide k2
              clear k2
              go_wp2
              rw [← hw3]
              clear hw3
              rw [← hrb]
              clear hrb
              refine wp_region_start (S := (fun W => W.cell? ⟨rb, 0, none⟩ = some (.int .i64 p.1.area) ∧ W.cell? ⟨rb, 1, none⟩ = some (.int .i64 p.1.kind) ∧ W.cell? ⟨rb, 2, none⟩ = some (.int .i64 p.1.owner) ∧ W.cell? ⟨rb, 3, none⟩ = some (.int .i64 p.1.key) ∧ W.cell? ⟨rb, 4, none⟩ = some (.int .i64 p.1.seq) ∧ W.cell? ⟨rb, 5, none⟩ = some (.slice pa p.1.near.length pc) ∧ W.cell? ⟨rb, 6, none⟩ = some (.int .i64 p.1.cost) ∧ W.cell? ⟨rb, 7, none⟩ = some (.bool p.1.far) ∧ W.cell? ⟨bx, 0, none⟩ = some (.int .i64 x.kind) ∧ W.cell? ⟨bx, 3, none⟩ = some (.int .i64 x.area))) (by kernel_rfl) 23 rfl ⟨d0, d1, d2, d3, d4, d5, d6, d7, z0, z3⟩ (fun ops hops hHeld => ?_)
              refine take_do 0 (oi := ?_) (v := ?_) ?_ (by rw [hops.out]; kernel_rfl) ?_ ?_ ?_ (by assumption) ?_
              rotate_left 2
              · rw [hops.out]; simp only [List.getElem?_toArray, List.getElem?_cons_succ, List.getElem?_cons_zero]; rfl
              · rw [hops.out]; kernel_rfl
              · intro W hW; (try dsimp only at hW); go_simp <;> with_reducible rfl
              · exact fun _ _ _ h => h
              try simp only [Act.put, List.setIfInBounds_toArray, List.set_cons_zero, List.set_cons_succ]
              refine take_do 1 (oi := ?_) (v := ?_) ?_ (by rw [hops.out]; kernel_rfl) ?_ ?_ ?_ (by assumption) ?_
              rotate_left 2
              · rw [hops.out]; simp only [List.getElem?_toArray, List.getElem?_cons_succ, List.getElem?_cons_zero]; rfl
              · rw [hops.out]; kernel_rfl
              · intro W hW; (try dsimp only at hW); go_simp <;> with_reducible rfl
              · exact fun _ _ _ h => h
              try simp only [Act.put, List.setIfInBounds_toArray, List.set_cons_zero, List.set_cons_succ]
              refine take_do 2 (oi := ?_) (v := ?_) ?_ (by rw [hops.out]; kernel_rfl) ?_ ?_ ?_ (by assumption) ?_
              rotate_left 2
              · rw [hops.out]; simp only [List.getElem?_toArray, List.getElem?_cons_succ, List.getElem?_cons_zero]; rfl
              · rw [hops.out]; kernel_rfl
              · intro W hW; (try dsimp only at hW); go_simp <;> with_reducible rfl
              · exact fun _ _ _ h => h
              try simp only [Act.put, List.setIfInBounds_toArray, List.set_cons_zero, List.set_cons_succ]
              refine take_do 3 (oi := ?_) (v := ?_) ?_ (by rw [hops.out]; kernel_rfl) ?_ ?_ ?_ (by assumption) ?_
              rotate_left 2
              · rw [hops.out]; simp only [List.getElem?_toArray, List.getElem?_cons_succ, List.getElem?_cons_zero]; rfl
              · rw [hops.out]; kernel_rfl
              · intro W hW; (try dsimp only at hW); go_simp <;> with_reducible rfl
              · exact fun _ _ _ h => h
              try simp only [Act.put, List.setIfInBounds_toArray, List.set_cons_zero, List.set_cons_succ]
              refine take_do 4 (oi := ?_) (v := ?_) ?_ (by rw [hops.out]; kernel_rfl) ?_ ?_ ?_ (by assumption) ?_
              rotate_left 2
              · rw [hops.out]; simp only [List.getElem?_toArray, List.getElem?_cons_succ, List.getElem?_cons_zero]; rfl
              · rw [hops.out]; kernel_rfl
              · intro W hW; (try dsimp only at hW); go_simp <;> with_reducible rfl
              · exact fun _ _ _ h => h
              try simp only [Act.put, List.setIfInBounds_toArray, List.set_cons_zero, List.set_cons_succ]
              refine take_do 5 (oi := ?_) (v := ?_) ?_ (by rw [hops.out]; kernel_rfl) ?_ ?_ ?_ (by assumption) ?_
              rotate_left 2
              · rw [hops.out]; simp only [List.getElem?_toArray, List.getElem?_cons_succ, List.getElem?_cons_zero]; rfl
              · rw [hops.out]; kernel_rfl
              · intro W hW; (try dsimp only at hW); go_simp <;> with_reducible rfl
              · exact fun _ _ _ h => h
              try simp only [Act.put, List.setIfInBounds_toArray, List.set_cons_zero, List.set_cons_succ]
              refine take_do 6 (oi := ?_) (v := ?_) ?_ (by rw [hops.out]; kernel_rfl) ?_ ?_ ?_ (by assumption) ?_
              rotate_left 2
              · rw [hops.out]; simp only [List.getElem?_toArray, List.getElem?_cons_succ, List.getElem?_cons_zero]; rfl
              · rw [hops.out]; kernel_rfl
              · intro W hW; (try dsimp only at hW); go_simp <;> with_reducible rfl
              · exact fun _ _ _ h => h
              try simp only [Act.put, List.setIfInBounds_toArray, List.set_cons_zero, List.set_cons_succ]
              refine take_do 7 (oi := ?_) (v := ?_) ?_ (by rw [hops.out]; kernel_rfl) ?_ ?_ ?_ (by assumption) ?_
              rotate_left 2
              · rw [hops.out]; simp only [List.getElem?_toArray, List.getElem?_cons_succ, List.getElem?_cons_zero]; rfl
              · rw [hops.out]; kernel_rfl
              · intro W hW; (try dsimp only at hW); go_simp <;> with_reducible rfl
              · exact fun _ _ _ h => h
              try simp only [Act.put, List.setIfInBounds_toArray, List.set_cons_zero, List.set_cons_succ]
              refine take_do 8 (oi := ?_) (v := ?_) ?_ (by rw [hops.out]; kernel_rfl) ?_ ?_ ?_ (by assumption) ?_
              rotate_left 2
              · rw [hops.out]; simp only [List.getElem?_toArray, List.getElem?_cons_succ, List.getElem?_cons_zero]; rfl
              · rw [hops.out]; kernel_rfl
              · intro W hW; (try dsimp only at hW); go_simp <;> with_reducible rfl
              · exact fun _ _ _ h => h
              try simp only [Act.put, List.setIfInBounds_toArray, List.set_cons_zero, List.set_cons_succ]
              refine take_do 9 (oi := ?_) (v := ?_) ?_ (by rw [hops.out]; kernel_rfl) ?_ ?_ ?_ (by assumption) ?_
              rotate_left 2
              · rw [hops.out]; simp only [List.getElem?_toArray, List.getElem?_cons_succ, List.getElem?_cons_zero]; rfl
              · rw [hops.out]; kernel_rfl
              · intro W hW; (try dsimp only at hW); go_simp <;> with_reducible rfl
              · exact fun _ _ _ h => h
              try simp only [Act.put, List.setIfInBounds_toArray, List.set_cons_zero, List.set_cons_succ]
              refine take_do 10 (oi := ?_) (v := ?_) ?_ (by rw [hops.out]; kernel_rfl) ?_ ?_ ?_ (by assumption) ?_
              rotate_left 2
              · rw [hops.out]; simp only [List.getElem?_toArray, List.getElem?_cons_succ, List.getElem?_cons_zero]; rfl
              · rw [hops.out]; kernel_rfl
              · intro W hW; (try dsimp only at hW); go_simp <;> with_reducible rfl
              · exact fun _ _ _ h => h
              try simp only [Act.put, List.setIfInBounds_toArray, List.set_cons_zero, List.set_cons_succ]
              refine take_do 11 (oi := ?_) (v := ?_) ?_ (by rw [hops.out]; kernel_rfl) ?_ ?_ ?_ (by assumption) ?_
              rotate_left 2
              · rw [hops.out]; simp only [List.getElem?_toArray, List.getElem?_cons_succ, List.getElem?_cons_zero]; rfl
              · rw [hops.out]; kernel_rfl
              · intro W hW; (try dsimp only at hW); go_simp <;> with_reducible rfl
              · exact fun _ _ _ h => h
              try simp only [Act.put, List.setIfInBounds_toArray, List.set_cons_zero, List.set_cons_succ]
              refine take_do 12 (oi := ?_) (v := ?_) ?_ (by rw [hops.out]; kernel_rfl) ?_ ?_ ?_ (by assumption) ?_
              rotate_left 2
              · rw [hops.out]; simp only [List.getElem?_toArray, List.getElem?_cons_succ, List.getElem?_cons_zero]; rfl
              · rw [hops.out]; kernel_rfl
              · intro W hW; (try dsimp only at hW); go_simp <;> with_reducible rfl
              · exact fun _ _ _ h => h
              try simp only [Act.put, List.setIfInBounds_toArray, List.set_cons_zero, List.set_cons_succ]
              refine take_do 13 (oi := ?_) (v := ?_) ?_ (by rw [hops.out]; kernel_rfl) ?_ ?_ ?_ (by assumption) ?_
              rotate_left 2
              · rw [hops.out]; simp only [List.getElem?_toArray, List.getElem?_cons_succ, List.getElem?_cons_zero]; rfl
              · rw [hops.out]; kernel_rfl
              · intro W hW; (try dsimp only at hW); go_simp <;> with_reducible rfl
              · exact fun _ _ _ h => h
              try simp only [Act.put, List.setIfInBounds_toArray, List.set_cons_zero, List.set_cons_succ]
              refine take_do 14 (oi := ?_) (v := ?_) ?_ (by rw [hops.out]; kernel_rfl) ?_ ?_ ?_ (by assumption) ?_
              rotate_left 2
              · rw [hops.out]; simp only [List.getElem?_toArray, List.getElem?_cons_succ, List.getElem?_cons_zero]; rfl
              · rw [hops.out]; kernel_rfl
              · intro W hW; (try dsimp only at hW); go_simp <;> with_reducible rfl
              · exact fun _ _ _ h => h
              try simp only [Act.put, List.setIfInBounds_toArray, List.set_cons_zero, List.set_cons_succ]
              refine take_skip 15 120 (by rw [hops.out]; kernel_rfl) (by rw [hops.out]; kernel_rfl) (by rw [hops.out]; kernel_rfl) (fun _ _ _ h => h) (by assumption) ?_
              try simp only [Act.put, List.setIfInBounds_toArray, List.set_cons_zero, List.set_cons_succ]
              refine take_skip 16 121 (by rw [hops.out]; kernel_rfl) (by rw [hops.out]; kernel_rfl) (by rw [hops.out]; kernel_rfl) (fun _ _ _ h => h) (by assumption) ?_
              try simp only [Act.put, List.setIfInBounds_toArray, List.set_cons_zero, List.set_cons_succ]
              refine take_skip 17 122 (by rw [hops.out]; kernel_rfl) (by rw [hops.out]; kernel_rfl) (by rw [hops.out]; kernel_rfl) (fun _ _ _ h => h) (by assumption) ?_
              try simp only [Act.put, List.setIfInBounds_toArray, List.set_cons_zero, List.set_cons_succ]
              refine take_skip 18 123 (by rw [hops.out]; kernel_rfl) (by rw [hops.out]; kernel_rfl) (by rw [hops.out]; kernel_rfl) (fun _ _ _ h => h) (by assumption) ?_
              try simp only [Act.put, List.setIfInBounds_toArray, List.set_cons_zero, List.set_cons_succ]
              refine take_skip 19 124 (by rw [hops.out]; kernel_rfl) (by rw [hops.out]; kernel_rfl) (by rw [hops.out]; kernel_rfl) (fun _ _ _ h => h) (by assumption) ?_
              try simp only [Act.put, List.setIfInBounds_toArray, List.set_cons_zero, List.set_cons_succ]
              refine take_skip 20 125 (by rw [hops.out]; kernel_rfl) (by rw [hops.out]; kernel_rfl) (by rw [hops.out]; kernel_rfl) (fun _ _ _ h => h) (by assumption) ?_
              try simp only [Act.put, List.setIfInBounds_toArray, List.set_cons_zero, List.set_cons_succ]
              refine take_do 21 (oi := ?_) (v := ?_) ?_ (by rw [hops.out]; kernel_rfl) ?_ ?_ ?_ (by assumption) ?_
              rotate_left 2
              · rw [hops.out]; simp only [List.getElem?_toArray, List.getElem?_cons_succ, List.getElem?_cons_zero]; rfl
              · rw [hops.out]; kernel_rfl
              · intro W hW; (try dsimp only at hW); go_simp <;> with_reducible rfl
              · exact fun _ _ _ h => h
              try simp only [Act.put, List.setIfInBounds_toArray, List.set_cons_zero, List.set_cons_succ]
              refine take_do 22 (oi := ?_) (v := ?_) ?_ (by rw [hops.out]; kernel_rfl) ?_ ?_ ?_ (by assumption) ?_
              rotate_left 2
              · rw [hops.out]; simp only [List.getElem?_toArray, List.getElem?_cons_succ, List.getElem?_cons_zero]; rfl
              · rw [hops.out]; kernel_rfl
              · intro W hW; (try dsimp only at hW); go_simp <;> with_reducible rfl
              · exact fun _ _ _ h => h
              try simp only [Act.put, List.setIfInBounds_toArray, List.set_cons_zero, List.set_cons_succ]
              refine wpAnyH_done (by rw [hops.out]; kernel_rfl) ?_ _
              clear hops ops
              go_wp2
              go_roundw
              case rel => exact ⟨k + 1, by omega, by go_num, next_true HALL.out HT.out, hide (fun h => absurd h HK2.out), BW4⟩
              case measure => simp [intOf]; omega
          · have hd2 : (p.1.area != 9) = true := by simpa using h2
            have HT := hide (show r4 = false by
              rw [R4.out]
              exact said_store HK1.out (told_bad (by rw [HFL.out]; exact hlt) (by rw [HAT1.out]; simp [inScope, h1, h2])))
            clear h1 h2
            go_wp2
            rw [← hw3]
            clear hw3
            rw [← hrb]
            clear hrb
            refine wp_region_start (S := (fun W => W.cell? ⟨rb, 0, none⟩ = some (.int .i64 p.1.area) ∧ W.cell? ⟨rb, 1, none⟩ = some (.int .i64 p.1.kind) ∧ W.cell? ⟨rb, 2, none⟩ = some (.int .i64 p.1.owner) ∧ W.cell? ⟨rb, 3, none⟩ = some (.int .i64 p.1.key) ∧ W.cell? ⟨rb, 4, none⟩ = some (.int .i64 p.1.seq) ∧ W.cell? ⟨rb, 5, none⟩ = some (.slice pa p.1.near.length pc) ∧ W.cell? ⟨rb, 6, none⟩ = some (.int .i64 p.1.cost) ∧ W.cell? ⟨rb, 7, none⟩ = some (.bool p.1.far) ∧ W.cell? ⟨bx, 0, none⟩ = some (.int .i64 x.kind) ∧ W.cell? ⟨bx, 3, none⟩ = some (.int .i64 x.area))) (by kernel_rfl) 23 rfl ⟨d0, d1, d2, d3, d4, d5, d6, d7, z0, z3⟩ (fun ops hops hHeld => ?_)
            refine take_do 0 (oi := ?_) (v := ?_) ?_ (by rw [hops.out]; kernel_rfl) ?_ ?_ ?_ (by assumption) ?_
            rotate_left 2
            · rw [hops.out]; simp only [List.getElem?_toArray, List.getElem?_cons_succ, List.getElem?_cons_zero]; rfl
            · rw [hops.out]; kernel_rfl
            · intro W hW; (try dsimp only at hW); go_simp <;> with_reducible rfl
            · exact fun _ _ _ h => h
            try simp only [Act.put, List.setIfInBounds_toArray, List.set_cons_zero, List.set_cons_succ]
            refine take_do 1 (oi := ?_) (v := ?_) ?_ (by rw [hops.out]; kernel_rfl) ?_ ?_ ?_ (by assumption) ?_
            rotate_left 2
            · rw [hops.out]; simp only [List.getElem?_toArray, List.getElem?_cons_succ, List.getElem?_cons_zero]; rfl
            · rw [hops.out]; kernel_rfl
            · intro W hW; (try dsimp only at hW); go_simp <;> with_reducible rfl
            · exact fun _ _ _ h => h
            try simp only [Act.put, List.setIfInBounds_toArray, List.set_cons_zero, List.set_cons_succ]
            refine take_do 2 (oi := ?_) (v := ?_) ?_ (by rw [hops.out]; kernel_rfl) ?_ ?_ ?_ (by assumption) ?_
            rotate_left 2
            · rw [hops.out]; simp only [List.getElem?_toArray, List.getElem?_cons_succ, List.getElem?_cons_zero]; rfl
            · rw [hops.out]; kernel_rfl
            · intro W hW; (try dsimp only at hW); go_simp <;> with_reducible rfl
            · exact fun _ _ _ h => h
            try simp only [Act.put, List.setIfInBounds_toArray, List.set_cons_zero, List.set_cons_succ]
            refine take_do 3 (oi := ?_) (v := ?_) ?_ (by rw [hops.out]; kernel_rfl) ?_ ?_ ?_ (by assumption) ?_
            rotate_left 2
            · rw [hops.out]; simp only [List.getElem?_toArray, List.getElem?_cons_succ, List.getElem?_cons_zero]; rfl
            · rw [hops.out]; kernel_rfl
            · intro W hW; (try dsimp only at hW); go_simp <;> with_reducible rfl
            · exact fun _ _ _ h => h
            try simp only [Act.put, List.setIfInBounds_toArray, List.set_cons_zero, List.set_cons_succ]
            refine take_do 4 (oi := ?_) (v := ?_) ?_ (by rw [hops.out]; kernel_rfl) ?_ ?_ ?_ (by assumption) ?_
            rotate_left 2
            · rw [hops.out]; simp only [List.getElem?_toArray, List.getElem?_cons_succ, List.getElem?_cons_zero]; rfl
            · rw [hops.out]; kernel_rfl
            · intro W hW; (try dsimp only at hW); go_simp <;> with_reducible rfl
            · exact fun _ _ _ h => h
            try simp only [Act.put, List.setIfInBounds_toArray, List.set_cons_zero, List.set_cons_succ]
            refine take_do 5 (oi := ?_) (v := ?_) ?_ (by rw [hops.out]; kernel_rfl) ?_ ?_ ?_ (by assumption) ?_
            rotate_left 2
            · rw [hops.out]; simp only [List.getElem?_toArray, List.getElem?_cons_succ, List.getElem?_cons_zero]; rfl
            · rw [hops.out]; kernel_rfl
            · intro W hW; (try dsimp only at hW); go_simp <;> with_reducible rfl
            · exact fun _ _ _ h => h
            try simp only [Act.put, List.setIfInBounds_toArray, List.set_cons_zero, List.set_cons_succ]
            refine take_do 6 (oi := ?_) (v := ?_) ?_ (by rw [hops.out]; kernel_rfl) ?_ ?_ ?_ (by assumption) ?_
            rotate_left 2
            · rw [hops.out]; simp only [List.getElem?_toArray, List.getElem?_cons_succ, List.getElem?_cons_zero]; rfl
            · rw [hops.out]; kernel_rfl
            · intro W hW; (try dsimp only at hW); go_simp <;> with_reducible rfl
            · exact fun _ _ _ h => h
            try simp only [Act.put, List.setIfInBounds_toArray, List.set_cons_zero, List.set_cons_succ]
            refine take_do 7 (oi := ?_) (v := ?_) ?_ (by rw [hops.out]; kernel_rfl) ?_ ?_ ?_ (by assumption) ?_
            rotate_left 2
            · rw [hops.out]; simp only [List.getElem?_toArray, List.getElem?_cons_succ, List.getElem?_cons_zero]; rfl
            · rw [hops.out]; kernel_rfl
            · intro W hW; (try dsimp only at hW); go_simp <;> with_reducible rfl
            · exact fun _ _ _ h => h
            try simp only [Act.put, List.setIfInBounds_toArray, List.set_cons_zero, List.set_cons_succ]
            refine take_do 8 (oi := ?_) (v := ?_) ?_ (by rw [hops.out]; kernel_rfl) ?_ ?_ ?_ (by assumption) ?_
            rotate_left 2
            · rw [hops.out]; simp only [List.getElem?_toArray, List.getElem?_cons_succ, List.getElem?_cons_zero]; rfl
            · rw [hops.out]; kernel_rfl
            · intro W hW; (try dsimp only at hW); go_simp <;> with_reducible rfl
            · exact fun _ _ _ h => h
            try simp only [Act.put, List.setIfInBounds_toArray, List.set_cons_zero, List.set_cons_succ]
            refine take_do 9 (oi := ?_) (v := ?_) ?_ (by rw [hops.out]; kernel_rfl) ?_ ?_ ?_ (by assumption) ?_
            rotate_left 2
            · rw [hops.out]; simp only [List.getElem?_toArray, List.getElem?_cons_succ, List.getElem?_cons_zero]; rfl
            · rw [hops.out]; kernel_rfl
            · intro W hW; (try dsimp only at hW); go_simp <;> with_reducible rfl
            · exact fun _ _ _ h => h
            try simp only [Act.put, List.setIfInBounds_toArray, List.set_cons_zero, List.set_cons_succ]
            refine take_do 10 (oi := ?_) (v := ?_) ?_ (by rw [hops.out]; kernel_rfl) ?_ ?_ ?_ (by assumption) ?_
            rotate_left 2
            · rw [hops.out]; simp only [List.getElem?_toArray, List.getElem?_cons_succ, List.getElem?_cons_zero]; rfl
            · rw [hops.out]; kernel_rfl
            · intro W hW; (try dsimp only at hW); go_simp <;> with_reducible rfl
            · exact fun _ _ _ h => h
            try simp only [Act.put, List.setIfInBounds_toArray, List.set_cons_zero, List.set_cons_succ]
            refine take_skip 11 116 (by rw [hops.out]; kernel_rfl) (by rw [hops.out]; kernel_rfl) (by rw [hops.out]; kernel_rfl) (fun _ _ _ h => h) (by assumption) ?_
            try simp only [Act.put, List.setIfInBounds_toArray, List.set_cons_zero, List.set_cons_succ]
            refine take_skip 12 117 (by rw [hops.out]; kernel_rfl) (by rw [hops.out]; kernel_rfl) (by rw [hops.out]; kernel_rfl) (fun _ _ _ h => h) (by assumption) ?_
            try simp only [Act.put, List.setIfInBounds_toArray, List.set_cons_zero, List.set_cons_succ]
            refine take_skip 13 118 (by rw [hops.out]; kernel_rfl) (by rw [hops.out]; kernel_rfl) (by rw [hops.out]; kernel_rfl) (fun _ _ _ h => h) (by assumption) ?_
            try simp only [Act.put, List.setIfInBounds_toArray, List.set_cons_zero, List.set_cons_succ]
            refine take_skip 14 119 (by rw [hops.out]; kernel_rfl) (by rw [hops.out]; kernel_rfl) (by rw [hops.out]; kernel_rfl) (fun _ _ _ h => h) (by assumption) ?_
            try simp only [Act.put, List.setIfInBounds_toArray, List.set_cons_zero, List.set_cons_succ]
            refine take_skip 15 120 (by rw [hops.out]; kernel_rfl) (by rw [hops.out]; kernel_rfl) (by rw [hops.out]; kernel_rfl) (fun _ _ _ h => h) (by assumption) ?_
            try simp only [Act.put, List.setIfInBounds_toArray, List.set_cons_zero, List.set_cons_succ]
            refine take_skip 16 121 (by rw [hops.out]; kernel_rfl) (by rw [hops.out]; kernel_rfl) (by rw [hops.out]; kernel_rfl) (fun _ _ _ h => h) (by assumption) ?_
            try simp only [Act.put, List.setIfInBounds_toArray, List.set_cons_zero, List.set_cons_succ]
            refine take_skip 17 122 (by rw [hops.out]; kernel_rfl) (by rw [hops.out]; kernel_rfl) (by rw [hops.out]; kernel_rfl) (fun _ _ _ h => h) (by assumption) ?_
            try simp only [Act.put, List.setIfInBounds_toArray, List.set_cons_zero, List.set_cons_succ]
            refine take_skip 18 123 (by rw [hops.out]; kernel_rfl) (by rw [hops.out]; kernel_rfl) (by rw [hops.out]; kernel_rfl) (fun _ _ _ h => h) (by assumption) ?_
            try simp only [Act.put, List.setIfInBounds_toArray, List.set_cons_zero, List.set_cons_succ]
            refine take_skip 19 124 (by rw [hops.out]; kernel_rfl) (by rw [hops.out]; kernel_rfl) (by rw [hops.out]; kernel_rfl) (fun _ _ _ h => h) (by assumption) ?_
            try simp only [Act.put, List.setIfInBounds_toArray, List.set_cons_zero, List.set_cons_succ]
            refine take_skip 20 125 (by rw [hops.out]; kernel_rfl) (by rw [hops.out]; kernel_rfl) (by rw [hops.out]; kernel_rfl) (fun _ _ _ h => h) (by assumption) ?_
            try simp only [Act.put, List.setIfInBounds_toArray, List.set_cons_zero, List.set_cons_succ]
            refine take_skip 21 126 (by rw [hops.out]; kernel_rfl) (by rw [hops.out]; kernel_rfl) (by rw [hops.out]; kernel_rfl) (fun _ _ _ h => h) (by assumption) ?_
            try simp only [Act.put, List.setIfInBounds_toArray, List.set_cons_zero, List.set_cons_succ]
            refine take_do 22 (oi := ?_) (v := ?_) ?_ (by rw [hops.out]; kernel_rfl) ?_ ?_ ?_ (by assumption) ?_
            rotate_left 2
            · rw [hops.out]; simp only [List.getElem?_toArray, List.getElem?_cons_succ, List.getElem?_cons_zero]; rfl
            · rw [hops.out]; kernel_rfl
            · intro W hW; (try dsimp only at hW); go_simp <;> with_reducible rfl
            · exact fun _ _ _ h => h
            try simp only [Act.put, List.setIfInBounds_toArray, List.set_cons_zero, List.set_cons_succ]
            refine wpAnyH_done (by rw [hops.out]; kernel_rfl) ?_ _
            clear hops ops
            go_wp2
            go_ret
            exact ⟨by rw [HT.out]; rfl, BW3⟩
        · have HT := hide (show r4 = true by
            have t1 : toldB x.area (fsts ps) = true := by
              unfold toldB
              rw [← HQS.out, show allOk (inScope x.area) (fsts ps) = true from all_true fun i hi => HALL.out i (by have := HFL.out; omega)]
              rfl
            rw [R4.out]
            by_cases k2 : x.kind = 2
            · rw [said_two k2, t1, HL.out, show headsB (fsts ps) = true from all_true fun i hi => hhd.out k2 i (by have := HFL.out; omega)]
              rfl
            · rw [said_three (by have := HK1.out; omega), t1, HL.out]
              rfl)
          go_wp2
          go_ret
          exact ⟨by rw [HT.out]; rfl, BW⟩
end Go.Proofs.YtchmmekhfcojgaaGreatDoor
