/-
  impl.PacketOk: its contract.
-/
import Derived.Test.YtfccainebmbbdaaDoorRq22
namespace Go.Proofs.YtfccainebmbbdaaDoor
open Go.RowKit

set_option linter.unusedSimpArgs false

theorem said_one {x : PkD} {xs : List RecD} (h : x.kind = 1) : saidB x xs = (nodesB x.heard && (xs.length == 0)) := by unfold saidB; rw [if_pos h]

theorem said_two {x : PkD} {xs : List RecD} (h : x.kind = 2) : saidB x xs = ((x.heard.length == 0) && (toldB x.area xs && headsB xs)) := by unfold saidB; rw [if_neg (by omega), if_pos h]

theorem said_three {x : PkD} {xs : List RecD} (h : x.kind = 3) : saidB x xs = ((x.heard.length == 0) && toldB x.area xs) := by unfold saidB; rw [if_neg (by omega), if_neg (by omega), if_pos h]

theorem said_none {x : PkD} {xs : List RecD} (h1 : ¬ x.kind = 1) (h2 : ¬ x.kind = 2) (h3 : ¬ x.kind = 3) : saidB x xs = false := by unfold saidB; rw [if_neg h1, if_neg h2, if_neg h3]

theorem len_zero (n : Nat) : ((n : Int) == 0) = (n == 0) := by cases n <;> simp <;> omega

set_option maxRecDepth 100000 in
set_option maxHeartbeats 4000000 in
theorem saidOk_any (v1 v2 : Value) (x : PkD) (ps : List RP) (w : World) (ht : totP x ps ≤ 1048576) (hv : PkIn w v1 v2 x ps w.heap.size) :
    Calls Tryd.prog 42 #[pkV x v1 v2] w fun e w' => e = .returned (.bool (saidB x (fsts ps))) ∧ Below w.heap.size w w' := by
  obtain ⟨⟨a1, c1, rfl⟩, ⟨a2, c2, rfl⟩⟩ := hv.shapes
  have hlH : x.heard.length ≤ 1048576 := by unfold totP at ht; omega
  have hlR : tot ps ≤ 1048576 := by unfold totP at ht; omega
  have hfl : (fsts ps).length = ps.length := by simp [fsts]
  have HX := hide hv
  clear hv ht
  have BA : Below w.heap.size w (w.alloc (.cells #[.int .i64 x.kind, .int .i64 x.src, .int .i64 x.dst, .int .i64 x.area, .slice a1 x.heard.length c1, .slice a2 ps.length c2] 25)) := (Below.refl _ _).alloc (Nat.le_refl _) _
  have g0 := heap_alloc_new w (.cells #[.int .i64 x.kind, .int .i64 x.src, .int .i64 x.dst, .int .i64 x.area, .slice a1 x.heard.length c1, .slice a2 ps.length c2] 25)
  have HNO := hide (nodesOk_any _ x.heard (w.alloc (.cells #[.int .i64 x.kind, .int .i64 x.src, .int .i64 x.dst, .int .i64 x.area, .slice a1 x.heard.length c1, .slice a2 ps.length c2] 25)) hlH (HX.out.then BA).heard)
  have HTO := hide (toldIn_any x.area _ ps (w.alloc (.cells #[.int .i64 x.kind, .int .i64 x.src, .int .i64 x.dst, .int .i64 x.area, .slice a1 x.heard.length c1, .slice a2 ps.length c2] 25)) hlR (HX.out.then BA).list)
  have HAH := hide (fun W (hb : Below w.heap.size w W) => allHeaders_any _ ps W hlR (HX.out.then hb).list)
  obtain ⟨r1, h1⟩ : ∃ r, r = nodesB x.heard := ⟨_, rfl⟩
  obtain ⟨r2, h2⟩ : ∃ r, r = toldB x.area (fsts ps) := ⟨_, rfl⟩
  obtain ⟨r3, h3⟩ : ∃ r, r = headsB (fsts ps) := ⟨_, rfl⟩
  have S1 := hide (fun h => (said_one (x := x) (xs := fsts ps) h))
  have S2 := hide (fun h => (said_two (x := x) (xs := fsts ps) h))
  have S3 := hide (fun h => (said_three (x := x) (xs := fsts ps) h))
  rw [← h1] at HNO S1
  rw [← h2] at HTO S2 S3
  rw [← h3] at HAH S2
  rw [hfl] at S1
  clear h1 h2 h3 hfl
  have G0 := hide g0
  clear g0
  obtain ⟨w0, hw0⟩ : ∃ W, W = w.alloc (.cells #[.int .i64 x.kind, .int .i64 x.src, .int .i64 x.dst, .int .i64 x.area, .slice a1 x.heard.length c1, .slice a2 ps.length c2] 25) := ⟨_, rfl⟩
  rw [← hw0] at BA G0 HNO HTO
  have s3 := cells_at G0.out 3
  have s4 := cells_at G0.out 4
  have s5 := cells_at G0.out 5
  simp at s3 s4 s5
  have L1 := len_zero ps.length
  have L2 := len_zero x.heard.length
  by_cases k1 : x.kind = 1
  · rw [S1.out k1]
    have kb : (x.kind == 1) = true := by simpa using k1
    clear k1 S1 S2 S3
    go_enter Tryd.func42, Tryd.ntmps42
    go_wp2_with fail
    rw [← hw0]
    refine HNO.out.mono ?_
    rintro e w1 ⟨rfl, b1⟩
    have B1 : Below w.heap.size w w1 := BA.trans (b1.mono BA.size)
    have g1 := (b1.block _ (lt_of_heap G0.out)).trans G0.out
    have t5 := cells_at g1 5
    simp at t5
    clear g1
    cases r1
    · go_wp2
      go_ret
      exact ⟨rfl, B1⟩
    · go_wp2
      go_ret
      exact ⟨by simp [L1], B1⟩
  have kb1 : (x.kind == 1) = false := by simpa using k1
  by_cases k2 : x.kind = 2
  · rw [S2.out k2]
    have kb : (x.kind == 2) = true := by simpa using k2
    clear k1 k2 S1 S2 S3
    by_cases hl : x.heard.length = 0
    · have hlb : (x.heard.length == 0) = true := by simpa using hl
      rw [hlb] at L2 ⊢
      clear hl
      go_enter Tryd.func42, Tryd.ntmps42
      go_wp2_with fail
      rw [← hw0]
      refine HTO.out.mono ?_
      rintro e w1 ⟨rfl, b1⟩
      have B1 : Below w.heap.size w w1 := BA.trans (b1.mono BA.size)
      have g1 := (b1.block _ (lt_of_heap G0.out)).trans G0.out
      have t5 := cells_at g1 5
      simp at t5
      clear g1
      cases r2
      · go_wp2
        go_ret
        exact ⟨rfl, B1⟩
      · go_wp2_with fail
        refine (HAH.out _ B1).mono ?_
        rintro e w2 ⟨rfl, b2⟩
        have B2 : Below w.heap.size w w2 := B1.trans (b2.mono B1.size)
        clear t5 s3 s4 s5
        go_wp2
        go_ret
        exact ⟨by simp, B2⟩
    · have hlb : (x.heard.length == 0) = false := by simpa using hl
      rw [hlb] at L2 ⊢
      clear hl
      go_enter Tryd.func42, Tryd.ntmps42
      go_wp2_with fail
      go_ret
      rw [← hw0]
      exact ⟨rfl, BA⟩
  have kb2 : (x.kind == 2) = false := by simpa using k2
  by_cases k3 : x.kind = 3
  · rw [S3.out k3]
    have kb : (x.kind == 3) = true := by simpa using k3
    clear k1 k2 k3 S1 S2 S3
    by_cases hl : x.heard.length = 0
    · have hlb : (x.heard.length == 0) = true := by simpa using hl
      rw [hlb] at L2 ⊢
      clear hl
      go_enter Tryd.func42, Tryd.ntmps42
      go_wp2_with fail
      rw [← hw0]
      refine HTO.out.mono ?_
      rintro e w1 ⟨rfl, b1⟩
      have B1 : Below w.heap.size w w1 := BA.trans (b1.mono BA.size)
      clear s3 s4 s5
      go_wp2
      go_ret
      exact ⟨by simp, B1⟩
    · have hlb : (x.heard.length == 0) = false := by simpa using hl
      rw [hlb] at L2 ⊢
      clear hl
      go_enter Tryd.func42, Tryd.ntmps42
      go_wp2_with fail
      go_ret
      rw [← hw0]
      exact ⟨rfl, BA⟩
  · rw [said_none k1 k2 k3]
    have kb3 : (x.kind == 3) = false := by simpa using k3
    clear k1 k2 k3 S1 S2 S3
    go_enter Tryd.func42, Tryd.ntmps42
    go_wp2_with fail
    go_ret
    rw [← hw0]
    exact ⟨rfl, BA⟩

set_option maxRecDepth 100000 in
set_option maxHeartbeats 4000000 in
theorem ipacketOk_any (v1 v2 : Value) (x : PkD) (ps : List RP) (w : World) (ht : totP x ps ≤ 1048576) (hv : PkIn w v1 v2 x ps w.heap.size) :
    Calls Tryd.prog 17 #[pkV x v1 v2] w fun e w' => e = .returned (.bool (pkB x (fsts ps))) ∧ Below w.heap.size w w' := by
  obtain ⟨⟨a1, c1, rfl⟩, ⟨a2, c2, rfl⟩⟩ := hv.shapes
  have HX := hide hv
  clear hv
  have BA : Below w.heap.size w (w.alloc (.cells #[.int .i64 x.kind, .int .i64 x.src, .int .i64 x.dst, .int .i64 x.area, .slice a1 x.heard.length c1, .slice a2 ps.length c2] 25)) := (Below.refl _ _).alloc (Nat.le_refl _) _
  have g0 := heap_alloc_new w (.cells #[.int .i64 x.kind, .int .i64 x.src, .int .i64 x.dst, .int .i64 x.area, .slice a1 x.heard.length c1, .slice a2 ps.length c2] 25)
  have HSA := hide (saidOk_any _ _ x ps (w.alloc (.cells #[.int .i64 x.kind, .int .i64 x.src, .int .i64 x.dst, .int .i64 x.area, .slice a1 x.heard.length c1, .slice a2 ps.length c2] 25)) ht (HX.out.then BA))
  have I1 := hide (isIn_any x.src 1 6)
  have I2 := hide (isIn_any x.dst 1 6)
  have I3 := hide (isIn_any x.area 0 2)
  unfold pkB
  obtain ⟨r1, h1⟩ : ∃ r, r = inB x.src 1 6 := ⟨_, rfl⟩
  obtain ⟨r2, h2⟩ : ∃ r, r = inB x.dst 1 6 := ⟨_, rfl⟩
  obtain ⟨r3, h3⟩ : ∃ r, r = inB x.area 0 2 := ⟨_, rfl⟩
  obtain ⟨r4, h4⟩ : ∃ r, r = saidB x (fsts ps) := ⟨_, rfl⟩
  rw [← h1] at I1 ⊢
  rw [← h2] at I2 ⊢
  rw [← h3] at I3 ⊢
  rw [← h4] at HSA ⊢
  clear h1 h2 h3 h4
  have G0 := hide g0
  clear g0
  obtain ⟨w0, hw0⟩ : ∃ W, W = w.alloc (.cells #[.int .i64 x.kind, .int .i64 x.src, .int .i64 x.dst, .int .i64 x.area, .slice a1 x.heard.length c1, .slice a2 ps.length c2] 25) := ⟨_, rfl⟩
  rw [← hw0] at BA G0 HSA
  have s0 := cells_at G0.out 0
  have s1 := cells_at G0.out 1
  have s2 := cells_at G0.out 2
  have s3 := cells_at G0.out 3
  have s4 := cells_at G0.out 4
  have s5 := cells_at G0.out 5
  simp at s0 s1 s2 s3 s4 s5
  obtain ⟨r5, h5⟩ : ∃ r, r = (x.src == x.dst) := ⟨_, rfl⟩
  rw [← h5]
  have hb0 : (x.src != x.dst) = !r5 := by rw [h5]; rfl
  clear h5
  go_enter Tryd.func17, Tryd.ntmps17
  go_wp2_with fail
  rw [← hw0]
  clear hw0
  refine (I1.out _).mono ?_
  rintro e w1 ⟨rfl, rfl⟩
  cases r1
  · go_wp2
    go_ret
    exact ⟨rfl, BA⟩
  go_wp2_with fail
  refine (I2.out _).mono ?_
  rintro e w1 ⟨rfl, rfl⟩
  cases r2
  · go_wp2
    go_ret
    exact ⟨rfl, BA⟩
  cases r5
  case true =>
    have hb2 : (x.src != x.dst) = false := hb0
    clear hb0
    go_wp2_with fail
    go_ret
    exact ⟨rfl, BA⟩
  have hb2 : (x.src != x.dst) = true := hb0
  clear hb0
  go_wp2_with fail
  refine (I3.out _).mono ?_
  rintro e w1 ⟨rfl, rfl⟩
  cases r3
  · go_wp2
    go_ret
    exact ⟨rfl, BA⟩
  go_wp2_with fail
  refine HSA.out.mono ?_
  rintro e w2 ⟨rfl, b2⟩
  have B2 : Below w.heap.size w w2 := BA.trans (b2.mono BA.size)
  go_wp2
  go_ret
  exact ⟨by simp, B2⟩
end Go.Proofs.YtfccainebmbbdaaDoor
