/-
  laws.FnExactFind: its walk.
-/
import Derived.Test.YtohjphhocdgpgaaFindDag
import Derived.Test.YtohjphhocdgpgaaRecB
namespace Go.Proofs.Ytohjphhocdgpgaa
open Go.RowKit

theorem toRec_own (v : Value) (x : RecD) (w W : World) (h0 : RecAt w v x w.heap.size) (hb : Below w.heap.size w W) (hn : x.near.length ≤ 1048576) :
    Calls Try.prog 32 #[v] W fun e w' => ∃ v1, e = .returned (.agg (recC x v1)) ∧ w'.ownsRow W.heap.size 67 2 v1 x.near.length (flat nrE x.near) ∧ Below W.heap.size W w' :=
  toRecord_any v x W hn (h0.then hb)

set_option linter.unusedSimpArgs false

/-- the same, all its blocks in lo .. hi -/
structure BoxH (W : World) (lo hi z : Nat) (x : RecD) (u : Value) : Prop where
  b : RecBox W lo z x u
  zh : z < hi
  uh : ∀ k, u.ownBlock = some k → k < hi

theorem BoxH.of {W : World} {lo z : Nat} {x : RecD} {u : Value} (h : RecBox W lo z x u) : BoxH W lo W.heap.size z x u := ⟨h, lt_of_heap h.box, fun k hk => (h.own.lt k hk).2⟩

theorem BoxH.keep {W W' : World} {lo hi z : Nat} {x : RecD} {u : Value} (h : BoxH W lo hi z x u) (hk : ∀ k, lo ≤ k → k < hi → k < W.heap.size → W'.heap[k]? = W.heap[k]?) : BoxH W' lo hi z x u :=
  ⟨⟨(hk z h.b.low h.zh (lt_of_heap h.b.box)).trans h.b.box, owns_keepB h.b.own (fun k e => hk k (h.b.own.lt k e).1 (h.uh k e) (h.b.own.lt k e).2), h.b.low⟩, h.zh, h.uh⟩

theorem BoxH.below {W W' : World} {lo hi z B : Nat} {x : RecD} {u : Value} (h : BoxH W lo hi z x u) (hb : Below B W W') (hB : hi ≤ B) : BoxH W' lo hi z x u := h.keep (fun k _ h2 _ => hb.block k (by omega))

theorem BoxH.frame {W W' : World} {lo hi z l2 h2 : Nat} {x : RecD} {u : Value} (h : BoxH W lo hi z x u) (hb : Frame l2 h2 W W') (hB : hi ≤ l2 ∨ h2 ≤ lo) : BoxH W' lo hi z x u := h.keep (fun k h1 h2 h3 => hb.block k h3 (by omega))

theorem box_new {W : World} {lo : Nat} {x : RecD} {u : Value} (h : W.ownsRow lo 67 2 u x.near.length (flat nrE x.near)) (hlo : lo ≤ W.heap.size) : BoxH (W.alloc (.cells (recC x u) 26)) lo (W.alloc (.cells (recC x u) 26)).heap.size W.heap.size x u :=
  BoxH.of ⟨heap_alloc_new _ _, h.alloc _, hlo⟩

theorem BoxH.recAt {W : World} {lo hi z : Nat} {x : RecD} {u : Value} (h : BoxH W lo hi z x u) : RecAt W (.agg (recC x u)) x W.heap.size := ⟨u, rfl, owns_rowAt h.b.own⟩

theorem eqRec_own (u1 u2 : Value) (x : RecD) (W : World) (h1 : RecAt W (.agg (recC x u1)) x W.heap.size) (h2 : RecAt W (.agg (recC x u2)) x W.heap.size) (hn : x.near.length ≤ 1048576) :
    Calls Try.prog 33 #[.agg (recC x u1), .agg (recC x u2)] W fun e w' => e = .returned (.bool true) ∧ Below W.heap.size W w' := by
  have h := eqRecord_any _ _ x x W h1 h2 hn
  rw [decide_eq_true rfl] at h
  exact h

theorem NearsM {W : World} {b n : Nat} {v : Value} {q : Int} (h : W.ownsRow b 67 2 v n (flat nrE (marks q n))) : NearsAt W v (marks q n) W.heap.size := owns_rowAt (xs := marks q n) (by rw [marks_len]; exact h)

theorem near_bound {xs : List RecD} {r : RecD} {n : Nat} (h : totD xs ≤ n) : (findD xs r).near.length ≤ n := by
  unfold findD
  split
  · exact Nat.zero_le _
  · generalize (atZ xs r).toNat = k
    by_cases hk : k < xs.length
    · have e : xs.getD k zeroRD = xs[k] := by simp [hk]
      rw [e]
      have : ∀ ys : List RecD, ∀ y ∈ ys, y.near.length ≤ totD ys := by
        intro ys
        induction ys with
        | nil => intro y hy; simp at hy
        | cons a ys ih =>
          intro y hy
          rw [totD_cons]
          rcases List.mem_cons.1 hy with rfl | h1
          · omega
          · have := ih y h1; omega
      exact Nat.le_trans (this xs _ (List.getElem_mem hk)) h
    · have e : xs.getD k zeroRD = zeroRD := by simp [List.getElem?_eq_none (Nat.le_of_not_lt hk)]
      rw [e]
      exact Nat.zero_le _

theorem kept_new {X w3 : World} {o : Obj} (b : Below (X.alloc o).heap.size (X.alloc o) w3) : w3.heap[X.heap.size]? = some o := (b.block _ (by simp)).trans (heap_alloc_new _ _)

theorem below_al {B : Nat} {w W : World} (h : Below B w W) (hB : B ≤ w.heap.size) (o : Obj) : Below B w (W.alloc o) := h.alloc (Nat.le_trans hB h.size) o

set_option maxRecDepth 100000 in
set_option maxHeartbeats 20000000 in
theorem fnExactFind_walk (v0 : Value) (ps0 : List RP) (v1 : Value) (x : RecD) (w : World) (hx0 : RecsAt w v0 ps0 w.heap.size ∧ ps0.length ≤ maxLen ∧ ∀ p ∈ ps0, p.1.near.length ≤ maxLen) (hx1 : RecAt w v1 x w.heap.size ∧ x.near.length ≤ maxLen) :
    Calls Try.prog 10 #[v0, v1] w fun e w' => e = .returned (.bool true) ∧ Below w.heap.size w w' := by
  obtain ⟨hx0, hl0, hm0⟩ := hx0
  obtain ⟨xa0, xc0, rfl⟩ := hx0.shape
  obtain ⟨hx1, hl1⟩ := hx1
  have hl1 : (x.near.length : Int) ≤ 9223372036854775807 := by have : maxLen = 9223372036854775807 := rfl; omega
  have hxx := hx1
  obtain ⟨vn, rfl, hnn⟩ := hx1
  obtain ⟨ra, rc, rfl⟩ := hnn.shape
  clear hnn
  have HX0 := hide hx0
  have HX1 := hide hxx
  clear hx0 hxx
  have HS0 := hide (fun W q => szRecordS_any (.slice xa0 ps0.length xc0) ps0 q W hl0 hm0)
  have HS1 := hide (fun W q => szRecord_any x ra x.near.length rc q W hl1)
  clear hm0 hl0 hl1
  unfold recC at *
  have BW0 : Below w.heap.size w (w.alloc (.cells #[.int .i64 x.area, .int .i64 x.kind, .int .i64 x.owner, .int .i64 x.key, .int .i64 x.seq, .slice ra x.near.length rc, .int .i64 x.cost, .bool x.far] 39)) := (Below.refl _ _).alloc (Nat.le_refl _) _
  have KB0 := hide (heap_alloc_new w (.cells #[.int .i64 x.area, .int .i64 x.kind, .int .i64 x.owner, .int .i64 x.key, .int .i64 x.seq, .slice ra x.near.length rc, .int .i64 x.cost, .bool x.far] 39))
  obtain ⟨w0, hw0⟩ : ∃ w0, w0 = w.alloc (.cells #[.int .i64 x.area, .int .i64 x.kind, .int .i64 x.owner, .int .i64 x.key, .int .i64 x.seq, .slice ra x.near.length rc, .int .i64 x.cost, .bool x.far] 39) := ⟨_, rfl⟩
  rw [← hw0] at BW0 KB0
  go_enter Try.func10, Try.ntmps10
  go_wp2_with fail
  rw [← hw0]
  clear hw0
  refine (HS0.out _ 1048576 (by omega) (by omega) ((HX0.out.later BW0 (Nat.le_refl _)).more BW0.size)).mono ?_
  rintro e w1 ⟨z0, rfl, hz0, b1⟩
  have BW1 : Below w.heap.size w w1 := BW0.trans (b1.mono BW0.size)
  have KB1 := hide ((b1.block _ (lt_of_heap KB0.out)).trans KB0.out)
  clear b1 BW0 KB0
  rcases hz0 with hz0 | ⟨hz0, hy0⟩
  · go_wp2
    go_ret
    exact ⟨rfl, BW1⟩
  have hT0 : tot ps0 ≤ 1048576 := by omega
  have hzu0 : z0 ≤ 1048576 := by omega
  have HY0 := hide hy0
  clear hy0
  have s0 := cells_at KB1.out 0
  have s1 := cells_at KB1.out 1
  have s2 := cells_at KB1.out 2
  have s3 := cells_at KB1.out 3
  have s4 := cells_at KB1.out 4
  have s5 := cells_at KB1.out 5
  have s6 := cells_at KB1.out 6
  have s7 := cells_at KB1.out 7
  simp at s0 s1 s2 s3 s4 s5 s6 s7
  obtain ⟨z1, hz1e⟩ : ∃ z1, z1 = szR z0 x.near.length := ⟨_, rfl⟩
  have HS1b := hide (fun W => HS1.out W z0 hz0 hzu0)
  rw [← hz1e] at HS1b
  have hzz := szR_neg (q := z0) (n := x.near.length)
  rw [← hz1e] at hzz
  clear hz1e HS1
  go_wp2_with fail
  refine (HS1b.out _).mono ?_
  rintro e w2 ⟨rfl, b2⟩
  have BW2 : Below w.heap.size w w2 := BW1.trans (b2.mono BW1.size)
  have KB2 := hide ((b2.block _ (lt_of_heap KB1.out)).trans KB1.out)
  clear b2 BW1 KB1 HS1b
  rcases hzz with hz1 | ⟨hz1, hy1⟩
  · go_wp2
    go_ret
    exact ⟨rfl, BW2⟩
  have hT1 : x.near.length ≤ 1048576 := by have := HY0.out; omega
  clear hy1 s0 s1 s2 s3 s4 s5 s6 s7
  have HTO0 := hide (fun W hb => toRecS_own (.slice xa0 ps0.length xc0) ps0 w W HX0.out hb hT0)
  have HTO1 := hide (fun W hb => toRec_own _ x w W HX1.out hb hT1)
  have hDN0 : (findD (fsts ps0) x).near.length ≤ 1048576 := near_bound (by rw [← tot_D]; exact hT0)
  have HEQ := hide eqRec_own
  have HMK := hide markRecord_any
  have HHD := hide heldRecord_any
  obtain ⟨D, hD⟩ : ∃ D, D = findD (fsts ps0) x := ⟨_, rfl⟩
  rw [← hD] at hDN0
  obtain ⟨F, hF⟩ : ∃ F, F = findB (fsts ps0) x := ⟨_, rfl⟩
  have HSP := hide (fun v qs lo hi (hf : fsts qs = fsts ps0) u rlo W hv hh hr => by have h := sfind_any v qs lo hi (x, u) rlo W hv hh (by rw [tot_eq hf]; exact hT0) hr; rw [hf] at h; simp only [] at h; rw [← hD, ← hF] at h; exact h)
  have HIM := hide (fun v qs lo hi (hf : fsts qs = fsts ps0) u rlo W hv hh hr => by have h := ifind_any v qs lo hi (x, u) rlo W hv hh (by rw [tot_eq hf]; exact hT0) hr; rw [hf] at h; simp only [] at h; rw [← hD, ← hF] at h; exact h)
  clear HX0 HX1 HS0 hD hF
  unfold recC at *
  have s0 := cells_at KB2.out 0
  have s1 := cells_at KB2.out 1
  have s2 := cells_at KB2.out 2
  have s3 := cells_at KB2.out 3
  have s4 := cells_at KB2.out 4
  have s5 := cells_at KB2.out 5
  have s6 := cells_at KB2.out 6
  have s7 := cells_at KB2.out 7
  simp at s0 s1 s2 s3 s4 s5 s6 s7
  have hDN : D.near.length ≤ 1048576 := hDN0
  have hq2 := lt_of_heap KB2.out
  go_wp2_with fail
  refine wp_region_noPanic ?_
  refine wp_region_start (S := (fun W => W.cell? ⟨w.heap.size, 0, none⟩ = some (.int .i64 x.area) ∧ W.cell? ⟨w.heap.size, 1, none⟩ = some (.int .i64 x.kind) ∧ W.cell? ⟨w.heap.size, 2, none⟩ = some (.int .i64 x.owner) ∧ W.cell? ⟨w.heap.size, 3, none⟩ = some (.int .i64 x.key) ∧ W.cell? ⟨w.heap.size, 4, none⟩ = some (.int .i64 x.seq) ∧ W.cell? ⟨w.heap.size, 5, none⟩ = some (.slice ra x.near.length rc) ∧ W.cell? ⟨w.heap.size, 6, none⟩ = some (.int .i64 x.cost) ∧ W.cell? ⟨w.heap.size, 7, none⟩ = some (.bool x.far))) (by kernel_rfl) 11 rfl ⟨s0, s1, s2, s3, s4, s5, s6, s7⟩ (fun ops hops hHeld => ?_)
  refine take_do 0 (oi := ?_) (v := ?_) ?_ (by rw [hops.out]; kernel_rfl) ?_ ?_ ?_ (by assumption) ?_
  rotate_left 2
  · rw [hops.out]; simp only [List.getElem?_toArray, List.getElem?_cons_succ, List.getElem?_cons_zero]; rfl
  · rw [hops.out]; kernel_rfl
  · intro W hW; (try dsimp only at hW); go_simp <;> with_reducible rfl
  · exact fun _ _ _ h => h
  try simp only [Act.put, List.setIfInBounds_toArray, List.set_cons_zero, List.set_cons_succ]
  refine take_do 2 (oi := ?_) (v := ?_) ?_ (by rw [hops.out]; kernel_rfl) ?_ ?_ ?_ (by assumption) ?_
  rotate_left 2
  · rw [hops.out]; simp only [List.getElem?_toArray, List.getElem?_cons_succ, List.getElem?_cons_zero]; rfl
  · rw [hops.out]; kernel_rfl
  · intro W hW; (try dsimp only at hW); go_simp <;> with_reducible rfl
  · exact fun _ _ _ h => h
  try simp only [Act.put, List.setIfInBounds_toArray, List.set_cons_zero, List.set_cons_succ]
  refine find_dag8 x D F (fsts ps0) _ _ w2.heap.size w2.drew _ _ ops hops (Nat.le_refl _) ?_ (fun W hb => HTO0.out W (BW2.drew.trans (hb.mono BW2.size))) (fun W hb => HTO1.out W (BW2.drew.trans (hb.mono BW2.size))) (fun v qs lo hi u rlo W hf hv hh hr => HSP.out v qs lo hi hf u rlo W hv hh hr) ?_
  · intro W hb
    have hk := (hb.block _ (lt_of_heap KB2.out)).trans KB2.out
    refine ⟨?_, ?_, ?_, ?_, ?_, ?_, ?_, ?_⟩ <;> (rw [cells_at hk]; rfl)
  intro w3 vAW v4W uaW ucW zW b3' bx
  clear hops ops hHeld
  have b3 : Below w2.heap.size w2 w3 := (Below.refl _ _).drew.trans b3'
  clear b3'
  clear s0 s1 s2 s3 s4 s5 s6 s7
  have KB3 := hide ((b3.block _ (lt_of_heap KB2.out)).trans KB2.out)
  clear KB2
  have hs3 := b3.size
  have BW3 : Below w.heap.size w w3 := BW2.trans (b3.mono BW2.size)
  clear b3 BW2
  have KW3 := hide (BoxH.of bx)
  clear bx
  go_wp2_with fail
  refine (HTO0.out _ BW3).mono ?_
  rintro e w4 ⟨vX0, qX0, rfl, fX0, oX0, b4⟩
  obtain ⟨aX0, cX0, rfl⟩ := owns_lenS oX0.row
  have KB4 := hide ((b4.block _ (lt_of_heap KB3.out)).trans KB3.out)
  clear KB3
  have hs4 := b4.size
  have BW4 : Below w.heap.size w w4 := BW3.trans (b4.mono BW3.size)
  have KW4 := hide (KW3.out.below b4 (by omega))
  clear b4 BW3 KW3
  have KX04 := hide oX0
  have TX0 : tot qX0 ≤ 1048576 := by rw [tot_eq fX0]; exact hT0
  have FX0 := hide fX0
  clear oX0 fX0
  have s0 := cells_at KB4.out 0
  have s1 := cells_at KB4.out 1
  have s2 := cells_at KB4.out 2
  have s3 := cells_at KB4.out 3
  have s4 := cells_at KB4.out 4
  have s5 := cells_at KB4.out 5
  have s6 := cells_at KB4.out 6
  have s7 := cells_at KB4.out 7
  simp at s0 s1 s2 s3 s4 s5 s6 s7
  go_wp2_with fail
  refine (HTO1.out _ BW4).mono ?_
  rintro e w5 ⟨v1x, rfl, o1x, b5⟩
  obtain ⟨xa1, xc1, rfl⟩ := owns_lenS o1x
  clear s0 s1 s2 s3 s4 s5 s6 s7
  have KB5 := hide ((b5.block _ (lt_of_heap KB4.out)).trans KB4.out)
  clear KB4
  have hs5 := b5.size
  have BW5 : Below w.heap.size w w5 := BW4.trans (b5.mono BW4.size)
  have KW5 := hide (KW4.out.below b5 (by omega))
  have KX05 := hide (KX04.out.below b5 (by omega))
  clear b5 BW4 KW4 KX04
  have bx1 := box_new o1x hs5
  unfold recC at bx1
  have b6 : Below w5.heap.size w5 (w5.alloc (.cells #[.int .i64 x.area, .int .i64 x.kind, .int .i64 x.owner, .int .i64 x.key, .int .i64 x.seq, .slice xa1 x.near.length xc1, .int .i64 x.cost, .bool x.far] 26)) := (Below.refl _ _).alloc (Nat.le_refl _) _
  obtain ⟨w6, hw6⟩ : ∃ W, W = (w5.alloc (.cells #[.int .i64 x.area, .int .i64 x.kind, .int .i64 x.owner, .int .i64 x.key, .int .i64 x.seq, .slice xa1 x.near.length xc1, .int .i64 x.cost, .bool x.far] 26)) := ⟨_, rfl⟩
  obtain ⟨zX, hzX⟩ : ∃ z, z = w5.heap.size := ⟨_, rfl⟩
  rw [← hw6, ← hzX] at bx1
  rw [← hw6] at b6
  unfold recC at *
  have KB6 := hide ((b6.block _ (lt_of_heap KB5.out)).trans KB5.out)
  clear KB5
  have hs6 := b6.size
  have BW6 : Below w.heap.size w w6 := BW5.trans (b6.mono BW5.size)
  have KW6 := hide (KW5.out.below b6 (by omega))
  have KX06 := hide (KX05.out.below b6 (by omega))
  clear b6 BW5 KW5 KX05
  have KX16 := hide bx1
  clear bx1 o1x
  have hb := KX16.out.b.box
  unfold recC at hb
  have t0 := cells_at hb 0
  have t1 := cells_at hb 1
  have t2 := cells_at hb 2
  have t3 := cells_at hb 3
  have t4 := cells_at hb 4
  have t5 := cells_at hb 5
  have t6 := cells_at hb 6
  have t7 := cells_at hb 7
  simp at t0 t1 t2 t3 t4 t5 t6 t7
  clear hb
  rw [hw6] at t0 t1 t2 t3 t4 t5 t6 t7
  rw [hzX] at t0 t1 t2 t3 t4 t5 t6 t7
  go_wp2_with fail
  rw [← hw6, ← hzX]
  clear hw6 hzX
  refine (HIM.out _ qX0 _ _ FX0.out _ _ _ KX06.out (by omega) KX16.out.b.own).mono ?_
  rintro e w7 ⟨vg, rfl, og, b7⟩
  obtain ⟨ga, gc, rfl⟩ := owns_lenS og
  clear t0 t1 t2 t3 t4 t5 t6 t7
  have KB7 := hide ((b7.block _ (lt_of_heap KB6.out)).trans KB6.out)
  clear KB6
  have hs7 := b7.size
  have BW7 : Below w.heap.size w w7 := BW6.trans (b7.mono BW6.size)
  have KW7 := hide (KW6.out.below b7 (by omega))
  have KX07 := hide (KX06.out.below b7 (by omega))
  have KX17 := hide (KX16.out.below b7 (by omega))
  clear b7 BW6 KW6 KX06 KX16
  have bxg := box_new og hs7
  unfold recC at bxg
  have b8 : Below w7.heap.size w7 (w7.alloc (.cells #[.int .i64 D.area, .int .i64 D.kind, .int .i64 D.owner, .int .i64 D.key, .int .i64 D.seq, .slice ga D.near.length gc, .int .i64 D.cost, .bool D.far] 26)) := (Below.refl _ _).alloc (Nat.le_refl _) _
  obtain ⟨w8, hw8⟩ : ∃ W, W = (w7.alloc (.cells #[.int .i64 D.area, .int .i64 D.kind, .int .i64 D.owner, .int .i64 D.key, .int .i64 D.seq, .slice ga D.near.length gc, .int .i64 D.cost, .bool D.far] 26)) := ⟨_, rfl⟩
  obtain ⟨zG, hzG⟩ : ∃ z, z = w7.heap.size := ⟨_, rfl⟩
  rw [← hw8, ← hzG] at bxg
  rw [← hw8] at b8
  have KB8 := hide ((b8.block _ (lt_of_heap KB7.out)).trans KB7.out)
  clear KB7
  have hs8 := b8.size
  have BW8 : Below w.heap.size w w8 := BW7.trans (b8.mono BW7.size)
  have KW8 := hide (KW7.out.below b8 (by omega))
  have KX08 := hide (KX07.out.below b8 (by omega))
  have KX18 := hide (KX17.out.below b8 (by omega))
  clear b8 BW7 KW7 KX07 KX17
  have KG8 := hide bxg
  clear bxg og
  have hb := KG8.out.b.box
  unfold recC at hb
  have s0 := cells_at hb 0
  have s1 := cells_at hb 1
  have s2 := cells_at hb 2
  have s3 := cells_at hb 3
  have s4 := cells_at hb 4
  have s5 := cells_at hb 5
  have s6 := cells_at hb 6
  have s7 := cells_at hb 7
  simp at s0 s1 s2 s3 s4 s5 s6 s7
  clear hb
  have hb := KW8.out.b.box
  unfold recC at hb
  have t0 := cells_at hb 0
  have t1 := cells_at hb 1
  have t2 := cells_at hb 2
  have t3 := cells_at hb 3
  have t4 := cells_at hb 4
  have t5 := cells_at hb 5
  have t6 := cells_at hb 6
  have t7 := cells_at hb 7
  simp at t0 t1 t2 t3 t4 t5 t6 t7
  clear hb
  rw [hw8] at s0 s1 s2 s3 s4 s5 s6 s7
  rw [hzG] at s0 s1 s2 s3 s4 s5 s6 s7
  rw [hw8] at t0 t1 t2 t3 t4 t5 t6 t7
  go_wp2_with fail
  rw [← hw8, ← hzG]
  clear hw8 hzG
  refine (HEQ.out _ _ D _ KG8.out.recAt KW8.out.recAt hDN).mono ?_
  rintro e w9 ⟨rfl, b9⟩
  clear s0 s1 s2 s3 s4 s5 s6 s7 t0 t1 t2 t3 t4 t5 t6 t7
  have KB9 := hide ((b9.block _ (lt_of_heap KB8.out)).trans KB8.out)
  clear KB8
  have hs9 := b9.size
  have BW9 : Below w.heap.size w w9 := BW8.trans (b9.mono BW8.size)
  have KW9 := hide (KW8.out.below b9 (by omega))
  have KX09 := hide (KX08.out.below b9 (by omega))
  have KX19 := hide (KX18.out.below b9 (by omega))
  have KG9 := hide (KG8.out.below b9 (by omega))
  clear b9 BW8 KW8 KX08 KX18 KG8
  go_wp2_with fail
  refine (HTO0.out _ BW9).mono ?_
  rintro e w10 ⟨vY0, qY0, rfl, fY0, oY0, b10⟩
  obtain ⟨aY0, cY0, rfl⟩ := owns_lenS oY0.row
  have KB10 := hide ((b10.block _ (lt_of_heap KB9.out)).trans KB9.out)
  clear KB9
  have hs10 := b10.size
  have BW10 : Below w.heap.size w w10 := BW9.trans (b10.mono BW9.size)
  have KW10 := hide (KW9.out.below b10 (by omega))
  have KX010 := hide (KX09.out.below b10 (by omega))
  have KX110 := hide (KX19.out.below b10 (by omega))
  have KG10 := hide (KG9.out.below b10 (by omega))
  clear b10 BW9 KW9 KX09 KX19 KG9
  have KY010 := hide oY0
  have TY0 : tot qY0 ≤ 1048576 := by rw [tot_eq fY0]; exact hT0
  have FY0 := hide fY0
  clear oY0 fY0
  go_wp2_with fail
  refine (eqRecS_own _ _ _ _ _ _ _ _ _ KX010.out KY010.out (FX0.out.trans FY0.out.symm) TX0 (by omega) (by omega)).mono ?_
  rintro e w11 ⟨rfl, b11⟩
  have KB11 := hide ((b11.block _ (lt_of_heap KB10.out)).trans KB10.out)
  clear KB10
  have hs11 := b11.size
  have BW11 : Below w.heap.size w w11 := BW10.trans (b11.mono BW10.size)
  have KW11 := hide (KW10.out.below b11 (by omega))
  have KX011 := hide (KX010.out.below b11 (by omega))
  have KX111 := hide (KX110.out.below b11 (by omega))
  have KG11 := hide (KG10.out.below b11 (by omega))
  have KY011 := hide (KY010.out.below b11 (by omega))
  clear b11 BW10 KW10 KX010 KX110 KG10 KY010
  clear KY011
  have hb := KX111.out.b.box
  unfold recC at hb
  have t0 := cells_at hb 0
  have t1 := cells_at hb 1
  have t2 := cells_at hb 2
  have t3 := cells_at hb 3
  have t4 := cells_at hb 4
  have t5 := cells_at hb 5
  have t6 := cells_at hb 6
  have t7 := cells_at hb 7
  simp at t0 t1 t2 t3 t4 t5 t6 t7
  clear hb
  have s0 := cells_at KB11.out 0
  have s1 := cells_at KB11.out 1
  have s2 := cells_at KB11.out 2
  have s3 := cells_at KB11.out 3
  have s4 := cells_at KB11.out 4
  have s5 := cells_at KB11.out 5
  have s6 := cells_at KB11.out 6
  have s7 := cells_at KB11.out 7
  simp at s0 s1 s2 s3 s4 s5 s6 s7
  have hzXl := lt_of_heap KX111.out.b.box
  have hzwl := lt_of_heap KB11.out
  have KXD := hide (KX111.out.below ((Below.refl w11.heap.size w11).drew) (by omega))
  have BWD : Below w.heap.size w w11.drew := BW11.drew
  go_wp2
  go_region_held3 (fun W => W.cell? ⟨w.heap.size, 0, none⟩ = some (.int .i64 x.area) ∧ W.cell? ⟨w.heap.size, 1, none⟩ = some (.int .i64 x.kind) ∧ W.cell? ⟨w.heap.size, 2, none⟩ = some (.int .i64 x.owner) ∧ W.cell? ⟨w.heap.size, 3, none⟩ = some (.int .i64 x.key) ∧ W.cell? ⟨w.heap.size, 4, none⟩ = some (.int .i64 x.seq) ∧ W.cell? ⟨w.heap.size, 5, none⟩ = some (.slice ra x.near.length rc) ∧ W.cell? ⟨w.heap.size, 6, none⟩ = some (.int .i64 x.cost) ∧ W.cell? ⟨w.heap.size, 7, none⟩ = some (.bool x.far) ∧ W.cell? ⟨zX, 0, none⟩ = some (.int .i64 x.area) ∧ W.cell? ⟨zX, 1, none⟩ = some (.int .i64 x.kind) ∧ W.cell? ⟨zX, 2, none⟩ = some (.int .i64 x.owner) ∧ W.cell? ⟨zX, 3, none⟩ = some (.int .i64 x.key) ∧ W.cell? ⟨zX, 4, none⟩ = some (.int .i64 x.seq) ∧ W.cell? ⟨zX, 5, none⟩ = some (.slice xa1 x.near.length xc1) ∧ W.cell? ⟨zX, 6, none⟩ = some (.int .i64 x.cost) ∧ W.cell? ⟨zX, 7, none⟩ = some (.bool x.far)) (first | go_keep | (refine ⟨?_, ?_, ?_, ?_, ?_, ?_, ?_, ?_, ?_, ?_, ?_, ?_, ?_, ?_, ?_, ?_⟩ <;> (rw [b7.cell (Nat.lt_of_lt_of_le (by assumption) b6.size), b6.cell (by assumption)]; assumption)) | (refine ⟨?_, ?_, ?_, ?_, ?_, ?_, ?_, ?_, ?_, ?_, ?_, ?_, ?_, ?_, ?_, ?_⟩ <;> (rw [b6.cell (by assumption)]; assumption))) (first | (go_at_call 32; refine (HTO1.out _ BWD).mono ?_; rintro e wa ⟨v6, rfl, o6, b6⟩; obtain ⟨a6, c6, rfl⟩ := owns_lenS o6) | (go_at_call 33; refine (HEQ.out _ _ x _ (KXD.out.recAt.then b6) (recAt_of o6) hT1).mono ?_; rintro e wb ⟨rfl, b7⟩))
  clear s0 s1 s2 s3 s4 s5 s6 s7 t0 t1 t2 t3 t4 t5 t6 t7
  have b12 : Below w11.heap.size w11 wb := (Below.refl _ _).drew.trans (b6.trans (b7.mono b6.size))
  obtain ⟨w12, hw12⟩ : ∃ W, W = wb := ⟨_, rfl⟩
  rw [← hw12] at b12 ⊢
  clear hw12 b6 b7 o6 KXD BWD hzXl hzwl
  have KB12 := hide ((b12.block _ (lt_of_heap KB11.out)).trans KB11.out)
  clear KB11
  have hs12 := b12.size
  have BW12 : Below w.heap.size w w12 := BW11.trans (b12.mono BW11.size)
  have KW12 := hide (KW11.out.below b12 (by omega))
  have KX012 := hide (KX011.out.below b12 (by omega))
  have KX112 := hide (KX111.out.below b12 (by omega))
  have KG12 := hide (KG11.out.below b12 (by omega))
  clear b12 BW11 KW11 KX011 KX111 KG11
  go_wp2_with fail
  refine (markRecordS_any _ _ _ _ 1 _ KX012.out TX0 (by omega) (by omega)).mono ?_
  rintro e w13 ⟨rfl, oX0, b13⟩
  have KB13 := hide ((b13.block _ (lt_of_heap KB12.out) (.inl (by omega))).trans KB12.out)
  clear KB12
  have hs13 := b13.size
  have BW13 : Below w.heap.size w w13 := BW12.trans ((b13.below (by omega)).mono (by omega))
  have KW13 := hide (KW12.out.frame b13 (by omega))
  have KX113 := hide (KX112.out.frame b13 (by omega))
  have KG13 := hide (KG12.out.frame b13 (by omega))
  clear b13 BW12 KW12 KX112 KG12
  have KX013 := hide oX0
  clear oX0
  have hE := mkE_tot 1 qX0
  have hb := KX113.out.b.box
  unfold recC at hb
  have t0 := cells_at hb 0
  have t1 := cells_at hb 1
  have t2 := cells_at hb 2
  have t3 := cells_at hb 3
  have t4 := cells_at hb 4
  have t5 := cells_at hb 5
  have t6 := cells_at hb 6
  have t7 := cells_at hb 7
  simp at t0 t1 t2 t3 t4 t5 t6 t7
  clear hb
  go_wp2_with fail
  refine (HMK.out _ x _ (mkE 1 qX0) _ KX113.out.b.own hT1 (by omega) (by omega)).mono ?_
  rintro e w14 ⟨rfl, _, k14⟩
  have b14 := Frame.grown k14 (fun k hk => ⟨(KX113.out.b.own.lt k hk).1, KX113.out.uh k hk⟩)
  clear k14
  clear t0 t1 t2 t3 t4 t5 t6 t7
  clear KX013
  have KB14 := hide ((b14.block _ (lt_of_heap KB13.out) (.inl (by omega))).trans KB13.out)
  clear KB13
  have hs14 := b14.size
  have BW14 : Below w.heap.size w w14 := BW13.trans ((b14.below (by omega)).mono (by omega))
  have KW14 := hide (KW13.out.frame b14 (by omega))
  have KG14 := hide (KG13.out.frame b14 (by omega))
  clear b14 BW13 KW13 KG13
  have hpos : ¬ mkE 1 qX0 + 2 * (x.near.length : Int) < 0 := by omega
  have hb := KG14.out.b.box
  unfold recC at hb
  have s0 := cells_at hb 0
  have s1 := cells_at hb 1
  have s2 := cells_at hb 2
  have s3 := cells_at hb 3
  have s4 := cells_at hb 4
  have s5 := cells_at hb 5
  have s6 := cells_at hb 6
  have s7 := cells_at hb 7
  simp at s0 s1 s2 s3 s4 s5 s6 s7
  clear hb
  have hb := KW14.out.b.box
  unfold recC at hb
  have t0 := cells_at hb 0
  have t1 := cells_at hb 1
  have t2 := cells_at hb 2
  have t3 := cells_at hb 3
  have t4 := cells_at hb 4
  have t5 := cells_at hb 5
  have t6 := cells_at hb 6
  have t7 := cells_at hb 7
  simp at t0 t1 t2 t3 t4 t5 t6 t7
  clear hb
  go_wp2_with fail
  refine (HEQ.out _ _ D _ KG14.out.recAt KW14.out.recAt hDN).mono ?_
  rintro e w15 ⟨rfl, b15⟩
  clear s0 s1 s2 s3 s4 s5 s6 s7 t0 t1 t2 t3 t4 t5 t6 t7
  have KB15 := hide ((b15.block _ (lt_of_heap KB14.out)).trans KB14.out)
  clear KB14
  have hs15 := b15.size
  have BW15 : Below w.heap.size w w15 := BW14.trans (b15.mono BW14.size)
  have KW15 := hide (KW14.out.below b15 (by omega))
  have KG15 := hide (KG14.out.below b15 (by omega))
  clear b15 BW14 KW14 KG14
  have hb := KG15.out.b.box
  unfold recC at hb
  have t0 := cells_at hb 0
  have t1 := cells_at hb 1
  have t2 := cells_at hb 2
  have t3 := cells_at hb 3
  have t4 := cells_at hb 4
  have t5 := cells_at hb 5
  have t6 := cells_at hb 6
  have t7 := cells_at hb 7
  simp at t0 t1 t2 t3 t4 t5 t6 t7
  clear hb
  go_wp2_with fail
  refine (HMK.out _ D _ 1 _ KG15.out.b.own hDN (by omega) (by omega)).mono ?_
  rintro e w16 ⟨rfl, og, k16⟩
  have b16 := Frame.grown k16 (fun k hk => ⟨(KG15.out.b.own.lt k hk).1, KG15.out.uh k hk⟩)
  have hgb : w16.heap[zG]? = some (.cells #[.int .i64 D.area, .int .i64 D.kind, .int .i64 D.owner, .int .i64 D.key, .int .i64 D.seq, .slice ga D.near.length gc, .int .i64 D.cost, .bool D.far] 26) := (k16.block _ (lt_of_heap KG15.out.b.box) (own_type_ne2 KG15.out.b.own KG15.out.b.box (by decide))).trans KG15.out.b.box
  clear k16
  clear t0 t1 t2 t3 t4 t5 t6 t7
  have KB16 := hide ((b16.block _ (lt_of_heap KB15.out) (.inl (by omega))).trans KB15.out)
  clear KB15
  have hs16 := b16.size
  have BW16 : Below w.heap.size w w16 := BW15.trans ((b16.below (by omega)).mono (by omega))
  have KW16 := hide (KW15.out.frame b16 (by omega))
  clear b16 BW15 KW15
  have GB16 := hide hgb
  have GO16 := hide og
  clear hgb og
  clear KG15
  have t0 := cells_at GB16.out 0
  have t1 := cells_at GB16.out 1
  have t2 := cells_at GB16.out 2
  have t3 := cells_at GB16.out 3
  have t4 := cells_at GB16.out 4
  have t5 := cells_at GB16.out 5
  have t6 := cells_at GB16.out 6
  have t7 := cells_at GB16.out 7
  simp at t0 t1 t2 t3 t4 t5 t6 t7
  go_wp2_with fail
  refine (HHD.out _ D D.near.length 1 _ (NearsM GO16.out) hDN (by omega) (by omega)).mono ?_
  rintro e w17 ⟨rfl, b17⟩
  clear t0 t1 t2 t3 t4 t5 t6 t7
  have GB17 := hide ((b17.block _ (lt_of_heap GB16.out)).trans GB16.out)
  have GO17 := hide (owns_below GO16.out b17 (Nat.le_refl _))
  clear GB16 GO16
  have KB17 := hide ((b17.block _ (lt_of_heap KB16.out)).trans KB16.out)
  clear KB16
  have hs17 := b17.size
  have BW17 : Below w.heap.size w w17 := BW16.trans (b17.mono BW16.size)
  have KW17 := hide (KW16.out.below b17 (by omega))
  clear b17 BW16 KW16
  have hpos2 : ¬ 1 + 2 * (D.near.length : Int) < 0 := by omega
  have s0 := cells_at KB17.out 0
  have s1 := cells_at KB17.out 1
  have s2 := cells_at KB17.out 2
  have s3 := cells_at KB17.out 3
  have s4 := cells_at KB17.out 4
  have s5 := cells_at KB17.out 5
  have s6 := cells_at KB17.out 6
  have s7 := cells_at KB17.out 7
  simp at s0 s1 s2 s3 s4 s5 s6 s7
  go_wp2_with fail
  refine wp_region_noPanic ?_
  refine wp_region_start (S := (fun W => W.cell? ⟨w.heap.size, 0, none⟩ = some (.int .i64 x.area) ∧ W.cell? ⟨w.heap.size, 1, none⟩ = some (.int .i64 x.kind) ∧ W.cell? ⟨w.heap.size, 2, none⟩ = some (.int .i64 x.owner) ∧ W.cell? ⟨w.heap.size, 3, none⟩ = some (.int .i64 x.key) ∧ W.cell? ⟨w.heap.size, 4, none⟩ = some (.int .i64 x.seq) ∧ W.cell? ⟨w.heap.size, 5, none⟩ = some (.slice ra x.near.length rc) ∧ W.cell? ⟨w.heap.size, 6, none⟩ = some (.int .i64 x.cost) ∧ W.cell? ⟨w.heap.size, 7, none⟩ = some (.bool x.far))) (by kernel_rfl) 11 rfl ⟨s0, s1, s2, s3, s4, s5, s6, s7⟩ (fun ops hops hHeld => ?_)
  refine take_do 0 (oi := ?_) (v := ?_) ?_ (by rw [hops.out]; kernel_rfl) ?_ ?_ ?_ (by assumption) ?_
  rotate_left 2
  · rw [hops.out]; simp only [List.getElem?_toArray, List.getElem?_cons_succ, List.getElem?_cons_zero]; rfl
  · rw [hops.out]; kernel_rfl
  · intro W hW; (try dsimp only at hW); go_simp <;> with_reducible rfl
  · exact fun _ _ _ h => h
  try simp only [Act.put, List.setIfInBounds_toArray, List.set_cons_zero, List.set_cons_succ]
  refine take_do 2 (oi := ?_) (v := ?_) ?_ (by rw [hops.out]; kernel_rfl) ?_ ?_ ?_ (by assumption) ?_
  rotate_left 2
  · rw [hops.out]; simp only [List.getElem?_toArray, List.getElem?_cons_succ, List.getElem?_cons_zero]; rfl
  · rw [hops.out]; kernel_rfl
  · intro W hW; (try dsimp only at hW); go_simp <;> with_reducible rfl
  · exact fun _ _ _ h => h
  try simp only [Act.put, List.setIfInBounds_toArray, List.set_cons_zero, List.set_cons_succ]
  refine find_dag31 x D F (fsts ps0) _ _ w17.heap.size w17.drew _ _ ops hops (Nat.le_refl _) ?_ (fun W hb => HTO0.out W (BW17.drew.trans (hb.mono BW17.size))) (fun W hb => HTO1.out W (BW17.drew.trans (hb.mono BW17.size))) (fun v qs lo hi u rlo W hf hv hh hr => HIM.out v qs lo hi hf u rlo W hv hh hr) ?_
  · intro W hb
    have hk := (hb.block _ (lt_of_heap KB17.out)).trans KB17.out
    refine ⟨?_, ?_, ?_, ?_, ?_, ?_, ?_, ?_⟩ <;> (rw [cells_at hk]; rfl)
  intro w18 vAH v4H uaH ucH zH b18' bx
  clear hops ops hHeld
  have b18 : Below w17.heap.size w17 w18 := (Below.refl _ _).drew.trans b18'
  clear b18'
  clear s0 s1 s2 s3 s4 s5 s6 s7
  have GB18 := hide ((b18.block _ (lt_of_heap GB17.out)).trans GB17.out)
  have GO18 := hide (owns_below GO17.out b18 (Nat.le_refl _))
  clear GB17 GO17
  have KB18 := hide ((b18.block _ (lt_of_heap KB17.out)).trans KB17.out)
  clear KB17
  have hs18 := b18.size
  have BW18 : Below w.heap.size w w18 := BW17.trans (b18.mono BW17.size)
  have KW18 := hide (KW17.out.below b18 (by omega))
  clear b18 BW17 KW17
  have KH18 := hide (BoxH.of bx)
  clear bx
  have hb := KH18.out.b.box
  unfold recC at hb
  have s0 := cells_at hb 0
  have s1 := cells_at hb 1
  have s2 := cells_at hb 2
  have s3 := cells_at hb 3
  have s4 := cells_at hb 4
  have s5 := cells_at hb 5
  have s6 := cells_at hb 6
  have s7 := cells_at hb 7
  simp at s0 s1 s2 s3 s4 s5 s6 s7
  clear hb
  have hb := KW18.out.b.box
  unfold recC at hb
  have t0 := cells_at hb 0
  have t1 := cells_at hb 1
  have t2 := cells_at hb 2
  have t3 := cells_at hb 3
  have t4 := cells_at hb 4
  have t5 := cells_at hb 5
  have t6 := cells_at hb 6
  have t7 := cells_at hb 7
  simp at t0 t1 t2 t3 t4 t5 t6 t7
  clear hb
  go_wp2_with fail
  refine (HEQ.out _ _ D _ KH18.out.recAt KW18.out.recAt hDN).mono ?_
  rintro e w19 ⟨rfl, b19⟩
  clear s0 s1 s2 s3 s4 s5 s6 s7 t0 t1 t2 t3 t4 t5 t6 t7
  have GB19 := hide ((b19.block _ (lt_of_heap GB18.out)).trans GB18.out)
  have GO19 := hide (owns_below GO18.out b19 (Nat.le_refl _))
  clear GB18 GO18
  have KB19 := hide ((b19.block _ (lt_of_heap KB18.out)).trans KB18.out)
  clear KB18
  have hs19 := b19.size
  have BW19 : Below w.heap.size w w19 := BW18.trans (b19.mono BW18.size)
  have KW19 := hide (KW18.out.below b19 (by omega))
  have KH19 := hide (KH18.out.below b19 (by omega))
  clear b19 BW18 KW18 KH18
  have t0 := cells_at GB19.out 0
  have t1 := cells_at GB19.out 1
  have t2 := cells_at GB19.out 2
  have t3 := cells_at GB19.out 3
  have t4 := cells_at GB19.out 4
  have t5 := cells_at GB19.out 5
  have t6 := cells_at GB19.out 6
  have t7 := cells_at GB19.out 7
  simp at t0 t1 t2 t3 t4 t5 t6 t7
  go_wp2_with fail
  refine (HHD.out _ D D.near.length 1 _ (NearsM GO19.out) hDN (by omega) (by omega)).mono ?_
  rintro e w20 ⟨rfl, b20⟩
  clear t0 t1 t2 t3 t4 t5 t6 t7
  have GB20 := hide ((b20.block _ (lt_of_heap GB19.out)).trans GB19.out)
  have GO20 := hide (owns_below GO19.out b20 (Nat.le_refl _))
  clear GB19 GO19
  have KB20 := hide ((b20.block _ (lt_of_heap KB19.out)).trans KB19.out)
  clear KB19
  have hs20 := b20.size
  have BW20 : Below w.heap.size w w20 := BW19.trans (b20.mono BW19.size)
  have KW20 := hide (KW19.out.below b20 (by omega))
  have KH20 := hide (KH19.out.below b20 (by omega))
  clear b20 BW19 KW19 KH19
  go_wp2
  go_ret
  exact ⟨rfl, BW20⟩
end Go.Proofs.Ytohjphhocdgpgaa
