/-
  laws.FnRecords: the walk.
-/
import Derived.Test.YtohjphhocdgpgaaSpoilt
import Derived.Test.YtohjphhocdgpgaaBackMath
import Derived.Test.YtohjphhocdgpgaaSameR
import Derived.Test.YtohjphhocdgpgaaTextI
import Derived.Test.YtohjphhocdgpgaaReadI
import Derived.Test.YtohjphhocdgpgaaReadS
import Derived.Test.YtohjphhocdgpgaaIRecOk
namespace Go.Proofs.Ytohjphhocdgpgaa
open Go.RowKit

set_option linter.unusedSimpArgs false

theorem readD_len5 (s : ByteArray) : (readD s).near.length ≤ 6 := by
  unfold readD
  cases h : okI s with
  | false => simp [zeroR]
  | true =>
    have : recOkB (recP s (cntI s)) = true := by
      unfold okI at h
      simp only [Bool.and_eq_true] at h
      exact h.2
    simpa using recOk_six this

set_option maxRecDepth 100000 in
set_option maxHeartbeats 8000000 in
theorem fnRecords_walk (a : Option Addr) (len cap : Nat) (w : World) (hw : len ≤ 1048576 → Code w a len w.heap.size) :
    Calls Try.prog 3 #[.slice a len cap] w fun e w' => e = .returned (.bool true) ∧ Below w.heap.size w w' := by
  have HW := hide hw
  clear hw
  by_cases hlen : len ≤ 1048576
  case neg =>
    have HBIG := hide (big_any a len cap)
    rw [decide_eq_true (show (1048576 : Int) < (len : Int) by omega)] at HBIG
    go_enter Try.func3, Try.ntmps3
    go_wp2_with fail
    refine (HBIG.out _).mono ?_
    rintro e w1 ⟨rfl, rfl⟩
    go_wp2
    go_ret
    exact ⟨rfl, Below.refl _ _⟩
  have HBIG := hide (big_any a len cap)
  rw [decide_eq_false (show ¬ (1048576 : Int) < (len : Int) by omega)] at HBIG
  have HCODE := hide (HW.out hlen)
  clear HW
  go_enter Try.func3, Try.ntmps3
  go_wp2_with fail
  refine (HBIG.out _).mono ?_
  rintro e w1 ⟨rfl, rfl⟩
  clear HBIG
  go_wp2_with fail
  refine (drawRT_any a len cap _ HCODE.out).mono ?_
  rintro e w2 ⟨x, v, rfl, o2, hx7, b2⟩
  obtain ⟨va, vc, rfl⟩ := owns_lenS o2
  unfold recC at *
  have bw3 : Below w2.heap.size w2 (w2.alloc (.cells #[.int .i64 x.area, .int .i64 x.kind, .int .i64 x.owner, .int .i64 x.key, .int .i64 x.seq, (.slice va x.near.length vc), .int .i64 x.cost, .bool x.far] 26)) := (Below.refl _ _).alloc (Nat.le_refl _) _
  have k3 := heap_alloc_new w2 (.cells #[.int .i64 x.area, .int .i64 x.kind, .int .i64 x.owner, .int .i64 x.key, .int .i64 x.seq, (.slice va x.near.length vc), .int .i64 x.cost, .bool x.far] 26)
  obtain ⟨w3, hw3⟩ : ∃ W, W = w2.alloc (.cells #[.int .i64 x.area, .int .i64 x.kind, .int .i64 x.owner, .int .i64 x.key, .int .i64 x.seq, (.slice va x.near.length vc), .int .i64 x.cost, .bool x.far] 26) := ⟨_, rfl⟩
  obtain ⟨z1, hz1⟩ : ∃ z, z = w2.heap.size := ⟨_, rfl⟩
  rw [← hw3, ← hz1] at k3
  rw [← hw3] at bw3
  have B3 : Below w.heap.size w w3 := b2.trans (bw3.mono b2.size)
  have o3 := owns_below o2 bw3 (Nat.le_refl _)
  clear o2 b2 bw3
  have HSO := hide (fun W hb => srecOk_any (.slice va x.near.length vc) x W (by omega) (RowAt.then (owns_rowAt o3) hb))
  have HIO := hide (fun W hb => irecOk_any (.slice va x.near.length vc) x W (by omega) (RowAt.then (owns_rowAt o3) hb))
  have HTX := hide (itext_any (.slice va x.near.length vc) x w3 (by omega) (owns_rowAt o3))
  have O3 := hide o3
  clear o3
  unfold recC at HSO HIO HTX
  by_cases hok : recOkB x = true
  · obtain ⟨hi1, hi2⟩ := read_back hok
    rw [hok] at HSO HIO
    rw [show textV x = .tuple #[.string (bs (recL x)), .bool true] from by unfold textV; rw [if_pos hok]] at HTX
    have hsl := recL_len hok hx7
    have HR := hide (fun W => ireadR_any (bs (recL x)) W (by rw [bs_size]; omega))
    rw [hi1, hi2] at HR
    have HSM := hide (fun v1 v2 W h1 h2 => same_any x v1 v2 W h1 h2 (by omega))
    unfold recC at HR HSM
    generalize bs (recL x) = tx at *
    clear hi1 hi2 hsl hok
    have s0 := cells_at k3 0
    have s1 := cells_at k3 1
    have s2 := cells_at k3 2
    have s3 := cells_at k3 3
    have s4 := cells_at k3 4
    have s5 := cells_at k3 5
    have s6 := cells_at k3 6
    have s7 := cells_at k3 7
    simp at s0 s1 s2 s3 s4 s5 s6 s7
    rw [hw3, hz1] at s0 s1 s2 s3 s4 s5 s6 s7
    go_wp2_with fail
    rw [← hw3, ← hz1]
    clear hw3 hz1
    refine HTX.out.mono ?_
    rintro e w4 ⟨rfl, b4⟩
    clear s0 s1 s2 s3 s4 s5 s6 s7 HTX
    have B4 : Below w3.heap.size w3 w4 := b4
    have BW4 : Below w.heap.size w w4 := B3.trans (b4.mono B3.size)
    clear b4
    go_wp2_with fail
    refine (HR.out _).mono ?_
    rintro e w5 ⟨u5, rfl, o5, b5⟩
    obtain ⟨ua5, uc5, rfl⟩ := owns_lenS o5
    have B5 : Below w3.heap.size w3 w5 := B4.trans (b5.mono B4.size)
    have BW5 : Below w.heap.size w w5 := BW4.trans (b5.mono BW4.size)
    clear b5 B4 BW4 HR
    have bw6 : Below w5.heap.size w5 (w5.alloc (.cells #[.int .i64 x.area, .int .i64 x.kind, .int .i64 x.owner, .int .i64 x.key, .int .i64 x.seq, (.slice ua5 x.near.length uc5), .int .i64 x.cost, .bool x.far] 26)) := (Below.refl _ _).alloc (Nat.le_refl _) _
    have k6 := heap_alloc_new w5 (.cells #[.int .i64 x.area, .int .i64 x.kind, .int .i64 x.owner, .int .i64 x.key, .int .i64 x.seq, (.slice ua5 x.near.length uc5), .int .i64 x.cost, .bool x.far] 26)
    obtain ⟨w6, hw6⟩ : ∃ W, W = w5.alloc (.cells #[.int .i64 x.area, .int .i64 x.kind, .int .i64 x.owner, .int .i64 x.key, .int .i64 x.seq, (.slice ua5 x.near.length uc5), .int .i64 x.cost, .bool x.far] 26) := ⟨_, rfl⟩
    obtain ⟨z2, hz2⟩ : ∃ z, z = w5.heap.size := ⟨_, rfl⟩
    rw [← hw6, ← hz2] at k6
    rw [← hw6] at bw6
    have B6 : Below w3.heap.size w3 w6 := B5.trans (bw6.mono B5.size)
    have BW6 : Below w.heap.size w w6 := BW5.trans (bw6.mono BW5.size)
    have o6 := owns_below o5 bw6 (Nat.le_refl _)
    have K6 := hide k6
    have O6 := hide o6
    clear o5 bw6 B5 BW5 k6 o6
    have k36 := (B6.block _ (lt_of_heap k3)).trans k3
    have K3 := hide k3
    clear k3
    have s0 := cells_at k36 0
    have s1 := cells_at k36 1
    have s2 := cells_at k36 2
    have s3 := cells_at k36 3
    have s4 := cells_at k36 4
    have s5 := cells_at k36 5
    have s6 := cells_at k36 6
    have s7 := cells_at k36 7
    simp at s0 s1 s2 s3 s4 s5 s6 s7
    have K36 := hide k36
    clear k36
    rw [hw6] at s0 s1 s2 s3 s4 s5 s6 s7
    go_wp2_with fail
    rw [← hw6, ← hz2]
    clear hw6 hz2
    refine (HSO.out _ B6).mono ?_
    rintro e w7 ⟨rfl, b7⟩
    clear s0 s1 s2 s3 s4 s5 s6 s7
    have B7 : Below w3.heap.size w3 w7 := B6.trans (b7.mono B6.size)
    have BW7 : Below w.heap.size w w7 := BW6.trans (b7.mono BW6.size)
    have k37 := (b7.block _ (lt_of_heap K36.out)).trans K36.out
    have K67 := hide ((b7.block _ (lt_of_heap K6.out)).trans K6.out)
    have O67 := hide (owns_below O6.out b7 (Nat.le_refl _))
    clear b7 B6 BW6 K36 K6 O6
    have s0 := cells_at k37 0
    have s1 := cells_at k37 1
    have s2 := cells_at k37 2
    have s3 := cells_at k37 3
    have s4 := cells_at k37 4
    have s5 := cells_at k37 5
    have s6 := cells_at k37 6
    have s7 := cells_at k37 7
    simp at s0 s1 s2 s3 s4 s5 s6 s7
    have K37 := hide k37
    clear k37
    go_wp2_with fail
    refine (HIO.out _ B7).mono ?_
    rintro e w8 ⟨rfl, b8⟩
    clear s0 s1 s2 s3 s4 s5 s6 s7
    have B8 : Below w3.heap.size w3 w8 := B7.trans (b8.mono B7.size)
    have BW8 : Below w.heap.size w w8 := BW7.trans (b8.mono BW7.size)
    have k38 := (b8.block _ (lt_of_heap K37.out)).trans K37.out
    have k68 := (b8.block _ (lt_of_heap K67.out)).trans K67.out
    have n6 := owns_rowAt (owns_below O67.out b8 (Nat.le_refl _))
    have n3 := RowAt.then (owns_rowAt O3.out) B8
    have HS2 := hide (HSM.out _ _ w8 n6 n3)
    clear b8 B7 BW7 K37 K67 O67 n6 n3 HSM
    have s0 := cells_at k38 0
    have s1 := cells_at k38 1
    have s2 := cells_at k38 2
    have s3 := cells_at k38 3
    have s4 := cells_at k38 4
    have s5 := cells_at k38 5
    have s6 := cells_at k38 6
    have s7 := cells_at k38 7
    simp at s0 s1 s2 s3 s4 s5 s6 s7
    have t0 := cells_at k68 0
    have t1 := cells_at k68 1
    have t2 := cells_at k68 2
    have t3 := cells_at k68 3
    have t4 := cells_at k68 4
    have t5 := cells_at k68 5
    have t6 := cells_at k68 6
    have t7 := cells_at k68 7
    simp at t0 t1 t2 t3 t4 t5 t6 t7
    clear k38 k68
    go_wp2_with fail
    refine HS2.out.mono ?_
    rintro e w9 ⟨rfl, b9⟩
    clear s0 s1 s2 s3 s4 s5 s6 s7 t0 t1 t2 t3 t4 t5 t6 t7
    have BW9 : Below w.heap.size w w9 := BW8.trans (b9.mono BW8.size)
    clear b9 B8 BW8 HS2 HSO HIO K3 O3
    go_wp2_with fail
    refine (drawRR_any a len cap w9 (code_later HCODE.out BW9)).mono ?_
    rintro e wl ⟨t, rfl, ht, bl⟩
    have BL : Below w.heap.size w wl := BW9.trans (bl.mono BW9.size)
    clear bl
    obtain ⟨D, hD⟩ : ∃ D, D = readD t := ⟨_, rfl⟩
    obtain ⟨O, hO⟩ : ∃ O, O = okI t := ⟨_, rfl⟩
    have hDn : D.near.length ≤ 6 := by rw [hD]; exact readD_len5 t
    have HI := hide (fun W => ireadR_any t W (by omega))
    have HS := hide (fun W => sreadR_any t W (by omega))
    rw [← hD, ← hO] at HI HS
    have HX : ∃ (s' : ByteArray) (b' : Bool), textV D = .tuple #[.string s', .bool b'] ∧ (O = true → s' = t) := by
      cases hOv : O with
      | false => obtain ⟨s1, b1, e1⟩ := textV_two D; exact ⟨s1, b1, e1, fun h => by cases h⟩
      | true =>
        have h := text_back (hO.symm.trans hOv)
        rw [← hD] at h
        exact ⟨t, true, by unfold textV; rw [if_pos h.1, h.2], fun _ => rfl⟩
    obtain ⟨s', b', hsb, hst⟩ := HX
    clear hD hO
    unfold recC at *
    go_wp2_with fail
    refine (HI.out _).mono ?_
    rintro e wm ⟨u, rfl, om, bm⟩
    obtain ⟨ua, uc, rfl⟩ := owns_lenS om
    have BM : Below w.heap.size w wm := BL.trans (bm.mono BL.size)
    clear bm BL
    have bwn : Below wm.heap.size wm (wm.alloc (.cells #[.int .i64 D.area, .int .i64 D.kind, .int .i64 D.owner, .int .i64 D.key, .int .i64 D.seq, (.slice ua D.near.length uc), .int .i64 D.cost, .bool D.far] 26)) := (Below.refl _ _).alloc (Nat.le_refl _) _
    have kb := heap_alloc_new wm (.cells #[.int .i64 D.area, .int .i64 D.kind, .int .i64 D.owner, .int .i64 D.key, .int .i64 D.seq, (.slice ua D.near.length uc), .int .i64 D.cost, .bool D.far] 26)
    obtain ⟨wn, hwn⟩ : ∃ W, W = wm.alloc (.cells #[.int .i64 D.area, .int .i64 D.kind, .int .i64 D.owner, .int .i64 D.key, .int .i64 D.seq, (.slice ua D.near.length uc), .int .i64 D.cost, .bool D.far] 26) := ⟨_, rfl⟩
    obtain ⟨z9, hz9⟩ : ∃ z, z = wm.heap.size := ⟨_, rfl⟩
    rw [← hwn, ← hz9] at kb
    rw [← hwn] at bwn
    have BN : Below w.heap.size w wn := BM.trans (bwn.mono BM.size)
    have on := owns_below om bwn (Nat.le_refl _)
    have KB := hide kb
    have ON := hide on
    clear kb on om bwn BM
    go_wp2_with fail
    rw [← hwn, ← hz9]
    clear hwn hz9
    refine (HS.out _).mono ?_
    rintro e wo ⟨u2, rfl, oo, bo⟩
    obtain ⟨u2a, u2c, rfl⟩ := owns_lenS oo
    have BO : Below w.heap.size w wo := BN.trans (bo.mono BN.size)
    have kbo := (bo.block _ (lt_of_heap KB.out)).trans KB.out
    have ono := owns_below ON.out bo (Nat.le_refl _)
    clear bo BN KB ON oo
    have bwp : Below wo.heap.size wo (wo.alloc (.cells #[.int .i64 D.area, .int .i64 D.kind, .int .i64 D.owner, .int .i64 D.key, .int .i64 D.seq, (.slice u2a D.near.length u2c), .int .i64 D.cost, .bool D.far] 26)) := (Below.refl _ _).alloc (Nat.le_refl _) _
    have kb2 := heap_alloc_new wo (.cells #[.int .i64 D.area, .int .i64 D.kind, .int .i64 D.owner, .int .i64 D.key, .int .i64 D.seq, (.slice u2a D.near.length u2c), .int .i64 D.cost, .bool D.far] 26)
    obtain ⟨wp, hwp⟩ : ∃ W, W = wo.alloc (.cells #[.int .i64 D.area, .int .i64 D.kind, .int .i64 D.owner, .int .i64 D.key, .int .i64 D.seq, (.slice u2a D.near.length u2c), .int .i64 D.cost, .bool D.far] 26) := ⟨_, rfl⟩
    obtain ⟨z11, hz11⟩ : ∃ z, z = wo.heap.size := ⟨_, rfl⟩
    rw [← hwp, ← hz11] at kb2
    rw [← hwp] at bwp
    have BP : Below w.heap.size w wp := BO.trans (bwp.mono BO.size)
    have kbp := (bwp.block _ (lt_of_heap kbo)).trans kbo
    have onp := owns_below ono bwp (Nat.le_refl _)
    have HTX := itext_any (.slice ua D.near.length uc) D wp (by omega) (owns_rowAt onp)
    rw [hsb] at HTX
    unfold recC at HTX
    have HT2 := hide HTX
    clear HTX kb2 kbo ono bwp BO onp hsb
    have s0 := cells_at kbp 0
    have s1 := cells_at kbp 1
    have s2 := cells_at kbp 2
    have s3 := cells_at kbp 3
    have s4 := cells_at kbp 4
    have s5 := cells_at kbp 5
    have s6 := cells_at kbp 6
    have s7 := cells_at kbp 7
    simp at s0 s1 s2 s3 s4 s5 s6 s7
    rw [hwp] at s0 s1 s2 s3 s4 s5 s6 s7
    clear kbp
    go_wp2_with fail
    rw [← hwp]
    refine HT2.out.mono ?_
    rintro e wq ⟨rfl, bq⟩
    have BQ : Below w.heap.size w wq := BP.trans (bq.mono BP.size)
    clear bq BP HT2 s0 s1 s2 s3 s4 s5 s6 s7 hwp hz11
    cases O
    · go_wp2
      go_ret
      exact ⟨rfl, BQ⟩
    · obtain rfl : s' = t := hst rfl
      go_wp2
      go_ret
      exact ⟨rfl, BQ⟩
  · have hokf : recOkB x = false := by cases h : recOkB x with | false => rfl | true => exact absurd h hok
    rw [hokf] at HSO HIO
    rw [show textV x = .tuple #[.string (bs []), .bool false] from by unfold textV; rw [if_neg hok]] at HTX
    have HR := hide (fun W => ireadR_any (bs []) W (by rw [bs_size]; simp))
    generalize readD (bs []) = x0 at HR
    generalize okI (bs []) = q0 at HR
    unfold recC at HR
    generalize bs [] = tx at *
    clear hok hokf
    have s0 := cells_at k3 0
    have s1 := cells_at k3 1
    have s2 := cells_at k3 2
    have s3 := cells_at k3 3
    have s4 := cells_at k3 4
    have s5 := cells_at k3 5
    have s6 := cells_at k3 6
    have s7 := cells_at k3 7
    simp at s0 s1 s2 s3 s4 s5 s6 s7
    rw [hw3, hz1] at s0 s1 s2 s3 s4 s5 s6 s7
    go_wp2_with fail
    rw [← hw3, ← hz1]
    clear hw3 hz1
    refine HTX.out.mono ?_
    rintro e w4 ⟨rfl, b4⟩
    clear s0 s1 s2 s3 s4 s5 s6 s7 HTX
    have B4 : Below w3.heap.size w3 w4 := b4
    have BW4 : Below w.heap.size w w4 := B3.trans (b4.mono B3.size)
    clear b4
    go_wp2_with fail
    refine (HR.out _).mono ?_
    rintro e w5 ⟨u5, rfl, o5, b5⟩
    obtain ⟨ua5, uc5, rfl⟩ := owns_lenS o5
    have B5 : Below w3.heap.size w3 w5 := B4.trans (b5.mono B4.size)
    have BW5 : Below w.heap.size w w5 := BW4.trans (b5.mono BW4.size)
    clear b5 B4 BW4 HR
    have bw6 : Below w5.heap.size w5 (w5.alloc (.cells #[.int .i64 x0.area, .int .i64 x0.kind, .int .i64 x0.owner, .int .i64 x0.key, .int .i64 x0.seq, (.slice ua5 x0.near.length uc5), .int .i64 x0.cost, .bool x0.far] 26)) := (Below.refl _ _).alloc (Nat.le_refl _) _
    have k6 := heap_alloc_new w5 (.cells #[.int .i64 x0.area, .int .i64 x0.kind, .int .i64 x0.owner, .int .i64 x0.key, .int .i64 x0.seq, (.slice ua5 x0.near.length uc5), .int .i64 x0.cost, .bool x0.far] 26)
    obtain ⟨w6, hw6⟩ : ∃ W, W = w5.alloc (.cells #[.int .i64 x0.area, .int .i64 x0.kind, .int .i64 x0.owner, .int .i64 x0.key, .int .i64 x0.seq, (.slice ua5 x0.near.length uc5), .int .i64 x0.cost, .bool x0.far] 26) := ⟨_, rfl⟩
    obtain ⟨z2, hz2⟩ : ∃ z, z = w5.heap.size := ⟨_, rfl⟩
    rw [← hw6, ← hz2] at k6
    rw [← hw6] at bw6
    have B6 : Below w3.heap.size w3 w6 := B5.trans (bw6.mono B5.size)
    have BW6 : Below w.heap.size w w6 := BW5.trans (bw6.mono BW5.size)
    have o6 := owns_below o5 bw6 (Nat.le_refl _)
    have K6 := hide k6
    have O6 := hide o6
    clear o5 bw6 B5 BW5 k6 o6
    have k36 := (B6.block _ (lt_of_heap k3)).trans k3
    have K3 := hide k3
    clear k3
    have s0 := cells_at k36 0
    have s1 := cells_at k36 1
    have s2 := cells_at k36 2
    have s3 := cells_at k36 3
    have s4 := cells_at k36 4
    have s5 := cells_at k36 5
    have s6 := cells_at k36 6
    have s7 := cells_at k36 7
    simp at s0 s1 s2 s3 s4 s5 s6 s7
    have K36 := hide k36
    clear k36
    rw [hw6] at s0 s1 s2 s3 s4 s5 s6 s7
    go_wp2_with fail
    rw [← hw6, ← hz2]
    clear hw6 hz2
    refine (HSO.out _ B6).mono ?_
    rintro e w7 ⟨rfl, b7⟩
    clear s0 s1 s2 s3 s4 s5 s6 s7
    have B7 : Below w3.heap.size w3 w7 := B6.trans (b7.mono B6.size)
    have BW7 : Below w.heap.size w w7 := BW6.trans (b7.mono BW6.size)
    have k37 := (b7.block _ (lt_of_heap K36.out)).trans K36.out
    have K67 := hide ((b7.block _ (lt_of_heap K6.out)).trans K6.out)
    have O67 := hide (owns_below O6.out b7 (Nat.le_refl _))
    clear b7 B6 BW6 K36 K6 O6
    have s0 := cells_at k37 0
    have s1 := cells_at k37 1
    have s2 := cells_at k37 2
    have s3 := cells_at k37 3
    have s4 := cells_at k37 4
    have s5 := cells_at k37 5
    have s6 := cells_at k37 6
    have s7 := cells_at k37 7
    simp at s0 s1 s2 s3 s4 s5 s6 s7
    have K37 := hide k37
    clear k37
    go_wp2_with fail
    refine (HIO.out _ B7).mono ?_
    rintro e w8 ⟨rfl, b8⟩
    clear s0 s1 s2 s3 s4 s5 s6 s7
    have B8 : Below w3.heap.size w3 w8 := B7.trans (b8.mono B7.size)
    have BW8 : Below w.heap.size w w8 := BW7.trans (b8.mono BW7.size)
    clear b8 B7 BW7 K37 K67 O67 B8 HSO HIO K3 O3
    go_wp2_with fail
    refine (drawRR_any a len cap w8 (code_later HCODE.out BW8)).mono ?_
    rintro e wl ⟨t, rfl, ht, bl⟩
    have BL : Below w.heap.size w wl := BW8.trans (bl.mono BW8.size)
    clear bl
    obtain ⟨D, hD⟩ : ∃ D, D = readD t := ⟨_, rfl⟩
    obtain ⟨O, hO⟩ : ∃ O, O = okI t := ⟨_, rfl⟩
    have hDn : D.near.length ≤ 6 := by rw [hD]; exact readD_len5 t
    have HI := hide (fun W => ireadR_any t W (by omega))
    have HS := hide (fun W => sreadR_any t W (by omega))
    rw [← hD, ← hO] at HI HS
    have HX : ∃ (s' : ByteArray) (b' : Bool), textV D = .tuple #[.string s', .bool b'] ∧ (O = true → s' = t) := by
      cases hOv : O with
      | false => obtain ⟨s1, b1, e1⟩ := textV_two D; exact ⟨s1, b1, e1, fun h => by cases h⟩
      | true =>
        have h := text_back (hO.symm.trans hOv)
        rw [← hD] at h
        exact ⟨t, true, by unfold textV; rw [if_pos h.1, h.2], fun _ => rfl⟩
    obtain ⟨s', b', hsb, hst⟩ := HX
    clear hD hO
    unfold recC at *
    go_wp2_with fail
    refine (HI.out _).mono ?_
    rintro e wm ⟨u, rfl, om, bm⟩
    obtain ⟨ua, uc, rfl⟩ := owns_lenS om
    have BM : Below w.heap.size w wm := BL.trans (bm.mono BL.size)
    clear bm BL
    have bwn : Below wm.heap.size wm (wm.alloc (.cells #[.int .i64 D.area, .int .i64 D.kind, .int .i64 D.owner, .int .i64 D.key, .int .i64 D.seq, (.slice ua D.near.length uc), .int .i64 D.cost, .bool D.far] 26)) := (Below.refl _ _).alloc (Nat.le_refl _) _
    have kb := heap_alloc_new wm (.cells #[.int .i64 D.area, .int .i64 D.kind, .int .i64 D.owner, .int .i64 D.key, .int .i64 D.seq, (.slice ua D.near.length uc), .int .i64 D.cost, .bool D.far] 26)
    obtain ⟨wn, hwn⟩ : ∃ W, W = wm.alloc (.cells #[.int .i64 D.area, .int .i64 D.kind, .int .i64 D.owner, .int .i64 D.key, .int .i64 D.seq, (.slice ua D.near.length uc), .int .i64 D.cost, .bool D.far] 26) := ⟨_, rfl⟩
    obtain ⟨z9, hz9⟩ : ∃ z, z = wm.heap.size := ⟨_, rfl⟩
    rw [← hwn, ← hz9] at kb
    rw [← hwn] at bwn
    have BN : Below w.heap.size w wn := BM.trans (bwn.mono BM.size)
    have on := owns_below om bwn (Nat.le_refl _)
    have KB := hide kb
    have ON := hide on
    clear kb on om bwn BM
    go_wp2_with fail
    rw [← hwn, ← hz9]
    clear hwn hz9
    refine (HS.out _).mono ?_
    rintro e wo ⟨u2, rfl, oo, bo⟩
    obtain ⟨u2a, u2c, rfl⟩ := owns_lenS oo
    have BO : Below w.heap.size w wo := BN.trans (bo.mono BN.size)
    have kbo := (bo.block _ (lt_of_heap KB.out)).trans KB.out
    have ono := owns_below ON.out bo (Nat.le_refl _)
    clear bo BN KB ON oo
    have bwp : Below wo.heap.size wo (wo.alloc (.cells #[.int .i64 D.area, .int .i64 D.kind, .int .i64 D.owner, .int .i64 D.key, .int .i64 D.seq, (.slice u2a D.near.length u2c), .int .i64 D.cost, .bool D.far] 26)) := (Below.refl _ _).alloc (Nat.le_refl _) _
    have kb2 := heap_alloc_new wo (.cells #[.int .i64 D.area, .int .i64 D.kind, .int .i64 D.owner, .int .i64 D.key, .int .i64 D.seq, (.slice u2a D.near.length u2c), .int .i64 D.cost, .bool D.far] 26)
    obtain ⟨wp, hwp⟩ : ∃ W, W = wo.alloc (.cells #[.int .i64 D.area, .int .i64 D.kind, .int .i64 D.owner, .int .i64 D.key, .int .i64 D.seq, (.slice u2a D.near.length u2c), .int .i64 D.cost, .bool D.far] 26) := ⟨_, rfl⟩
    obtain ⟨z11, hz11⟩ : ∃ z, z = wo.heap.size := ⟨_, rfl⟩
    rw [← hwp, ← hz11] at kb2
    rw [← hwp] at bwp
    have BP : Below w.heap.size w wp := BO.trans (bwp.mono BO.size)
    have kbp := (bwp.block _ (lt_of_heap kbo)).trans kbo
    have onp := owns_below ono bwp (Nat.le_refl _)
    have HTX := itext_any (.slice ua D.near.length uc) D wp (by omega) (owns_rowAt onp)
    rw [hsb] at HTX
    unfold recC at HTX
    have HT2 := hide HTX
    clear HTX kb2 kbo ono bwp BO onp hsb
    have s0 := cells_at kbp 0
    have s1 := cells_at kbp 1
    have s2 := cells_at kbp 2
    have s3 := cells_at kbp 3
    have s4 := cells_at kbp 4
    have s5 := cells_at kbp 5
    have s6 := cells_at kbp 6
    have s7 := cells_at kbp 7
    simp at s0 s1 s2 s3 s4 s5 s6 s7
    rw [hwp] at s0 s1 s2 s3 s4 s5 s6 s7
    clear kbp
    go_wp2_with fail
    rw [← hwp]
    refine HT2.out.mono ?_
    rintro e wq ⟨rfl, bq⟩
    have BQ : Below w.heap.size w wq := BP.trans (bq.mono BP.size)
    clear bq BP HT2 s0 s1 s2 s3 s4 s5 s6 s7 hwp hz11
    cases O
    · go_wp2
      go_ret
      exact ⟨rfl, BQ⟩
    · obtain rfl : s' = t := hst rfl
      go_wp2
      go_ret
      exact ⟨rfl, BQ⟩
end Go.Proofs.Ytohjphhocdgpgaa
