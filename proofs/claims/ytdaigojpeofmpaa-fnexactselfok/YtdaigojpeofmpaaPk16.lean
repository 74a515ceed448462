/-
  spec.SelfOk: its contract.
  What the laws of lists of records want.
  laws.FnExactSelfOk: its walk.
  Slices of structs of four fields of one cell each, opened at every index.
  An argument of type laws.Net, opened.
  Slices of structs of two fields of one cell each, opened at every index.
  An argument of type laws.Record, opened.
  Slices of structs of any number of cells, opened at every index (cut out of OpenRecs).
  An argument of type []laws.Record, opened.
  An argument of type laws.Way, opened.
  An argument of type []int, opened.
  An argument of type laws.Self, opened.
-/
import Derived.Test.YtdaigojpeofmpaaPk13
import Derived.Test.YtdaigojpeofmpaaPk14
import Derived.Test.YtdaigojpeofmpaaPk15
import Derived.Test.YtdaigojpeofmpaaPk1
import Derived.Test.YtdaigojpeofmpaaPk7
import Derived.Test.YtdaigojpeofmpaaPk11
import Derived.Test.YtdaigojpeofmpaaPk12
import Derived.Test.YtdaigojpeofmpaaPk5
import Derived.Deep.RegionHeld3
import Derived.Deep.Slices
import Derived.ChangeSame
import Derived.OpenShut
import Derived.Test.YtdaigojpeofmpaaPk2
import Derived.Test.YtdaigojpeofmpaaPk4
import Derived.Test.YtdaigojpeofmpaaPk6
namespace Go.Proofs.Ytdaigojpeofmpaa
open Go.RowKit

set_option linter.unusedSimpArgs false

set_option maxRecDepth 100000 in
set_option maxHeartbeats 4000000 in
theorem sselfOk_any (v1 v2 v3 v4 : Value) (x : SelfD) (ps : List RP) (w : World) (ht : totS x ps ≤ 1048576) (hv : SelfIn w v1 v2 v3 v4 x ps w.heap.size) :
    Calls Try.prog 7 #[selfV x v1 v2 v3 v4] w fun e w' => e = .returned (.bool (selfB x ps)) ∧ Below w.heap.size w w' := by
  obtain ⟨⟨a1, c1, rfl⟩, ⟨a2, c2, rfl⟩, ⟨a3, c3, rfl⟩, ⟨a4, c4, rfl⟩⟩ := hv.shapes
  have hlL : x.net.ls.length ≤ 1048576 := by unfold totS at ht; omega
  have hlT : x.net.ts.length ≤ 1048576 := by unfold totS at ht; omega
  have hlH : x.heard.length ≤ 1048576 := by unfold totS at ht; omega
  have hlR : tot ps ≤ 1048576 := by unfold totS at ht; omega
  have HX := hide hv
  clear hv ht
  have BA : Below w.heap.size w (w.alloc (.cells #[.int .i64 x.id, .int .i64 x.boot, .int .i64 x.net.n, .slice a1 x.net.ls.length c1, .slice a2 x.net.ts.length c2, .slice a3 x.heard.length c3, .slice a4 ps.length c4] 38)) := (Below.refl _ _).alloc (Nat.le_refl _) _
  have g0 := heap_alloc_new w (.cells #[.int .i64 x.id, .int .i64 x.boot, .int .i64 x.net.n, .slice a1 x.net.ls.length c1, .slice a2 x.net.ts.length c2, .slice a3 x.heard.length c3, .slice a4 ps.length c4] 38)
  obtain ⟨r1, h1⟩ : ∃ r, r = netOkI x.net := ⟨_, rfl⟩
  obtain ⟨r2, h2⟩ : ∃ r, r = inB x.id 1 x.net.n := ⟨_, rfl⟩
  obtain ⟨r3, h3⟩ : ∃ r, r = inB x.boot 0 90 := ⟨_, rfl⟩
  obtain ⟨r4, h4⟩ : ∃ r, r = heardB x.net.ls x.id x.heard := ⟨_, rfl⟩
  obtain ⟨r5, h5⟩ : ∃ r, r = storeB (fsts ps) := ⟨_, rfl⟩
  have HS := hide (show selfB x ps = (r1 && (r2 && (r3 && (r4 && r5)))) by unfold selfB; rw [h1, h2, h3, h4, h5])
  rw [HS.out]
  have HN := hide (snetOk_any _ x.net (w.alloc (.cells #[.int .i64 x.id, .int .i64 x.boot, .int .i64 x.net.n, .slice a1 x.net.ls.length c1, .slice a2 x.net.ts.length c2, .slice a3 x.heard.length c3, .slice a4 ps.length c4] 38)) hlL hlT (HX.out.then BA).net)
  have HI1 := hide (in_any x.id 1 x.net.n)
  have HI2 := hide (in_any x.boot 0 90)
  have HHD := hide (fun W (hb : Below w.heap.size w W) (hn : r1 = true) => sheard_any _ _ _ _ x ps W hlL hlH (HX.out.then hb))
  have HST := hide (fun W (hb : Below w.heap.size w W) => sstoreOk_any _ ps W hlR (HX.out.then hb).store)
  have HHE := hide (show r1 = true → heardSB x.net.ls x.id x.heard = r4 from fun hn => by rw [h4]; exact heardSB_eq (by rw [← h1]; exact hn))
  rw [← h1] at HN
  rw [← h2] at HI1
  rw [← h3] at HI2
  skip
  rw [← h5] at HST
  have G0 := hide g0
  clear h1 h2 h3 h4 h5 HS g0
  go_enter Try.func7, Try.ntmps7
  go_wp2_with fail
  obtain ⟨w0, hw0⟩ : ∃ W, W = w.alloc (.cells #[.int .i64 x.id, .int .i64 x.boot, .int .i64 x.net.n, .slice a1 x.net.ls.length c1, .slice a2 x.net.ts.length c2, .slice a3 x.heard.length c3, .slice a4 ps.length c4] 38) := ⟨_, rfl⟩
  rw [← hw0] at BA G0 HN ⊢
  clear hw0
  refine HN.out.mono ?_
  rintro e w1 ⟨rfl, b1⟩
  have g1 := (b1.block _ (lt_of_heap G0.out)).trans G0.out
  have B1 : Below w.heap.size w w1 := BA.trans (b1.mono BA.size)
  cases r1
  · go_wp2
    go_ret
    exact ⟨rfl, B1⟩
  have s0 := cells_at g1 0
  have s1 := cells_at g1 1
  have s2 := cells_at g1 2
  have s3 := cells_at g1 3
  have s4 := cells_at g1 4
  have s5 := cells_at g1 5
  have s6 := cells_at g1 6
  simp at s0 s1 s2 s3 s4 s5 s6
  have G1 := hide g1
  clear g1 b1 HN
  go_wp2_with fail
  refine (HI1.out _).mono ?_
  rintro e w2 ⟨rfl, rfl⟩
  cases r2
  · go_wp2
    go_ret
    exact ⟨rfl, B1⟩
  go_wp2_with fail
  refine (HI2.out _).mono ?_
  rintro e w2 ⟨rfl, rfl⟩
  cases r3
  · go_wp2
    go_ret
    exact ⟨rfl, B1⟩
  go_wp2_with fail
  refine (HHD.out _ B1 (by simp)).mono ?_
  rintro e w3 ⟨rfl, b3⟩
  rw [HHE.out (by simp)]
  have g3 := (b3.block _ (lt_of_heap G1.out)).trans G1.out
  have B3 : Below w.heap.size w w3 := B1.trans (b3.mono B1.size)
  cases r4
  · clear s0 s1 s2 s3 s4 s5 s6
    go_wp2
    go_ret
    exact ⟨rfl, B3⟩
  clear s0 s1 s2 s3 s4 s5 s6
  have s6 := cells_at g3 6
  simp at s6
  clear g3 b3
  go_wp2_with fail
  refine (HST.out _ B3).mono ?_
  rintro e w4 ⟨rfl, b4⟩
  have B4 : Below w.heap.size w w4 := B3.trans (b4.mono B3.size)
  clear b4
  go_wp2
  go_ret
  exact ⟨by simp, B4⟩
end Go.Proofs.Ytdaigojpeofmpaa
namespace Go.Proofs.Ytdaigojpeofmpaa
open Go.RowKit

def totD (xs : List RecD) : Nat := (xs.map (fun x => 1 + x.near.length)).sum

theorem tot_D (ps : List RP) : tot ps = totD (fsts ps) := by simp [tot, totD, fsts, List.map_map, Function.comp_def]

theorem totD_cons (x : RecD) (xs : List RecD) : totD (x :: xs) = 1 + x.near.length + totD xs := by simp [totD]

theorem totD_append (a b : List RecD) : totD (a ++ b) = totD a + totD b := by simp [totD]

theorem totD_filter (f : RecD → Bool) (xs : List RecD) : totD (xs.filter f) ≤ totD xs := by
  induction xs with
  | nil => simp [totD]
  | cons x xs ih =>
    rw [List.filter_cons]
    split
    · rw [totD_cons, totD_cons]; omega
    · rw [totD_cons]; omega

theorem eqRecS_own (v1 v2 : Value) (ps qs : List RP) (l1 h1 l2 h2 : Nat) (w : World) (k1 : RecsOwn w l1 h1 v1 ps) (k2 : RecsOwn w l2 h2 v2 qs) (he : fsts ps = fsts qs) (hn : tot ps ≤ 1048576) (g1 : h1 ≤ w.heap.size) (g2 : h2 ≤ w.heap.size) :
    Calls Try.prog 15 #[v1, v2] w fun e w' => e = .returned (.bool true) ∧ Below w.heap.size w w' := by
  have h := eqRecordS_any v1 v2 ps qs w (k1.at.more g1) (k2.at.more g2) (Nat.le_trans (tot_len ps) hn) (fun _ hp => Nat.le_trans (tot_mem hp) hn)
  rw [decide_eq_true he] at h
  exact h

theorem toRecS_own (v : Value) (ps : List RP) (w W : World) (h0 : RecsAt w v ps w.heap.size) (hb : Below w.heap.size w W) (hn : tot ps ≤ 1048576) :
    Calls Try.prog 13 #[v] W fun e w' => ∃ x qs, e = .returned x ∧ fsts qs = fsts ps ∧ RecsOwn w' W.heap.size w'.heap.size x qs ∧ Below W.heap.size W w' :=
  toRecordS_any v ps W (Nat.le_trans (tot_len ps) hn) (fun _ hp => Nat.le_trans (tot_mem hp) hn) ((h0.later hb (Nat.le_refl _)).more hb.size)

theorem tot_eq {ps qs : List RP} (h : fsts ps = fsts qs) : tot ps = tot qs := by rw [tot_D, tot_D, h]

theorem mkE_pos (ps : List RP) : ¬ mkE 1 ps < 0 := by have := mkE_tot 1 ps; omega

theorem heldS_own (v : Value) (ps : List RP) (l h : Nat) (w : World) (k : RecsOwn w l h v (mkL 1 ps)) (hn : tot ps ≤ 1048576) (g : h ≤ w.heap.size) :
    Calls Try.prog 17 #[v, .int .i64 1] w fun e w' => e = .returned (.int .i64 (mkE 1 ps)) ∧ w = w' :=
  heldRecordS_any v ps 1 w (k.at.more g) hn (by omega) (by omega)
end Go.Proofs.Ytdaigojpeofmpaa
namespace Go.Proofs.Ytdaigojpeofmpaa
open Go.RowKit

set_option maxRecDepth 100000 in
set_option maxHeartbeats 8000000 in
theorem fnExactSelfOk_walk (v : Value) (x : SelfD) (ps : List RP) (w : World) (hx : SelfAt w v x ps w.heap.size ∧ SelfLen x ps) :
    Calls Try.prog 3 #[v] w fun e w' => e = .returned (.bool true) ∧ Below w.heap.size w w' := by
  obtain ⟨hx, hlen⟩ := hx
  obtain ⟨v1, v2, v3, v4, rfl, hi⟩ := hx.in
  obtain ⟨⟨a1, a1c, rfl⟩, ⟨a2, a2c, rfl⟩, ⟨a3, a3c, rfl⟩, ⟨a4, a4c, rfl⟩⟩ := hi.shapes
  have HX := hide hi
  have HL := hide hlen
  clear hx hi hlen
  have BA : Below w.heap.size w (w.alloc (.cells #[.int .i64 x.id, .int .i64 x.boot, .int .i64 x.net.n, .slice a1 x.net.ls.length a1c, .slice a2 x.net.ts.length a2c, .slice a3 x.heard.length a3c, .slice a4 ps.length a4c] 29)) := (Below.refl _ _).alloc (Nat.le_refl _) _
  have g0 := heap_alloc_new w (.cells #[.int .i64 x.id, .int .i64 x.boot, .int .i64 x.net.n, .slice a1 x.net.ls.length a1c, .slice a2 x.net.ts.length a2c, .slice a3 x.heard.length a3c, .slice a4 ps.length a4c] 29)
  have HSZ := hide (szSelf_any _ _ _ _ x ps 1048576 (w.alloc (.cells #[.int .i64 x.id, .int .i64 x.boot, .int .i64 x.net.n, .slice a1 x.net.ls.length a1c, .slice a2 x.net.ts.length a2c, .slice a3 x.heard.length a3c, .slice a4 ps.length a4c] 29)) HL.out (by omega) (by omega) (HX.out.then BA))
  have G0 := hide g0
  clear g0
  go_enter Try.func3, Try.ntmps3
  go_wp2_with fail
  obtain ⟨w0, hw0⟩ : ∃ W, W = w.alloc (.cells #[.int .i64 x.id, .int .i64 x.boot, .int .i64 x.net.n, .slice a1 x.net.ls.length a1c, .slice a2 x.net.ts.length a2c, .slice a3 x.heard.length a3c, .slice a4 ps.length a4c] 29) := ⟨_, rfl⟩
  rw [← hw0] at BA G0 HSZ ⊢
  clear hw0
  refine HSZ.out.mono ?_
  rintro e w1 ⟨r, rfl, hr, b1⟩
  have g1 := (b1.block _ (lt_of_heap G0.out)).trans G0.out
  have B1 : Below w.heap.size w w1 := BA.trans (b1.mono BA.size)
  clear b1 BA G0 HSZ
  rcases hr with hr | ⟨hr0, hr⟩
  · go_wp2
    go_ret
    exact ⟨rfl, B1⟩
  have hr1 : ¬ r < 0 := by omega
  have HT := hide (show totS x ps ≤ 1048576 by omega)
  clear hr hr0
  have G1 := hide g1
  have s0 := cells_at g1 0
  have s1 := cells_at g1 1
  have s2 := cells_at g1 2
  have s3 := cells_at g1 3
  have s4 := cells_at g1 4
  have s5 := cells_at g1 5
  have s6 := cells_at g1 6
  simp at s0 s1 s2 s3 s4 s5 s6
  clear g1
  have HTS := hide (fun W (hb : Below w.heap.size w W) => toSelf_any _ _ _ _ x ps W HT.out (HX.out.then hb))
  go_wp2_with fail
  refine (HTS.out _ B1).mono ?_
  rintro e w2 ⟨u1, u2, u3, u4, qs0, m1, m2, rfl, fq0, o2, b2⟩
  have B2 : Below w.heap.size w w2 := B1.trans (b2.mono B1.size)
  have G2 := hide ((b2.block _ (lt_of_heap G1.out)).trans G1.out)
  have HSP := hide (sselfOk_any _ _ _ _ x qs0 w2 (by have h := HT.out; unfold totS at h ⊢; rw [tot_eq fq0]; exact h) o2.in)
  have HSB := hide (show selfB x qs0 = selfB x ps by unfold selfB; rw [fq0])
  rw [HSB.out] at HSP
  clear b2 o2 fq0 HSB s0 s1 s2 s3 s4 s5 s6 G1 B1
  go_wp2_with fail
  refine HSP.out.mono ?_
  rintro e w3 ⟨rfl, b3⟩
  have B3 : Below w.heap.size w w3 := B2.trans (b3.mono B2.size)
  have g3 := (b3.block _ (lt_of_heap G2.out)).trans G2.out
  have G3 := hide g3
  have s0 := cells_at g3 0
  have s1 := cells_at g3 1
  have s2 := cells_at g3 2
  have s3 := cells_at g3 3
  have s4 := cells_at g3 4
  have s5 := cells_at g3 5
  have s6 := cells_at g3 6
  simp at s0 s1 s2 s3 s4 s5 s6
  clear g3 b3 HSP G2 B2
  go_wp2_with fail
  refine (HTS.out _ B3).mono ?_
  rintro e w4 ⟨y1, y2, y3, y4, qs, m1, m2, rfl, fq, o4, b4⟩
  obtain ⟨⟨y1, y1c, rfl⟩, ⟨y2, y2c, rfl⟩, ⟨y3, y3c, rfl⟩, ⟨y4, y4c, rfl⟩⟩ := o4.in.shapes
  have B4 : Below w.heap.size w w4 := B3.trans (b4.mono B3.size)
  have g4 := (b4.block _ (lt_of_heap G3.out)).trans G3.out
  have BN : Below w4.heap.size w4 (w4.alloc (.cells #[.int .i64 x.id, .int .i64 x.boot, .int .i64 x.net.n, .slice y1 x.net.ls.length y1c, .slice y2 x.net.ts.length y2c, .slice y3 x.heard.length y3c, .slice y4 qs.length y4c] 38)) := (Below.refl _ _).alloc (Nat.le_refl _) _
  have hnew := heap_alloc_new w4 (.cells #[.int .i64 x.id, .int .i64 x.boot, .int .i64 x.net.n, .slice y1 x.net.ls.length y1c, .slice y2 x.net.ts.length y2c, .slice y3 x.heard.length y3c, .slice y4 qs.length y4c] 38)
  have hold := (BN.block _ (lt_of_heap g4)).trans g4
  have HIM := hide (iselfOk_any _ _ _ _ x qs (w4.alloc (.cells #[.int .i64 x.id, .int .i64 x.boot, .int .i64 x.net.n, .slice y1 x.net.ls.length y1c, .slice y2 x.net.ts.length y2c, .slice y3 x.heard.length y3c, .slice y4 qs.length y4c] 38)) (by have h := HT.out; unfold totS at h ⊢; rw [tot_eq fq]; exact h) (o4.in.then BN))
  have HSB := hide (show selfB x qs = selfB x ps by unfold selfB; rw [fq])
  rw [HSB.out] at HIM
  have YIN := hide (o4.in.then BN)
  have FQ := hide fq
  have NEW := hide hnew
  have OLD := hide hold
  have B5 : Below w.heap.size w (w4.alloc (.cells #[.int .i64 x.id, .int .i64 x.boot, .int .i64 x.net.n, .slice y1 x.net.ls.length y1c, .slice y2 x.net.ts.length y2c, .slice y3 x.heard.length y3c, .slice y4 qs.length y4c] 38)) := B4.trans (BN.mono B4.size)
  clear b4 o4 fq HSB s0 s1 s2 s3 s4 s5 s6 G3 B3 hnew hold g4
  go_wp2_with fail
  obtain ⟨z, hz⟩ : ∃ z, z = w4.heap.size := ⟨_, rfl⟩
  obtain ⟨w5, hw5⟩ : ∃ W, W = w4.alloc (.cells #[.int .i64 x.id, .int .i64 x.boot, .int .i64 x.net.n, .slice y1 x.net.ls.length y1c, .slice y2 x.net.ts.length y2c, .slice y3 x.heard.length y3c, .slice y4 qs.length y4c] 38) := ⟨_, rfl⟩
  rw [← hw5] at HIM YIN NEW OLD B5 BN ⊢
  rw [← hz] at NEW ⊢
  clear hw5 hz
  refine HIM.out.mono ?_
  rintro e w6 ⟨rfl, b6⟩
  have B6 : Below w.heap.size w w6 := B5.trans (b6.mono B5.size)
  have g6 := (b6.block _ (lt_of_heap OLD.out)).trans OLD.out
  have m6 := (b6.block _ (lt_of_heap NEW.out)).trans NEW.out
  have YD := hide ((YIN.out.then b6).then (Below.refl w6.heap.size w6).drew)
  have s0 := cells_at g6 0
  have s1 := cells_at g6 1
  have s2 := cells_at g6 2
  have s3 := cells_at g6 3
  have s4 := cells_at g6 4
  have s5 := cells_at g6 5
  have s6 := cells_at g6 6
  simp at s0 s1 s2 s3 s4 s5 s6
  have t0 := cells_at m6 0
  have t1 := cells_at m6 1
  have t2 := cells_at m6 2
  have t3 := cells_at m6 3
  have t4 := cells_at m6 4
  have t5 := cells_at m6 5
  have t6 := cells_at m6 6
  simp at t0 t1 t2 t3 t4 t5 t6
  have hzz := lt_of_heap m6
  have hww := lt_of_heap g6
  obtain ⟨R, hR⟩ : ∃ R, R = selfB x ps := ⟨_, rfl⟩
  rw [← hR]
  have HTD := hide (HTS.out w6.drew B6.drew)
  have HEQ := hide (fun (u1 u2 u3 u4 : Value) (qs' : List RP) W (hb : Below w6.drew.heap.size w6.drew W) (hf : fsts qs' = fsts ps) (hi : SelfIn W u1 u2 u3 u4 x qs' W.heap.size) => eqSelf_any _ _ _ _ u1 u2 u3 u4 x qs qs' W (by have h := HT.out; unfold totS at h ⊢; rw [tot_eq FQ.out]; exact h) (YD.out.then hb) hi (FQ.out.trans hf.symm))
  clear hR HTS HIM YIN YD NEW OLD b6 B5 BN g6 m6
  go_wp2
  go_region_held3 (fun W => W.cell? ⟨w.heap.size, 0, none⟩ = some (.int .i64 x.id) ∧ W.cell? ⟨w.heap.size, 1, none⟩ = some (.int .i64 x.boot) ∧ W.cell? ⟨w.heap.size, 2, none⟩ = some (.int .i64 x.net.n) ∧ W.cell? ⟨w.heap.size, 3, none⟩ = some (.slice a1 x.net.ls.length a1c) ∧ W.cell? ⟨w.heap.size, 4, none⟩ = some (.slice a2 x.net.ts.length a2c) ∧ W.cell? ⟨w.heap.size, 5, none⟩ = some (.slice a3 x.heard.length a3c) ∧ W.cell? ⟨w.heap.size, 6, none⟩ = some (.slice a4 ps.length a4c) ∧ W.cell? ⟨z, 0, none⟩ = some (.int .i64 x.id) ∧ W.cell? ⟨z, 1, none⟩ = some (.int .i64 x.boot) ∧ W.cell? ⟨z, 2, none⟩ = some (.int .i64 x.net.n) ∧ W.cell? ⟨z, 3, none⟩ = some (.slice y1 x.net.ls.length y1c) ∧ W.cell? ⟨z, 4, none⟩ = some (.slice y2 x.net.ts.length y2c) ∧ W.cell? ⟨z, 5, none⟩ = some (.slice y3 x.heard.length y3c) ∧ W.cell? ⟨z, 6, none⟩ = some (.slice y4 qs.length y4c)) (first | go_keep | (refine ⟨?_, ?_, ?_, ?_, ?_, ?_, ?_, ?_, ?_, ?_, ?_, ?_, ?_, ?_⟩ <;> (rw [b8.cell (Nat.lt_of_lt_of_le (by assumption) b7.size), b7.cell (by assumption)]; assumption)) | (refine ⟨?_, ?_, ?_, ?_, ?_, ?_, ?_, ?_, ?_, ?_, ?_, ?_, ?_, ?_⟩ <;> (rw [b7.cell (by assumption)]; assumption))) (first | (go_at_call 8; refine HTD.out.mono ?_; rintro e w7 ⟨q1, q2, q3, q4, qs', m1, m2, rfl, fq', o7, b7⟩) | (go_at_call 10; refine (HEQ.out _ _ _ _ qs' _ b7 fq' o7.in).mono ?_; rintro e w8 ⟨rfl, b8⟩))
  have B7 : Below w.heap.size w w7 := B6.drew.trans (b7.mono B6.size)
  have B8 : Below w.heap.size w w8 := B7.trans (b8.mono B7.size)
  go_wp2
  go_ret
  exact ⟨rfl, B8⟩
end Go.Proofs.Ytdaigojpeofmpaa
namespace Go.Proofs.Ytdaigojpeofmpaa
open Go.RowKit Go.ChangeShapes Go.WideShapes

section
variable {H : Type} {enc : TypeId × Value → H} {P : Program} {w : World} {base : Nat} {spare : Nat → Bool} {held : Bool}

theorem add_none4 {a : Addr} (h : a.spot = none) (j : Nat) : a.add j = ⟨a.block, a.off + j, none⟩ := by
  obtain ⟨b, o, s⟩ := a
  simp at h
  subst h
  simp only [Addr.add]
  split <;> simp_all

/-- four fields of one cell -/
theorem open_four {e : TypeId} {f0 f1 f2 f3 : Field} {fuel : Nat} {cs : List Value} {x : DataW H × List MemPlace} (he : P.underlying e = some (.struct #[f0, f1, f2, f3])) (ce : P.cellsOf e = 4)
    (o0 : f0.offset = 0) (o1 : f1.offset = 1) (o2 : f2.offset = 2) (o3 : f3.offset = 3) (c0 : P.cellsOf f0.type = 1) (c1 : P.cellsOf f1.type = 1) (c2 : P.cellsOf f2.type = 1) (c3 : P.cellsOf f3.type = 1)
    (h : DataW.trod enc P w base spare held fuel e cs = some x) :
    ∃ v0 v1 v2 v3 n y0 y1 y2 y3, cs = [v0, v1, v2, v3] ∧ DataW.trod enc P w base spare held n f0.type [v0] = some y0 ∧ DataW.trod enc P w base spare held n f1.type [v1] = some y1 ∧
      DataW.trod enc P w base spare held n f2.type [v2] = some y2 ∧ DataW.trod enc P w base spare held n f3.type [v3] = some y3 := by
  obtain ⟨xs, k, hk, hxy, hcl, hxl, hf⟩ := DataW.trod_struct he h
  rw [ce] at hcl
  match xs, hxl, cs, hcl with
  | [y0, y1, y2, y3], _, [v0, v1, v2, v3], _ =>
    have g0 := hf 0 f0 rfl
    have g1 := hf 1 f1 rfl
    have g2 := hf 2 f2 rfl
    have g3 := hf 3 f3 rfl
    simp [o0, o1, o2, o3, c0, c1, c2, c3] at g0 g1 g2 g3
    exact ⟨v0, v1, v2, v3, k, y0, y1, y2, y3, rfl, g0, g1, g2, g3⟩

/-- a slice of such: each element by a reading of its four cells -/
theorem open_structs {α : Type} [Inhabited α] {encE : α → List Value} (hsz : ∀ a, (encE a).length = 4) {t e : TypeId} {fuel : Nat} {cs : List Value} {x : DataW H × List MemPlace} (ht : P.underlying t = some (.slice e)) (ce : P.cellsOf e = 4)
    (hel : ∀ fuel cs x, DataW.trod enc P w base spare held fuel e cs = some x → ∃ a : α, cs = encE a) (h : DataW.trod enc P w base spare held fuel t cs = some x) :
    ∃ v xs, cs = [v] ∧ StructsAt encE 4 w v xs w.heap.size ∧ xs.length ≤ maxLen := by
  rcases Go.Deep.open_slice ht h with ⟨h0, _⟩ | ⟨a, len, cap, m, n, D, Pl, rfl, hb, hlc, hcm, hmm, _, hx⟩
  · exact ⟨_, [], h0, ⟨none, 0, rfl, .inl rfl⟩, by simp⟩
  · have hlm : len ≤ m := by rw [hmm]; split <;> omega
    have each : ∀ i, i < len → ∃ q : α, ∀ r u, (encE q)[r]? = some u → w.cell? (a.add (i * 4 + r)) = some u := by
      intro i hi
      obtain ⟨cs', h1, h2⟩ := hx i (by omega)
      rw [ce] at h1
      obtain ⟨_, hlen, hcell⟩ := World.cells?_some h1
      obtain ⟨q, rfl⟩ := hel _ _ _ h2
      refine ⟨q, fun r u hu => ?_⟩
      have hr : r < 4 := by have := (List.getElem?_eq_some_iff.1 hu).1; rw [hsz] at this; exact this
      rw [← Go.Deep.add_add, hcell r hr, hu]
    obtain ⟨q, hq⟩ := Go.Deep.choose_lt each
    refine ⟨_, (List.range len).map q, rfl, ?_, by simp; omega⟩
    have hl : ((List.range len).map q).length = len := by simp
    unfold StructsAt RowAt
    rw [hl]
    refine ⟨_, cap, rfl, ?_⟩
    by_cases hl0 : len = 0
    · exact .inl hl0
    · right
      have hsp : a.spot = none := by
        have hu : (encE (q 0))[0]? = some ((encE (q 0))[0]'(by rw [hsz]; omega)) := List.getElem?_eq_getElem _
        have := World.cell?_spot (hq 0 (by omega) 0 _ hu)
        simpa [Addr.add] using this
      have hblk : a.block < w.heap.size := by
        have hu : (encE (q 0))[0]? = some ((encE (q 0))[0]'(by rw [hsz]; omega)) := List.getElem?_eq_getElem _
        have := World.block_lt_of_cell? w _ (hq 0 (by omega) 0 _ hu)
        simpa [Addr.add] using this
      refine ⟨a.block, a.off, by obtain ⟨b, o, s⟩ := a; simp at hsp; rw [hsp], hblk, fun j hj => ?_⟩
      have e : j = j / 4 * 4 + j % 4 := by omega
      have hd : j / 4 < len := by omega
      have hm4 : j % 4 < 4 := by omega
      have hg := flat_get hsz ((List.range len).map q) (j / 4) (j % 4) (q (j / 4)) (by simp [hd]) hm4
      have hu : (encE (q (j / 4)))[j % 4]? = some ((encE (q (j / 4)))[j % 4]'(by rw [hsz]; exact hm4)) := List.getElem?_eq_getElem _
      have := hq (j / 4) hd (j % 4) _ hu
      rw [← e, add_none4 hsp] at this
      rw [this]
      rw [← e] at hg
      simp only [List.getD_eq_getElem?_getD, hg, hu]
      rfl
end
end Go.Proofs.Ytdaigojpeofmpaa
namespace Go.Proofs.Ytdaigojpeofmpaa
open Go.RowKit Go.ChangeShapes Go.WideShapes

section
variable {H : Type} {enc : TypeId × Value → H} {w : World} {base : Nat} {spare : Nat → Bool} {held : Bool}

instance : Inhabited Lk := ⟨⟨0, 0, 0, 0⟩⟩
instance : Inhabited Th := ⟨⟨0, 0, 0, false⟩⟩

theorem open_link {fuel : Nat} {cs : List Value} {x : DataW H × List MemPlace} (h : DataW.trod enc Try.prog w base spare held fuel 133 cs = some x) : ∃ l : Lk, cs = lkE l := by
  obtain ⟨v0, v1, v2, v3, n, y0, y1, y2, y3, rfl, h0, h1, h2, h3⟩ := open_four Try.underlying133 (by kernel_rfl) rfl rfl rfl rfl (by kernel_rfl) (by kernel_rfl) (by kernel_rfl) (by kernel_rfl) h
  obtain ⟨a, ha, _⟩ := DataW.trod_int Try.underlying3 h0
  obtain ⟨b, hb, _⟩ := DataW.trod_int Try.underlying3 h1
  obtain ⟨c, hc, _⟩ := DataW.trod_int Try.underlying3 h2
  obtain ⟨r, hr, _⟩ := DataW.trod_int Try.underlying3 h3
  exact ⟨⟨a, b, c, r⟩, by cases ha; cases hb; cases hc; cases hr; rfl⟩

theorem open_thing {fuel : Nat} {cs : List Value} {x : DataW H × List MemPlace} (h : DataW.trod enc Try.prog w base spare held fuel 135 cs = some x) : ∃ l : Th, cs = thE l := by
  obtain ⟨v0, v1, v2, v3, n, y0, y1, y2, y3, rfl, h0, h1, h2, h3⟩ := open_four Try.underlying135 (by kernel_rfl) rfl rfl rfl rfl (by kernel_rfl) (by kernel_rfl) (by kernel_rfl) (by kernel_rfl) h
  obtain ⟨a, ha, _⟩ := DataW.trod_int Try.underlying3 h0
  obtain ⟨b, hb, _⟩ := DataW.trod_int Try.underlying3 h1
  obtain ⟨c, hc, _⟩ := DataW.trod_int Try.underlying3 h2
  obtain ⟨r, hr, _⟩ := DataW.trod_bool Try.underlying4 h3
  exact ⟨⟨a, b, c, r⟩, by cases ha; cases hb; cases hc; cases hr; rfl⟩

set_option maxRecDepth 100000 in
theorem open_linkV {r : Reach} {b0 : Nat} {v : Value} {d : DataW H} {ps : List MemPlace} (hval : Value.okWide Try.prog w r b0 133 v) (hd : DataW.Trod enc Try.prog w base spare held 133 v d ps) :
    ∃ l : Lk, v = lkV l := by
  obtain ⟨cs, rfl, _⟩ := okWide_struct Try.underlying133 hval
  obtain ⟨fuel, hf⟩ := hd
  obtain ⟨l, hl⟩ := open_link hf
  refine ⟨l, ?_⟩
  obtain ⟨c⟩ := cs
  simp only [Value.cells] at hl
  unfold lkV
  rw [hl]
  rfl

set_option maxRecDepth 100000 in
theorem open_net {r : Reach} {b0 : Nat} {v : Value} {d : DataW H} {ps : List MemPlace} (hval : Value.okWide Try.prog w r b0 25 v) (hd : DataW.Trod enc Try.prog w base spare held 25 v d ps) :
    ∃ x : NetD, NetAt w v x w.heap.size ∧ (Lit.int .i64 x.n).wf = true ∧ x.ls.length ≤ maxLen ∧ x.ts.length ≤ maxLen := by
  obtain ⟨cs, rfl, hcs⟩ := okWide_struct Try.underlying25 hval
  obtain ⟨fuel, hf⟩ := hd
  obtain ⟨xs, k, hk, hxy, hcl, hxl, hfl⟩ := DataW.trod_struct Try.underlying25 hf
  have hc3 : Try.prog.cellsOf 25 = 3 := by kernel_rfl
  rw [hc3] at hcs hcl
  obtain ⟨v0, v1, v2, rfl⟩ : ∃ v0 v1 v2, cs = #[v0, v1, v2] := by
    obtain ⟨l⟩ := cs
    match l, hcs with
    | [v0, v1, v2], _ => exact ⟨v0, v1, v2, rfl⟩
  have g0 := hfl 0 _ rfl
  have g1 := hfl 1 _ rfl
  have g2 := hfl 2 _ rfl
  have k0 : Try.prog.cellsOf 3 = 1 := by kernel_rfl
  have k1 : Try.prog.cellsOf 22 = 1 := by kernel_rfl
  have k2 : Try.prog.cellsOf 23 = 1 := by kernel_rfl
  match xs, hxl with
  | [y0, y1, y2], _ =>
    simp [Value.cells, k0, k1, k2] at g0 g1 g2
    obtain ⟨n, hn, _, wn⟩ := DataW.trod_int Try.underlying3 g0
    obtain ⟨u1, ls, e1, hl, hll⟩ := open_structs (encE := lkE) lkE_len Try.underlying22 (by kernel_rfl) (fun _ _ _ h => open_link h) g1
    obtain ⟨u2, ts, e2, ht, htl⟩ := open_structs (encE := thE) thE_len Try.underlying23 (by kernel_rfl) (fun _ _ _ h => open_thing h) g2
    cases hn
    cases e1
    cases e2
    exact ⟨⟨n, ls, ts⟩, ⟨v1, v2, rfl, hl, ht⟩, wn, hll, htl⟩
end
end Go.Proofs.Ytdaigojpeofmpaa
namespace Go.Proofs.Ytdaigojpeofmpaa
open Go.RowKit Go.ChangeShapes Go.WideShapes

section
variable {H : Type} {enc : TypeId × Value → H} {P : Program} {w : World} {base : Nat} {spare : Nat → Bool} {held : Bool}

theorem add_none {a : Addr} (h : a.spot = none) (j : Nat) : a.add j = ⟨a.block, a.off + j, none⟩ := by
  obtain ⟨b, o, s⟩ := a
  simp at h
  subst h
  simp only [Addr.add]
  split <;> simp_all

/-- two fields of one cell -/
theorem open_two {e : TypeId} {f0 f1 : Field} {fuel : Nat} {cs : List Value} {x : DataW H × List MemPlace} (he : P.underlying e = some (.struct #[f0, f1])) (ce : P.cellsOf e = 2)
    (o0 : f0.offset = 0) (o1 : f1.offset = 1) (c0 : P.cellsOf f0.type = 1) (c1 : P.cellsOf f1.type = 1)
    (h : DataW.trod enc P w base spare held fuel e cs = some x) :
    ∃ v0 v1 n y0 y1, cs = [v0, v1] ∧ DataW.trod enc P w base spare held n f0.type [v0] = some y0 ∧ DataW.trod enc P w base spare held n f1.type [v1] = some y1 := by
  obtain ⟨xs, k, hk, hxy, hcl, hxl, hf⟩ := DataW.trod_struct he h
  rw [ce] at hcl
  match xs, hxl, cs, hcl with
  | [y0, y1], _, [v0, v1], _ =>
    have g0 := hf 0 f0 rfl
    have g1 := hf 1 f1 rfl
    simp [o0, o1, c0, c1] at g0 g1
    exact ⟨v0, v1, k, y0, y1, rfl, g0, g1⟩

/-- a slice of such: each element by a reading of its two cells -/
theorem open_structs2 {α : Type} [Inhabited α] {encE : α → List Value} (hsz : ∀ a, (encE a).length = 2) {t e : TypeId} {fuel : Nat} {cs : List Value} {x : DataW H × List MemPlace} (ht : P.underlying t = some (.slice e)) (ce : P.cellsOf e = 2)
    (hel : ∀ fuel cs x, DataW.trod enc P w base spare held fuel e cs = some x → ∃ a : α, cs = encE a) (h : DataW.trod enc P w base spare held fuel t cs = some x) :
    ∃ v xs, cs = [v] ∧ StructsAt encE 2 w v xs w.heap.size ∧ xs.length ≤ maxLen := by
  rcases Go.Deep.open_slice ht h with ⟨h0, _⟩ | ⟨a, len, cap, m, n, D, Pl, rfl, hb, hlc, hcm, hmm, _, hx⟩
  · exact ⟨_, [], h0, ⟨none, 0, rfl, .inl rfl⟩, by simp⟩
  · have hlm : len ≤ m := by rw [hmm]; split <;> omega
    have each : ∀ i, i < len → ∃ q : α, ∀ r u, (encE q)[r]? = some u → w.cell? (a.add (i * 2 + r)) = some u := by
      intro i hi
      obtain ⟨cs', h1, h2⟩ := hx i (by omega)
      rw [ce] at h1
      obtain ⟨_, hlen, hcell⟩ := World.cells?_some h1
      obtain ⟨q, rfl⟩ := hel _ _ _ h2
      refine ⟨q, fun r u hu => ?_⟩
      have hr : r < 2 := by have := (List.getElem?_eq_some_iff.1 hu).1; rw [hsz] at this; exact this
      rw [← Go.Deep.add_add, hcell r hr, hu]
    obtain ⟨q, hq⟩ := Go.Deep.choose_lt each
    refine ⟨_, (List.range len).map q, rfl, ?_, by simp; omega⟩
    have hl : ((List.range len).map q).length = len := by simp
    unfold StructsAt RowAt
    rw [hl]
    refine ⟨_, cap, rfl, ?_⟩
    by_cases hl0 : len = 0
    · exact .inl hl0
    · right
      have hsp : a.spot = none := by
        have hu : (encE (q 0))[0]? = some ((encE (q 0))[0]'(by rw [hsz]; omega)) := List.getElem?_eq_getElem _
        have := World.cell?_spot (hq 0 (by omega) 0 _ hu)
        simpa [Addr.add] using this
      have hblk : a.block < w.heap.size := by
        have hu : (encE (q 0))[0]? = some ((encE (q 0))[0]'(by rw [hsz]; omega)) := List.getElem?_eq_getElem _
        have := World.block_lt_of_cell? w _ (hq 0 (by omega) 0 _ hu)
        simpa [Addr.add] using this
      refine ⟨a.block, a.off, by obtain ⟨b, o, s⟩ := a; simp at hsp; rw [hsp], hblk, fun j hj => ?_⟩
      have e : j = j / 2 * 2 + j % 2 := by omega
      have hd : j / 2 < len := by omega
      have hm4 : j % 2 < 2 := by omega
      have hg := flat_get hsz ((List.range len).map q) (j / 2) (j % 2) (q (j / 2)) (by simp [hd]) hm4
      have hu : (encE (q (j / 2)))[j % 2]? = some ((encE (q (j / 2)))[j % 2]'(by rw [hsz]; exact hm4)) := List.getElem?_eq_getElem _
      have := hq (j / 2) hd (j % 2) _ hu
      rw [← e, add_none hsp] at this
      rw [this]
      rw [← e] at hg
      simp only [List.getD_eq_getElem?_getD, hg, hu]
      rfl
end
end Go.Proofs.Ytdaigojpeofmpaa
namespace Go.Proofs.Ytdaigojpeofmpaa
open Go.RowKit Go.ChangeShapes Go.WideShapes

section
variable {H : Type} {enc : TypeId × Value → H} {w : World} {base : Nat} {spare : Nat → Bool} {held : Bool}

theorem open_near {fuel : Nat} {cs : List Value} {x : DataW H × List MemPlace} (h : DataW.trod enc Try.prog w base spare held fuel 145 cs = some x) : ∃ l : Nr, cs = nrE l := by
  obtain ⟨v0, v1, n, y0, y1, rfl, h0, h1⟩ := open_two Try.underlying145 (by kernel_rfl) rfl rfl (by kernel_rfl) (by kernel_rfl) h
  obtain ⟨a, ha, _⟩ := DataW.trod_int Try.underlying3 h0
  obtain ⟨b, hb, _⟩ := DataW.trod_int Try.underlying3 h1
  exact ⟨⟨a, b⟩, by cases ha; cases hb; rfl⟩

set_option maxRecDepth 100000 in
theorem open_record {r : Reach} {b0 : Nat} {v : Value} {d : DataW H} {ps : List MemPlace} (hval : Value.okWide Try.prog w r b0 69 v) (hd : DataW.Trod enc Try.prog w base spare held 69 v d ps) :
    ∃ x : RecD, RecAt w v x w.heap.size ∧ x.near.length ≤ maxLen := by
  obtain ⟨cs, rfl, hcs⟩ := okWide_struct Try.underlying69 hval
  obtain ⟨fuel, hf⟩ := hd
  obtain ⟨xs, k, hk, hxy, hcl, hxl, hfl⟩ := DataW.trod_struct Try.underlying69 hf
  have hc8 : Try.prog.cellsOf 69 = 8 := by kernel_rfl
  rw [hc8] at hcs hcl
  obtain ⟨v0, v1, v2, v3, v4, v5, v6, v7, rfl⟩ : ∃ v0 v1 v2 v3 v4 v5 v6 v7, cs = #[v0, v1, v2, v3, v4, v5, v6, v7] := by
    obtain ⟨l⟩ := cs
    match l, hcs with
    | [v0, v1, v2, v3, v4, v5, v6, v7], _ => exact ⟨v0, v1, v2, v3, v4, v5, v6, v7, rfl⟩
  have g0 := hfl 0 _ rfl
  have g1 := hfl 1 _ rfl
  have g2 := hfl 2 _ rfl
  have g3 := hfl 3 _ rfl
  have g4 := hfl 4 _ rfl
  have g5 := hfl 5 _ rfl
  have g6 := hfl 6 _ rfl
  have g7 := hfl 7 _ rfl
  have k0 : Try.prog.cellsOf 3 = 1 := by kernel_rfl
  have k1 : Try.prog.cellsOf 67 = 1 := by kernel_rfl
  have k2 : Try.prog.cellsOf 4 = 1 := by kernel_rfl
  match xs, hxl with
  | [y0, y1, y2, y3, y4, y5, y6, y7], _ =>
    simp [Value.cells, k0, k1, k2] at g0 g1 g2 g3 g4 g5 g6 g7
    obtain ⟨z0, e0, _⟩ := DataW.trod_int Try.underlying3 g0
    obtain ⟨z1, e1, _⟩ := DataW.trod_int Try.underlying3 g1
    obtain ⟨z2, e2, _⟩ := DataW.trod_int Try.underlying3 g2
    obtain ⟨z3, e3, _⟩ := DataW.trod_int Try.underlying3 g3
    obtain ⟨z4, e4, _⟩ := DataW.trod_int Try.underlying3 g4
    obtain ⟨u5, ns, e5, hn, hnl⟩ := open_structs2 (encE := nrE) nrE_len Try.underlying67 (by kernel_rfl) (fun _ _ _ h => open_near h) g5
    obtain ⟨z6, e6, _⟩ := DataW.trod_int Try.underlying3 g6
    obtain ⟨z7, e7, _⟩ := DataW.trod_bool Try.underlying4 g7
    cases e0
    cases e1
    cases e2
    cases e3
    cases e4
    cases e5
    cases e6
    cases e7
    exact ⟨⟨z0, z1, z2, z3, z4, ns, z6, z7⟩, ⟨v5, rfl, hn⟩, hnl⟩
end
end Go.Proofs.Ytdaigojpeofmpaa
namespace Go.Proofs.Ytdaigojpeofmpaa
open Go.RowKit Go.ChangeShapes Go.WideShapes

section
variable {H : Type} {enc : TypeId × Value → H} {P : Program} {w : World} {base : Nat} {spare : Nat → Bool} {held : Bool}

/-- a slice of structs of sz cells: each element by a reading of its cells -/
theorem open_structsN {α : Type} [Inhabited α] {encE : α → List Value} {sz : Nat} (hpos : 0 < sz) {R : α → Prop} (hsz : ∀ a, (encE a).length = sz) {t e : TypeId} {fuel : Nat} {cs : List Value} {x : DataW H × List MemPlace} (ht : P.underlying t = some (.slice e)) (ce : P.cellsOf e = sz)
    (hel : ∀ fuel cs x, DataW.trod enc P w base spare held fuel e cs = some x → ∃ a : α, cs = encE a ∧ R a) (h : DataW.trod enc P w base spare held fuel t cs = some x) :
    ∃ v xs, cs = [v] ∧ StructsAt encE sz w v xs w.heap.size ∧ xs.length ≤ maxLen ∧ ∀ a ∈ xs, R a := by
  rcases Go.Deep.open_slice ht h with ⟨h0, _⟩ | ⟨a, len, cap, m, n, D, Pl, rfl, hb, hlc, hcm, hmm, _, hx⟩
  · exact ⟨_, [], h0, ⟨none, 0, rfl, .inl rfl⟩, by simp, by simp⟩
  · have hlm : len ≤ m := by rw [hmm]; split <;> omega
    have each : ∀ i, i < len → ∃ q : α, R q ∧ ∀ r u, (encE q)[r]? = some u → w.cell? (a.add (i * sz + r)) = some u := by
      intro i hi
      obtain ⟨cs', h1, h2⟩ := hx i (by omega)
      rw [ce] at h1
      obtain ⟨_, hlen, hcell⟩ := World.cells?_some h1
      obtain ⟨q, rfl, hR⟩ := hel _ _ _ h2
      refine ⟨q, hR, fun r u hu => ?_⟩
      have hr : r < sz := by have := (List.getElem?_eq_some_iff.1 hu).1; rw [hsz] at this; exact this
      rw [← Go.Deep.add_add, hcell r hr, hu]
    obtain ⟨q, hq⟩ := Go.Deep.choose_lt each
    refine ⟨_, (List.range len).map q, rfl, ?_, by simp; omega, fun a ha => by obtain ⟨i, hi, rfl⟩ := List.mem_map.1 ha; exact (hq i (by simpa using hi)).1⟩
    have hl : ((List.range len).map q).length = len := by simp
    unfold StructsAt RowAt
    rw [hl]
    refine ⟨_, cap, rfl, ?_⟩
    by_cases hl0 : len = 0
    · exact .inl hl0
    · right
      have hsp : a.spot = none := by
        have hu : (encE (q 0))[0]? = some ((encE (q 0))[0]'(by rw [hsz]; exact hpos)) := List.getElem?_eq_getElem _
        have := World.cell?_spot ((hq 0 (by omega)).2 0 _ hu)
        simpa [Addr.add] using this
      have hblk : a.block < w.heap.size := by
        have hu : (encE (q 0))[0]? = some ((encE (q 0))[0]'(by rw [hsz]; exact hpos)) := List.getElem?_eq_getElem _
        have := World.block_lt_of_cell? w _ ((hq 0 (by omega)).2 0 _ hu)
        simpa [Addr.add] using this
      refine ⟨a.block, a.off, by obtain ⟨b, o, s⟩ := a; simp at hsp; rw [hsp], hblk, fun j hj => ?_⟩
      have e : j = j / sz * sz + j % sz := by rw [Nat.mul_comm]; exact (Nat.div_add_mod j sz).symm
      have hd : j / sz < len := Nat.div_lt_of_lt_mul (by rw [Nat.mul_comm]; exact hj)
      have hm4 : j % sz < sz := Nat.mod_lt _ hpos
      have hg := flat_get hsz ((List.range len).map q) (j / sz) (j % sz) (q (j / sz)) (by simp [hd]) hm4
      have hu : (encE (q (j / sz)))[j % sz]? = some ((encE (q (j / sz)))[j % sz]'(by rw [hsz]; exact hm4)) := List.getElem?_eq_getElem _
      have := (hq (j / sz) hd).2 (j % sz) _ hu
      rw [← e, add_none hsp] at this
      rw [this]
      rw [← e] at hg
      simp only [List.getD_eq_getElem?_getD, hg, hu]
      rfl
end
end Go.Proofs.Ytdaigojpeofmpaa
namespace Go.Proofs.Ytdaigojpeofmpaa
open Go.RowKit Go.ChangeShapes Go.WideShapes

instance : Inhabited RP := ⟨zP⟩

section
variable {H : Type} {enc : TypeId × Value → H} {w : World} {base : Nat} {spare : Nat → Bool} {held : Bool}

set_option maxRecDepth 100000 in
theorem open_recCells {fuel : Nat} {cs : List Value} {x : DataW H × List MemPlace} (hf : DataW.trod enc Try.prog w base spare held fuel 69 cs = some x) :
    ∃ p : RP, cs = encP p ∧ (NearsAt w p.2 p.1.near w.heap.size ∧ p.1.near.length ≤ maxLen) := by
  obtain ⟨xs, k, hk, hxy, hcl, hxl, hfl⟩ := DataW.trod_struct Try.underlying69 hf
  have hc8 : Try.prog.cellsOf 69 = 8 := by kernel_rfl
  rw [hc8] at hcl
  obtain ⟨v0, v1, v2, v3, v4, v5, v6, v7, rfl⟩ : ∃ v0 v1 v2 v3 v4 v5 v6 v7, cs = [v0, v1, v2, v3, v4, v5, v6, v7] := by
    match cs, hcl with
    | [v0, v1, v2, v3, v4, v5, v6, v7], _ => exact ⟨v0, v1, v2, v3, v4, v5, v6, v7, rfl⟩
  have g0 := hfl 0 _ rfl
  have g1 := hfl 1 _ rfl
  have g2 := hfl 2 _ rfl
  have g3 := hfl 3 _ rfl
  have g4 := hfl 4 _ rfl
  have g5 := hfl 5 _ rfl
  have g6 := hfl 6 _ rfl
  have g7 := hfl 7 _ rfl
  have k0 : Try.prog.cellsOf 3 = 1 := by kernel_rfl
  have k1 : Try.prog.cellsOf 67 = 1 := by kernel_rfl
  have k2 : Try.prog.cellsOf 4 = 1 := by kernel_rfl
  match xs, hxl with
  | [y0, y1, y2, y3, y4, y5, y6, y7], _ =>
    simp [k0, k1, k2] at g0 g1 g2 g3 g4 g5 g6 g7
    obtain ⟨z0, e0, _⟩ := DataW.trod_int Try.underlying3 g0
    obtain ⟨z1, e1, _⟩ := DataW.trod_int Try.underlying3 g1
    obtain ⟨z2, e2, _⟩ := DataW.trod_int Try.underlying3 g2
    obtain ⟨z3, e3, _⟩ := DataW.trod_int Try.underlying3 g3
    obtain ⟨z4, e4, _⟩ := DataW.trod_int Try.underlying3 g4
    obtain ⟨u5, ns, e5, hn, hnl⟩ := open_structs2 (encE := nrE) nrE_len Try.underlying67 (by kernel_rfl) (fun _ _ _ h => open_near h) g5
    obtain ⟨z6, e6, _⟩ := DataW.trod_int Try.underlying3 g6
    obtain ⟨z7, e7, _⟩ := DataW.trod_bool Try.underlying4 g7
    cases e0
    cases e1
    cases e2
    cases e3
    cases e4
    cases e5
    cases e6
    cases e7
    exact ⟨(⟨z0, z1, z2, z3, z4, ns, z6, z7⟩, v5), rfl, hn, hnl⟩

set_option maxRecDepth 100000 in
theorem open_records {r : Reach} {b0 : Nat} {v : Value} {d : DataW H} {ps : List MemPlace} (hval : Value.okWide Try.prog w r b0 27 v) (hd : DataW.Trod enc Try.prog w base spare held 27 v d ps) :
    ∃ qs : List RP, RecsAt w v qs w.heap.size ∧ qs.length ≤ maxLen ∧ ∀ p ∈ qs, p.1.near.length ≤ maxLen := by
  obtain ⟨a0, len0, cap0, rfl⟩ := okWide_slice Try.underlying27 hval
  obtain ⟨fuel, hf⟩ := hd
  obtain ⟨u, xs, hu, hs, hl, hR⟩ := open_structsN (encE := encP) (sz := 8) (by omega) encP_len Try.underlying27 (by kernel_rfl) (fun _ _ _ h => open_recCells h) hf
  simp [Value.cells] at hu
  subst hu
  exact ⟨xs, ⟨hs, fun p hp => (hR p hp).1⟩, hl, fun p hp => (hR p hp).2⟩
end
end Go.Proofs.Ytdaigojpeofmpaa
namespace Go.Proofs.Ytdaigojpeofmpaa
open Go.RowKit Go.ChangeShapes Go.WideShapes

section
variable {H : Type} {enc : TypeId × Value → H} {w : World} {base : Nat} {spare : Nat → Bool} {held : Bool}

theorem open_hop {fuel : Nat} {cs : List Value} {x : DataW H × List MemPlace} (h : DataW.trod enc Try.prog w base spare held fuel 3 cs = some x) : ∃ z : Int, cs = intE z ∧ True := by
  obtain ⟨a, ha, _⟩ := DataW.trod_int Try.underlying3 h
  exact ⟨a, ha, trivial⟩

end
end Go.Proofs.Ytdaigojpeofmpaa
namespace Go.Proofs.Ytdaigojpeofmpaa
open Go.RowKit Go.ChangeShapes Go.WideShapes

section
variable {H : Type} {enc : TypeId × Value → H} {w : World} {base : Nat} {spare : Nat → Bool} {held : Bool}

set_option maxRecDepth 100000 in
theorem open_intL {r : Reach} {b0 : Nat} {v : Value} {d : DataW H} {ps : List MemPlace} (hval : Value.okWide Try.prog w r b0 26 v) (hd : DataW.Trod enc Try.prog w base spare held 26 v d ps) :
    ∃ l : List Int, HopsAt w v l w.heap.size ∧ l.length ≤ maxLen := by
  obtain ⟨a0, len0, cap0, rfl⟩ := okWide_slice Try.underlying26 hval
  obtain ⟨fuel, hf⟩ := hd
  obtain ⟨u, xs, hu, hs, hl, _⟩ := open_structsN (encE := intE) (sz := 1) (R := fun _ => True) (by omega) intE_len Try.underlying26 (by kernel_rfl) (fun _ _ _ h => open_hop h) hf
  simp [Value.cells] at hu
  subst hu
  exact ⟨xs, hs, hl⟩
end
end Go.Proofs.Ytdaigojpeofmpaa
namespace Go.Proofs.Ytdaigojpeofmpaa
open Go.RowKit Go.ChangeShapes Go.WideShapes

section
variable {H : Type} {enc : TypeId × Value → H} {w : World} {base : Nat} {spare : Nat → Bool} {held : Bool}

set_option maxRecDepth 100000 in
theorem open_netCells {fuel : Nat} {cs : List Value} {x : DataW H × List MemPlace} (hf : DataW.trod enc Try.prog w base spare held fuel 25 cs = some x) :
    ∃ (y : NetD) (v1 v2 : Value), cs = [.int .i64 y.n, v1, v2] ∧ LinksAt w v1 y.ls w.heap.size ∧ ThingsAt w v2 y.ts w.heap.size ∧ y.ls.length ≤ maxLen ∧ y.ts.length ≤ maxLen := by
  obtain ⟨xs, k, hk, hxy, hcl, hxl, hfl⟩ := DataW.trod_struct Try.underlying25 hf
  have hc3 : Try.prog.cellsOf 25 = 3 := by kernel_rfl
  rw [hc3] at hcl
  obtain ⟨v0, v1, v2, rfl⟩ : ∃ v0 v1 v2, cs = [v0, v1, v2] := by
    match cs, hcl with
    | [v0, v1, v2], _ => exact ⟨v0, v1, v2, rfl⟩
  have g0 := hfl 0 _ rfl
  have g1 := hfl 1 _ rfl
  have g2 := hfl 2 _ rfl
  have k0 : Try.prog.cellsOf 3 = 1 := by kernel_rfl
  have k1 : Try.prog.cellsOf 22 = 1 := by kernel_rfl
  have k2 : Try.prog.cellsOf 23 = 1 := by kernel_rfl
  match xs, hxl with
  | [y0, y1, y2], _ =>
    simp [k0, k1, k2] at g0 g1 g2
    obtain ⟨n, hn, _⟩ := DataW.trod_int Try.underlying3 g0
    obtain ⟨u1, ls, e1, hl, hll⟩ := open_structs (encE := lkE) lkE_len Try.underlying22 (by kernel_rfl) (fun _ _ _ h => open_link h) g1
    obtain ⟨u2, ts, e2, ht, htl⟩ := open_structs (encE := thE) thE_len Try.underlying23 (by kernel_rfl) (fun _ _ _ h => open_thing h) g2
    cases hn
    cases e1
    cases e2
    exact ⟨⟨n, ls, ts⟩, v1, v2, rfl, hl, ht, hll, htl⟩

set_option maxRecDepth 100000 in
theorem open_self {r : Reach} {b0 : Nat} {v : Value} {d : DataW H} {ps : List MemPlace} (hval : Value.okWide Try.prog w r b0 29 v) (hd : DataW.Trod enc Try.prog w base spare held 29 v d ps) :
    ∃ (x : SelfD) (qs : List RP), SelfAt w v x qs w.heap.size ∧ SelfLen x qs := by
  obtain ⟨cs, rfl, hcs⟩ := okWide_struct Try.underlying29 hval
  obtain ⟨fuel, hf⟩ := hd
  obtain ⟨xs, k, hk, hxy, hcl, hxl, hfl⟩ := DataW.trod_struct Try.underlying29 hf
  have hc7 : Try.prog.cellsOf 29 = 7 := by kernel_rfl
  rw [hc7] at hcs hcl
  obtain ⟨v0, v1, v2, v3, v4, v5, v6, rfl⟩ : ∃ v0 v1 v2 v3 v4 v5 v6, cs = #[v0, v1, v2, v3, v4, v5, v6] := by
    obtain ⟨l⟩ := cs
    match l, hcs with
    | [v0, v1, v2, v3, v4, v5, v6], _ => exact ⟨v0, v1, v2, v3, v4, v5, v6, rfl⟩
  have g0 := hfl 0 _ rfl
  have g1 := hfl 1 _ rfl
  have g2 := hfl 2 _ rfl
  have g3 := hfl 3 _ rfl
  have g4 := hfl 4 _ rfl
  have k0 : Try.prog.cellsOf 3 = 1 := by kernel_rfl
  have k1 : Try.prog.cellsOf 25 = 3 := by kernel_rfl
  have k2 : Try.prog.cellsOf 26 = 1 := by kernel_rfl
  have k3 : Try.prog.cellsOf 27 = 1 := by kernel_rfl
  match xs, hxl with
  | [y0, y1, y2, y3, y4], _ =>
    simp [Value.cells, k0, k1, k2, k3] at g0 g1 g2 g3 g4
    obtain ⟨id, e0, _⟩ := DataW.trod_int Try.underlying3 g0
    obtain ⟨bt, e1, _⟩ := DataW.trod_int Try.underlying3 g1
    obtain ⟨nt, u2, u3, e2, h2, h3, l2, l3⟩ := open_netCells g2
    obtain ⟨u5, hs, e3, h5, l5, _⟩ := open_structsN (encE := intE) (sz := 1) (R := fun _ => True) (by omega) intE_len Try.underlying26 (by kernel_rfl) (fun _ _ _ h => open_hop h) g3
    obtain ⟨u6, qs, e4, h6, l6, h7⟩ := open_structsN (encE := encP) (sz := 8) (R := fun p : RP => NearsAt w p.2 p.1.near w.heap.size ∧ p.1.near.length ≤ maxLen) (by omega) encP_len Try.underlying27 (by kernel_rfl) (fun _ _ _ h => open_recCells h) g4
    cases e0
    cases e1
    cases e2
    cases e3
    cases e4
    exact ⟨⟨id, bt, nt, hs⟩, qs, ⟨v3, v4, v5, v6, rfl, h2, h3, h5, ⟨h6, fun p hp => (h7 p hp).1⟩⟩, l2, l3, l5, l6, fun p hp => (h7 p hp).2⟩
end
end Go.Proofs.Ytdaigojpeofmpaa
