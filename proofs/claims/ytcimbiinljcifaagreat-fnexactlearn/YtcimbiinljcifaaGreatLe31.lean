/-
  laws.FnExactLearn: its walk.
-/
import Derived.Test.YtcimbiinljcifaaGreatLe29
import Derived.Test.YtcimbiinljcifaaGreatLe30
import Derived.Deep.RegionHeld3
namespace Go.Proofs.YtcimbiinljcifaaGreat
open Go.RowKit

theorem learnS_eq (x : SelfD) {qs ps rs ts : List RP} (h1 : fsts qs = fsts ps) (h2 : fsts rs = fsts ts) : learnS x qs rs = learnS x ps ts := by unfold learnS selfB; rw [h1, h2]

theorem learnN_eq (x : SelfD) {qs ps rs ts : List RP} (h1 : fsts qs = fsts ps) (h2 : fsts rs = fsts ts) : learnN x qs rs = learnN x ps ts := by unfold learnN selfB; rw [h1, h2]

theorem learnS_tot (x : SelfD) (ps ts : List RP) : totD (learnS x ps ts) ≤ tot ps + tot ts := by
  unfold learnS
  split
  · rw [← fold_fsts, ← tot_D]
    exact tot_fold ps ts
  · rw [← tot_D]
    omega

theorem learnN_tot (x : SelfD) (ps ts : List RP) : totD (learnN x ps ts) ≤ tot ts := by
  unfold learnN
  split
  · rw [tot_D]
    exact tot_news _ _
  · simp [totD]

theorem SelfSrc.high {W : World} {hi hi' : Nat} {v1 v2 v3 v4 : Value} {x : SelfD} {ps : List RP} (h : SelfSrc W hi v1 v2 v3 v4 x ps) (hh : hi ≤ hi') : SelfSrc W hi' v1 v2 v3 v4 x ps :=
  ⟨h.links, fun k e => Nat.lt_of_lt_of_le (h.ltop k e) hh, h.things, fun k e => Nat.lt_of_lt_of_le (h.ttop k e) hh, h.heard, fun k e => Nat.lt_of_lt_of_le (h.htop k e) hh, h.store.wide hh⟩

set_option maxRecDepth 100000 in
set_option maxHeartbeats 16000000 in
theorem fnExactLearn_walk (v : Value) (x : SelfD) (ps : List RP) (v5 : Value) (ts : List RP) (w : World) (hx : SelfAt w v x ps w.heap.size ∧ SelfLen x ps) (hx1 : RecsAt w v5 ts w.heap.size ∧ ts.length ≤ maxLen ∧ ∀ p ∈ ts, p.1.near.length ≤ maxLen) :
    Calls Tryz.prog 4 #[v, v5] w fun e w' => e = .returned (.bool true) ∧ Below w.heap.size w w' := by
  obtain ⟨hx, hlen⟩ := hx
  obtain ⟨hx1, hl1, hm1⟩ := hx1
  obtain ⟨v1, v2, v3, v4, rfl, hi⟩ := hx.in
  obtain ⟨⟨a1, a1c, rfl⟩, ⟨a2, a2c, rfl⟩, ⟨a3, a3c, rfl⟩, ⟨a4, a4c, rfl⟩⟩ := hi.shapes
  obtain ⟨l1, l1c, rfl⟩ := hx1.shape
  have HX := hide hi
  have HX1 := hide hx1
  have HL := hide hlen
  have HL1 := hide (And.intro hl1 hm1)
  clear hx hi hlen hx1 hl1 hm1
  have BA : Below w.heap.size w (w.alloc (.cells #[.int .i64 x.id, .int .i64 x.boot, .int .i64 x.net.n, .slice a1 x.net.ls.length a1c, .slice a2 x.net.ts.length a2c, .slice a3 x.heard.length a3c, .slice a4 ps.length a4c] 49)) := (Below.refl _ _).alloc (Nat.le_refl _) _
  have g0 := heap_alloc_new w (.cells #[.int .i64 x.id, .int .i64 x.boot, .int .i64 x.net.n, .slice a1 x.net.ls.length a1c, .slice a2 x.net.ts.length a2c, .slice a3 x.heard.length a3c, .slice a4 ps.length a4c] 49)
  have HSZ := hide (szSelf_any _ _ _ _ x ps 1048576 (w.alloc (.cells #[.int .i64 x.id, .int .i64 x.boot, .int .i64 x.net.n, .slice a1 x.net.ls.length a1c, .slice a2 x.net.ts.length a2c, .slice a3 x.heard.length a3c, .slice a4 ps.length a4c] 49)) HL.out (by omega) (by omega) (HX.out.then BA))
  have hlt0 : w.heap.size < (w.alloc (.cells #[.int .i64 x.id, .int .i64 x.boot, .int .i64 x.net.n, .slice a1 x.net.ls.length a1c, .slice a2 x.net.ts.length a2c, .slice a3 x.heard.length a3c, .slice a4 ps.length a4c] 49)).heap.size := by simp
  have G0 := hide g0
  clear g0
  go_enter Tryz.func4, Tryz.ntmps4
  go_wp2_with fail
  obtain ⟨w0, hw0⟩ : ∃ W, W = w.alloc (.cells #[.int .i64 x.id, .int .i64 x.boot, .int .i64 x.net.n, .slice a1 x.net.ls.length a1c, .slice a2 x.net.ts.length a2c, .slice a3 x.heard.length a3c, .slice a4 ps.length a4c] 49) := ⟨_, rfl⟩
  rw [← hw0] at BA G0 HSZ hlt0 ⊢
  clear hw0
  refine HSZ.out.mono ?_
  rintro e w1 ⟨r, rfl, hr, b1⟩
  have BW0 := BA
  have KB0 := G0
  clear BA G0 HSZ
  have KB1 := hide ((b1.block _ (lt_of_heap KB0.out)).trans KB0.out)
  have hs1 : w0.heap.size ≤ w1.heap.size := b1.size
  have BW1 : Below w.heap.size w w1 := BW0.trans (b1.mono (by omega))
  clear KB0 BW0 b1
  rcases hr with hr | ⟨hr0, hr⟩
  · go_wp2
    go_ret
    exact ⟨rfl, BW1⟩
  have hr1 : ¬ r < 0 := by omega
  have HRR := hide hr
  have hr2 : r ≤ 1048576 := by omega
  clear hr
  have HSR := hide (szRecordS_any (.slice l1 ts.length l1c) ts r w1 HL1.out.1 HL1.out.2 hr0 hr2 (HX1.out.then BW1))
  go_wp2_with fail
  refine HSR.out.mono ?_
  rintro e w2 ⟨r2, rfl, hq, b2⟩
  clear HSR
  have KB2 := hide ((b2.block _ (lt_of_heap KB1.out)).trans KB1.out)
  have hs2 : w1.heap.size ≤ w2.heap.size := b2.size
  have BW2 : Below w.heap.size w w2 := BW1.trans (b2.mono (by omega))
  clear KB1 BW1 b2
  rcases hq with hq | ⟨hq0, hq⟩
  · go_wp2
    go_ret
    exact ⟨rfl, BW2⟩
  have hq1 : ¬ r2 < 0 := by omega
  have HT := hide (show totS x ps + tot ts ≤ 1048576 by have := HRR.out; omega)
  clear hq hq0 hr0 hr2 HRR hr1
  have HTS := hide (fun W (hb : Below w.heap.size w W) => toSelf_any _ _ _ _ x ps W (by have := HT.out; omega) (HX.out.then hb))
  have HTR := hide (fun W (hb : Below w.heap.size w W) => toRecS_own _ ts w W HX1.out hb (by have := HT.out; omega))
  have HSP := hide (fun (v1 v2 v3 v4 v5 : Value) (qs rs : List RP) (W : World) (hi : Nat) (f1 : fsts qs = fsts ps) (f2 : fsts rs = fsts ts) (h1 : SelfSrc W hi v1 v2 v3 v4 x qs) (h2 : RecsIn W hi v5 rs) (hh : hi ≤ W.heap.size) => by have h := slearn_any v1 v2 v3 v4 v5 x qs rs hi W h1 h2 hh (by have := HT.out; unfold totS at *; rw [tot_eq f1, tot_eq f2]; exact this); rw [learnS_eq x f1 f2, learnN_eq x f1 f2] at h; exact h)
  have HIM := hide (fun (v1 v2 v3 v4 v5 : Value) (qs rs : List RP) (W : World) (hi : Nat) (f1 : fsts qs = fsts ps) (f2 : fsts rs = fsts ts) (h1 : SelfSrc W hi v1 v2 v3 v4 x qs) (h2 : RecsIn W hi v5 rs) (hh : hi ≤ W.heap.size) => by have h := ilearn_any v1 v2 v3 v4 v5 x qs rs hi W h1 h2 hh (by have := HT.out; unfold totS at *; rw [tot_eq f1, tot_eq f2]; exact this); rw [learnS_eq x f1 f2, learnN_eq x f1 f2] at h; exact h)
  have HTG := hide (fun (qs : List RP) (h : fsts qs = learnS x ps ts) => show totS x qs ≤ 1048576 by have h1 := learnS_tot x ps ts; rw [← h, ← tot_D] at h1; have := HT.out; unfold totS at *; omega)
  have HTN := hide (fun (qs : List RP) (h : fsts qs = learnN x ps ts) => show tot qs ≤ 1048576 by have h1 := learnN_tot x ps ts; rw [← h, ← tot_D] at h1; have := HT.out; unfold totS at *; omega)
  clear HX HX1 HL HL1
  have cB0 := cells_at KB2.out 0
  have cB1 := cells_at KB2.out 1
  have cB2 := cells_at KB2.out 2
  have cB3 := cells_at KB2.out 3
  have cB4 := cells_at KB2.out 4
  have cB5 := cells_at KB2.out 5
  have cB6 := cells_at KB2.out 6
  simp at cB0 cB1 cB2 cB3 cB4 cB5 cB6
  have HT3 := hide (HTS.out _ BW2)
  go_wp2_with fail
  refine HT3.out.mono ?_
  rintro e w3 ⟨A1, A2, A3, A4, qA, m1A, m2A, rfl, fA, oA, b3⟩
  obtain ⟨⟨A1, A1c, rfl⟩, ⟨A2, A2c, rfl⟩, ⟨A3, A3c, rfl⟩, ⟨A4, A4c, rfl⟩⟩ := oA.in.shapes
  clear HT3
  have KB3 := hide ((b3.block _ (lt_of_heap KB2.out)).trans KB2.out)
  have hs3 : w2.heap.size ≤ w3.heap.size := b3.size
  have BW3 : Below w.heap.size w w3 := BW2.trans (b3.mono (by omega))
  clear KB2 BW2 b3
  have KA3 := hide oA
  have FA := hide fA
  clear oA fA
  clear cB0 cB1 cB2 cB3 cB4 cB5 cB6
  have HT4 := hide (HTR.out _ BW3)
  go_wp2_with fail
  refine HT4.out.mono ?_
  rintro e w4 ⟨vL, qL, rfl, fL, oL, b4⟩
  obtain ⟨L, Lc, rfl⟩ := owns_lenS oL.row
  clear HT4
  have KB4 := hide ((b4.block _ (lt_of_heap KB3.out)).trans KB3.out)
  have KA4 := hide (KA3.out.below b4 (by omega))
  have hs4 : w3.heap.size ≤ w4.heap.size := b4.size
  have BW4 : Below w.heap.size w w4 := BW3.trans (b4.mono (by omega))
  clear KB3 KA3 BW3 b4
  have KL4 := hide oL
  have FL := hide fL
  clear oL fL
  have HT5 := hide (HSP.out _ _ _ _ _ qA qL w4 w4.heap.size FA.out FL.out (KA4.out.src.high (by omega)) (KL4.out.in.wide (by omega)) (Nat.le_refl _))
  go_wp2_with fail
  refine HT5.out.mono ?_
  rintro e w5 ⟨W1, W2, W3, W4, vN, qW, qN, m1W, m2W, rfl, fW, fN, oW, oN, b5⟩
  obtain ⟨⟨W1, W1c, rfl⟩, ⟨W2, W2c, rfl⟩, ⟨W3, W3c, rfl⟩, ⟨W4, W4c, rfl⟩⟩ := oW.in.shapes
  obtain ⟨N, Nc, rfl⟩ := owns_lenS oN.row
  clear HT5
  have KB5 := hide ((b5.block _ (lt_of_heap KB4.out)).trans KB4.out)
  have KA5 := hide (KA4.out.below b5 (by omega))
  have KL5 := hide (KL4.out.below b5 (by omega))
  have hs5 : w4.heap.size ≤ w5.heap.size := b5.size
  have BW5 : Below w.heap.size w w5 := BW4.trans (b5.mono (by omega))
  clear KB4 KA4 KL4 BW4 b5
  have hm1W := oW.o1
  have hm2W := oW.o2
  have hm3W := oW.o3
  have KW5 := hide oW
  have KN5 := hide oN
  have FW := hide fW
  have FN := hide fN
  clear oW oN fW fN
  clear KA5
  clear KL5
  obtain ⟨w6, hw6⟩ : ∃ W, W = w5.alloc (.cells #[.int .i64 x.id, .int .i64 x.boot, .int .i64 x.net.n, .slice W1 x.net.ls.length W1c, .slice W2 x.net.ts.length W2c, .slice W3 x.heard.length W3c, .slice W4 qW.length W4c] 31) := ⟨_, rfl⟩
  have b6 : Below w5.heap.size w5 w6 := by rw [hw6]; exact (Below.refl _ _).alloc (Nat.le_refl _) _
  have kb : w6.heap[w5.heap.size]? = some (.cells #[.int .i64 x.id, .int .i64 x.boot, .int .i64 x.net.n, .slice W1 x.net.ls.length W1c, .slice W2 x.net.ts.length W2c, .slice W3 x.heard.length W3c, .slice W4 qW.length W4c] 31) := by rw [hw6]; exact heap_alloc_new w5 _
  have hlt6 : w5.heap.size < w6.heap.size := by rw [hw6]; simp
  have hb06 : w.heap.size < w5.heap.size := by omega
  have hn06 : ¬ w.heap.size = w5.heap.size := by omega
  have cB0 := cells_at KB5.out 0
  have cB1 := cells_at KB5.out 1
  have cB2 := cells_at KB5.out 2
  have cB3 := cells_at KB5.out 3
  have cB4 := cells_at KB5.out 4
  have cB5 := cells_at KB5.out 5
  have cB6 := cells_at KB5.out 6
  simp at cB0 cB1 cB2 cB3 cB4 cB5 cB6
  have BWa : Below w.heap.size w w6 := BW5.trans (b6.mono (by omega))
  have HT0 := hide (HTS.out _ BWa)
  go_wp2_with fail
  rw [← hw6]
  obtain ⟨zW, hzW⟩ : ∃ z, z = w5.heap.size := ⟨_, rfl⟩
  have hzW1 : w5.heap.size ≤ zW := by omega
  have hzW2 : zW < w6.heap.size := by omega
  rw [← hzW] at kb ⊢
  clear hzW hw6 BWa
  clear cB0 cB1 cB2 cB3 cB4 cB5 cB6
  have KB6 := hide ((b6.block _ (lt_of_heap KB5.out)).trans KB5.out)
  have KW6 := hide (KW5.out.below b6 (by omega))
  have KN6 := hide (KN5.out.below b6 (by omega))
  have hs6 : w5.heap.size ≤ w6.heap.size := b6.size
  have BW6 : Below w.heap.size w w6 := BW5.trans (b6.mono (by omega))
  clear KB5 KW5 KN5 BW5 b6
  have KZ6 := hide kb
  clear kb
  refine HT0.out.mono ?_
  rintro e w7 ⟨X1, X2, X3, X4, qX, m1X, m2X, rfl, fX, oX, b7⟩
  obtain ⟨⟨X1, X1c, rfl⟩, ⟨X2, X2c, rfl⟩, ⟨X3, X3c, rfl⟩, ⟨X4, X4c, rfl⟩⟩ := oX.in.shapes
  clear HT0
  have KB7 := hide ((b7.block _ (lt_of_heap KB6.out)).trans KB6.out)
  have KW7 := hide (KW6.out.below b7 (by omega))
  have KN7 := hide (KN6.out.below b7 (by omega))
  have KZ7 := hide ((b7.block _ (lt_of_heap KZ6.out)).trans KZ6.out)
  have hs7 : w6.heap.size ≤ w7.heap.size := b7.size
  have BW7 : Below w.heap.size w w7 := BW6.trans (b7.mono (by omega))
  clear KB6 KW6 KN6 KZ6 BW6 b7
  have KX7 := hide oX
  have FX := hide fX
  clear oX fX
  obtain ⟨w8, hw8⟩ : ∃ W, W = w7.alloc (.cells #[.int .i64 x.id, .int .i64 x.boot, .int .i64 x.net.n, .slice X1 x.net.ls.length X1c, .slice X2 x.net.ts.length X2c, .slice X3 x.heard.length X3c, .slice X4 qX.length X4c] 31) := ⟨_, rfl⟩
  have b8 : Below w7.heap.size w7 w8 := by rw [hw8]; exact (Below.refl _ _).alloc (Nat.le_refl _) _
  have kb : w8.heap[w7.heap.size]? = some (.cells #[.int .i64 x.id, .int .i64 x.boot, .int .i64 x.net.n, .slice X1 x.net.ls.length X1c, .slice X2 x.net.ts.length X2c, .slice X3 x.heard.length X3c, .slice X4 qX.length X4c] 31) := by rw [hw8]; exact heap_alloc_new w7 _
  have hlt8 : w7.heap.size < w8.heap.size := by rw [hw8]; simp
  have hb08 : w.heap.size < w7.heap.size := by omega
  have hn08 : ¬ w.heap.size = w7.heap.size := by omega
  have BWa : Below w.heap.size w w8 := BW7.trans (b8.mono (by omega))
  have HT0 := hide (HTR.out _ BWa)
  go_wp2_with fail
  rw [← hw8]
  obtain ⟨zX, hzX⟩ : ∃ z, z = w7.heap.size := ⟨_, rfl⟩
  have hzX1 : w7.heap.size ≤ zX := by omega
  have hzX2 : zX < w8.heap.size := by omega
  rw [← hzX] at kb ⊢
  clear hzX hw8 BWa
  have KB8 := hide ((b8.block _ (lt_of_heap KB7.out)).trans KB7.out)
  have KW8 := hide (KW7.out.below b8 (by omega))
  have KN8 := hide (KN7.out.below b8 (by omega))
  have KZ8 := hide ((b8.block _ (lt_of_heap KZ7.out)).trans KZ7.out)
  have KX8 := hide (KX7.out.below b8 (by omega))
  have hs8 : w7.heap.size ≤ w8.heap.size := b8.size
  have BW8 : Below w.heap.size w w8 := BW7.trans (b8.mono (by omega))
  clear KB7 KW7 KN7 KZ7 KX7 BW7 b8
  have KV8 := hide kb
  clear kb
  refine HT0.out.mono ?_
  rintro e w9 ⟨vR, qR, rfl, fR, oR, b9⟩
  obtain ⟨R, Rc, rfl⟩ := owns_lenS oR.row
  clear HT0
  have KB9 := hide ((b9.block _ (lt_of_heap KB8.out)).trans KB8.out)
  have KW9 := hide (KW8.out.below b9 (by omega))
  have KN9 := hide (KN8.out.below b9 (by omega))
  have KZ9 := hide ((b9.block _ (lt_of_heap KZ8.out)).trans KZ8.out)
  have KX9 := hide (KX8.out.below b9 (by omega))
  have KV9 := hide ((b9.block _ (lt_of_heap KV8.out)).trans KV8.out)
  have hs9 : w8.heap.size ≤ w9.heap.size := b9.size
  have BW9 : Below w.heap.size w w9 := BW8.trans (b9.mono (by omega))
  clear KB8 KW8 KN8 KZ8 KX8 KV8 BW8 b9
  have KR9 := hide oR
  have FR := hide fR
  clear oR fR
  have cV0 := cells_at KV9.out 0
  have cV1 := cells_at KV9.out 1
  have cV2 := cells_at KV9.out 2
  have cV3 := cells_at KV9.out 3
  have cV4 := cells_at KV9.out 4
  have cV5 := cells_at KV9.out 5
  have cV6 := cells_at KV9.out 6
  simp at cV0 cV1 cV2 cV3 cV4 cV5 cV6
  have HT10 := hide (HIM.out _ _ _ _ _ qX qR w9 w9.heap.size FX.out FR.out (KX9.out.src.high (by omega)) (KR9.out.in.wide (by omega)) (Nat.le_refl _))
  go_wp2_with fail
  refine HT10.out.mono ?_
  rintro e w10 ⟨G1, G2, G3, G4, vM, qG, qM, m1G, m2G, rfl, fG, fM, oG, oM, sp, b10⟩
  obtain ⟨⟨G1, G1c, rfl⟩, ⟨G2, G2c, rfl⟩, ⟨G3, G3c, rfl⟩, ⟨G4, G4c, rfl⟩⟩ := oG.in.shapes
  obtain ⟨M, Mc, rfl⟩ := owns_lenS oM.row
  clear HT10
  have KB10 := hide ((b10.block _ (lt_of_heap KB9.out)).trans KB9.out)
  have KW10 := hide (KW9.out.below b10 (by omega))
  have KN10 := hide (KN9.out.below b10 (by omega))
  have KZ10 := hide ((b10.block _ (lt_of_heap KZ9.out)).trans KZ9.out)
  have KX10 := hide (KX9.out.below b10 (by omega))
  have KV10 := hide ((b10.block _ (lt_of_heap KV9.out)).trans KV9.out)
  have KR10 := hide (KR9.out.below b10 (by omega))
  have hs10 : w9.heap.size ≤ w10.heap.size := b10.size
  have BW10 : Below w.heap.size w w10 := BW9.trans (b10.mono (by omega))
  clear KB9 KW9 KN9 KZ9 KX9 KV9 KR9 BW9 b10
  have hm1G := oG.o1
  have hm2G := oG.o2
  have hm3G := oG.o3
  have KG10 := hide oG
  have KM10 := hide oM
  have FG := hide fG
  have FM := hide fM
  have SPG := hide sp
  clear sp
  clear oG oM fG fM
  clear cV0 cV1 cV2 cV3 cV4 cV5 cV6
  obtain ⟨w11, hw11⟩ : ∃ W, W = w10.alloc (.cells #[.int .i64 x.id, .int .i64 x.boot, .int .i64 x.net.n, .slice G1 x.net.ls.length G1c, .slice G2 x.net.ts.length G2c, .slice G3 x.heard.length G3c, .slice G4 qG.length G4c] 31) := ⟨_, rfl⟩
  have b11 : Below w10.heap.size w10 w11 := by rw [hw11]; exact (Below.refl _ _).alloc (Nat.le_refl _) _
  have kb : w11.heap[w10.heap.size]? = some (.cells #[.int .i64 x.id, .int .i64 x.boot, .int .i64 x.net.n, .slice G1 x.net.ls.length G1c, .slice G2 x.net.ts.length G2c, .slice G3 x.heard.length G3c, .slice G4 qG.length G4c] 31) := by rw [hw11]; exact heap_alloc_new w10 _
  have hlt11 : w10.heap.size < w11.heap.size := by rw [hw11]; simp
  have hb011 : w.heap.size < w10.heap.size := by omega
  have hn011 : ¬ w.heap.size = w10.heap.size := by omega
  have cZ0 := cells_at KZ10.out 0
  have cZ1 := cells_at KZ10.out 1
  have cZ2 := cells_at KZ10.out 2
  have cZ3 := cells_at KZ10.out 3
  have cZ4 := cells_at KZ10.out 4
  have cZ5 := cells_at KZ10.out 5
  have cZ6 := cells_at KZ10.out 6
  simp at cZ0 cZ1 cZ2 cZ3 cZ4 cZ5 cZ6
  have BWa : Below w.heap.size w w11 := BW10.trans (b11.mono (by omega))
  have HT0 := hide (eqSelf_any _ _ _ _ _ _ _ _ x qG qW w11 (HTG.out qG FG.out) ((KG10.out.below b11 (by omega)).in.more (by omega)) ((KW10.out.below b11 (by omega)).in.more (by omega)) (FG.out.trans FW.out.symm))
  have hzWm : zW < w10.heap.size := by omega
  have hzWn : ¬ zW = w10.heap.size := by omega
  go_wp2_with fail
  rw [← hw11]
  obtain ⟨zG, hzG⟩ : ∃ z, z = w10.heap.size := ⟨_, rfl⟩
  have hzG1 : w10.heap.size ≤ zG := by omega
  have hzG2 : zG < w11.heap.size := by omega
  rw [← hzG] at kb ⊢
  clear hzG hw11 BWa hzWm hzWn
  clear cZ0 cZ1 cZ2 cZ3 cZ4 cZ5 cZ6
  have KB11 := hide ((b11.block _ (lt_of_heap KB10.out)).trans KB10.out)
  have KW11 := hide (KW10.out.below b11 (by omega))
  have KN11 := hide (KN10.out.below b11 (by omega))
  have KZ11 := hide ((b11.block _ (lt_of_heap KZ10.out)).trans KZ10.out)
  have KX11 := hide (KX10.out.below b11 (by omega))
  have KV11 := hide ((b11.block _ (lt_of_heap KV10.out)).trans KV10.out)
  have KR11 := hide (KR10.out.below b11 (by omega))
  have KG11 := hide (KG10.out.below b11 (by omega))
  have KM11 := hide (KM10.out.below b11 (by omega))
  have hs11 : w10.heap.size ≤ w11.heap.size := b11.size
  have BW11 : Below w.heap.size w w11 := BW10.trans (b11.mono (by omega))
  clear KB10 KW10 KN10 KZ10 KX10 KV10 KR10 KG10 KM10 BW10 b11
  have KU11 := hide kb
  clear kb
  refine HT0.out.mono ?_
  rintro e w12 ⟨rfl, b12⟩
  clear HT0
  have KB12 := hide ((b12.block _ (lt_of_heap KB11.out)).trans KB11.out)
  have KW12 := hide (KW11.out.below b12 (by omega))
  have KN12 := hide (KN11.out.below b12 (by omega))
  have KZ12 := hide ((b12.block _ (lt_of_heap KZ11.out)).trans KZ11.out)
  have KX12 := hide (KX11.out.below b12 (by omega))
  have KV12 := hide ((b12.block _ (lt_of_heap KV11.out)).trans KV11.out)
  have KR12 := hide (KR11.out.below b12 (by omega))
  have KG12 := hide (KG11.out.below b12 (by omega))
  have KM12 := hide (KM11.out.below b12 (by omega))
  have KU12 := hide ((b12.block _ (lt_of_heap KU11.out)).trans KU11.out)
  have hs12 : w11.heap.size ≤ w12.heap.size := b12.size
  have BW12 : Below w.heap.size w w12 := BW11.trans (b12.mono (by omega))
  clear KB11 KW11 KN11 KZ11 KX11 KV11 KR11 KG11 KM11 KU11 BW11 b12
  have HT13 := hide (eqRecS_own _ _ _ _ _ _ _ _ w12 KM12.out KN12.out (FM.out.trans FN.out.symm) (HTN.out qM FM.out) (by omega) (by omega))
  go_wp2_with fail
  refine HT13.out.mono ?_
  rintro e w13 ⟨rfl, b13⟩
  clear HT13
  have KB13 := hide ((b13.block _ (lt_of_heap KB12.out)).trans KB12.out)
  have KW13 := hide (KW12.out.below b13 (by omega))
  have KN13 := hide (KN12.out.below b13 (by omega))
  have KZ13 := hide ((b13.block _ (lt_of_heap KZ12.out)).trans KZ12.out)
  have KX13 := hide (KX12.out.below b13 (by omega))
  have KV13 := hide ((b13.block _ (lt_of_heap KV12.out)).trans KV12.out)
  have KR13 := hide (KR12.out.below b13 (by omega))
  have KG13 := hide (KG12.out.below b13 (by omega))
  have KM13 := hide (KM12.out.below b13 (by omega))
  have KU13 := hide ((b13.block _ (lt_of_heap KU12.out)).trans KU12.out)
  have hs13 : w12.heap.size ≤ w13.heap.size := b13.size
  have BW13 : Below w.heap.size w w13 := BW12.trans (b13.mono (by omega))
  clear KB12 KW12 KN12 KZ12 KX12 KV12 KR12 KG12 KM12 KU12 BW12 b13
  have cV0 := cells_at KV13.out 0
  have cV1 := cells_at KV13.out 1
  have cV2 := cells_at KV13.out 2
  have cV3 := cells_at KV13.out 3
  have cV4 := cells_at KV13.out 4
  have cV5 := cells_at KV13.out 5
  have cV6 := cells_at KV13.out 6
  have cB0 := cells_at KB13.out 0
  have cB1 := cells_at KB13.out 1
  have cB2 := cells_at KB13.out 2
  have cB3 := cells_at KB13.out 3
  have cB4 := cells_at KB13.out 4
  have cB5 := cells_at KB13.out 5
  have cB6 := cells_at KB13.out 6
  simp at cV0 cV1 cV2 cV3 cV4 cV5 cV6 cB0 cB1 cB2 cB3 cB4 cB5 cB6
  have hzXw : zX < w13.heap.size := lt_of_heap KV13.out
  have hbw : w.heap.size < w13.heap.size := lt_of_heap KB13.out
  have BD : Below w13.heap.size w13 w13.drew := (Below.refl _ _).drew
  have HT0 := hide (HTS.out w13.drew BW13.drew)
  have XD := hide ((KX13.out.below BD (by omega)).in.more (show w7.heap.size ≤ w13.drew.heap.size from by show w7.heap.size ≤ w13.heap.size; omega))
  have HEQ := hide (fun (u1 u2 u3 u4 : Value) (qs : List RP) W (hb : Below w13.drew.heap.size w13.drew W) (hf : fsts qs = fsts ps) (hi : SelfIn W u1 u2 u3 u4 x qs W.heap.size) => eqSelf_any _ _ _ _ u1 u2 u3 u4 x qX qs W (by have h := HT.out; unfold totS at h ⊢; rw [tot_eq FX.out]; omega) (XD.out.then hb) hi (FX.out.trans hf.symm))
  go_wp2
  go_region_held3 (fun W => W.cell? ⟨zX, 0, none⟩ = some (.int .i64 x.id) ∧ W.cell? ⟨zX, 1, none⟩ = some (.int .i64 x.boot) ∧ W.cell? ⟨zX, 2, none⟩ = some (.int .i64 x.net.n) ∧ W.cell? ⟨zX, 3, none⟩ = some (.slice X1 x.net.ls.length X1c) ∧ W.cell? ⟨zX, 4, none⟩ = some (.slice X2 x.net.ts.length X2c) ∧ W.cell? ⟨zX, 5, none⟩ = some (.slice X3 x.heard.length X3c) ∧ W.cell? ⟨zX, 6, none⟩ = some (.slice X4 qX.length X4c) ∧ W.cell? ⟨w.heap.size, 0, none⟩ = some (.int .i64 x.id) ∧ W.cell? ⟨w.heap.size, 1, none⟩ = some (.int .i64 x.boot) ∧ W.cell? ⟨w.heap.size, 2, none⟩ = some (.int .i64 x.net.n) ∧ W.cell? ⟨w.heap.size, 3, none⟩ = some (.slice a1 x.net.ls.length a1c) ∧ W.cell? ⟨w.heap.size, 4, none⟩ = some (.slice a2 x.net.ts.length a2c) ∧ W.cell? ⟨w.heap.size, 5, none⟩ = some (.slice a3 x.heard.length a3c) ∧ W.cell? ⟨w.heap.size, 6, none⟩ = some (.slice a4 ps.length a4c)) (first | go_keep | (refine ⟨?_, ?_, ?_, ?_, ?_, ?_, ?_, ?_, ?_, ?_, ?_, ?_, ?_, ?_⟩ <;> (rw [b15.cell (Nat.lt_of_lt_of_le (by assumption) b14'.size), b14'.cell (by assumption)]; assumption)) | (refine ⟨?_, ?_, ?_, ?_, ?_, ?_, ?_, ?_, ?_, ?_, ?_, ?_, ?_, ?_⟩ <;> (rw [b14'.cell (by assumption)]; assumption))) (first | (go_at_call 16; refine HT0.out.mono ?_; rintro e w14 ⟨Y1, Y2, Y3, Y4, qY, m1Y, m2Y, rfl, fY, oY, b14'⟩) | (go_at_call 18; refine (HEQ.out _ _ _ _ qY _ b14' fY oY.in).mono ?_; rintro e w15 ⟨rfl, b15⟩))
  have b14 : Below w13.heap.size w13 w14 := BD.trans b14'
  clear cV0 cV1 cV2 cV3 cV4 cV5 cV6 cB0 cB1 cB2 cB3 cB4 cB5 cB6
  clear HT0 XD HEQ BD b14' oY fY
  have KB14 := hide ((b14.block _ (lt_of_heap KB13.out)).trans KB13.out)
  have KW14 := hide (KW13.out.below b14 (by omega))
  have KN14 := hide (KN13.out.below b14 (by omega))
  have KZ14 := hide ((b14.block _ (lt_of_heap KZ13.out)).trans KZ13.out)
  have KX14 := hide (KX13.out.below b14 (by omega))
  have KV14 := hide ((b14.block _ (lt_of_heap KV13.out)).trans KV13.out)
  have KR14 := hide (KR13.out.below b14 (by omega))
  have KG14 := hide (KG13.out.below b14 (by omega))
  have KM14 := hide (KM13.out.below b14 (by omega))
  have KU14 := hide ((b14.block _ (lt_of_heap KU13.out)).trans KU13.out)
  have hs14 : w13.heap.size ≤ w14.heap.size := b14.size
  have BW14 : Below w.heap.size w w14 := BW13.trans (b14.mono (by omega))
  clear KB13 KW13 KN13 KZ13 KX13 KV13 KR13 KG13 KM13 KU13 BW13 b14
  have KB15 := hide ((b15.block _ (lt_of_heap KB14.out)).trans KB14.out)
  have KW15 := hide (KW14.out.below b15 (by omega))
  have KN15 := hide (KN14.out.below b15 (by omega))
  have KZ15 := hide ((b15.block _ (lt_of_heap KZ14.out)).trans KZ14.out)
  have KX15 := hide (KX14.out.below b15 (by omega))
  have KV15 := hide ((b15.block _ (lt_of_heap KV14.out)).trans KV14.out)
  have KR15 := hide (KR14.out.below b15 (by omega))
  have KG15 := hide (KG14.out.below b15 (by omega))
  have KM15 := hide (KM14.out.below b15 (by omega))
  have KU15 := hide ((b15.block _ (lt_of_heap KU14.out)).trans KU14.out)
  have hs15 : w14.heap.size ≤ w15.heap.size := b15.size
  have BW15 : Below w.heap.size w w15 := BW14.trans (b15.mono (by omega))
  clear KB14 KW14 KN14 KZ14 KX14 KV14 KR14 KG14 KM14 KU14 BW14 b15
  have HT16 := hide (HTR.out _ BW15)
  go_wp2_with fail
  refine HT16.out.mono ?_
  rintro e w16 ⟨vQ, qQ, rfl, fQ, oQ, b16⟩
  obtain ⟨Q, Qc, rfl⟩ := owns_lenS oQ.row
  clear HT16
  have KB16 := hide ((b16.block _ (lt_of_heap KB15.out)).trans KB15.out)
  have KW16 := hide (KW15.out.below b16 (by omega))
  have KN16 := hide (KN15.out.below b16 (by omega))
  have KZ16 := hide ((b16.block _ (lt_of_heap KZ15.out)).trans KZ15.out)
  have KX16 := hide (KX15.out.below b16 (by omega))
  have KV16 := hide ((b16.block _ (lt_of_heap KV15.out)).trans KV15.out)
  have KR16 := hide (KR15.out.below b16 (by omega))
  have KG16 := hide (KG15.out.below b16 (by omega))
  have KM16 := hide (KM15.out.below b16 (by omega))
  have KU16 := hide ((b16.block _ (lt_of_heap KU15.out)).trans KU15.out)
  have hs16 : w15.heap.size ≤ w16.heap.size := b16.size
  have BW16 : Below w.heap.size w w16 := BW15.trans (b16.mono (by omega))
  clear KB15 KW15 KN15 KZ15 KX15 KV15 KR15 KG15 KM15 KU15 BW15 b16
  have KQ16 := hide oQ
  have FQ := hide fQ
  clear oQ fQ
  have HT17 := hide (eqRecS_own _ _ _ _ _ _ _ _ w16 KR16.out KQ16.out (FR.out.trans FQ.out.symm) (by rw [tot_eq FR.out]; have := HT.out; omega) (by omega) (by omega))
  go_wp2_with fail
  refine HT17.out.mono ?_
  rintro e w17 ⟨rfl, b17⟩
  clear HT17
  have KB17 := hide ((b17.block _ (lt_of_heap KB16.out)).trans KB16.out)
  have KW17 := hide (KW16.out.below b17 (by omega))
  have KN17 := hide (KN16.out.below b17 (by omega))
  have KZ17 := hide ((b17.block _ (lt_of_heap KZ16.out)).trans KZ16.out)
  have KX17 := hide (KX16.out.below b17 (by omega))
  have KV17 := hide ((b17.block _ (lt_of_heap KV16.out)).trans KV16.out)
  have KR17 := hide (KR16.out.below b17 (by omega))
  have KG17 := hide (KG16.out.below b17 (by omega))
  have KM17 := hide (KM16.out.below b17 (by omega))
  have KU17 := hide ((b17.block _ (lt_of_heap KU16.out)).trans KU16.out)
  have KQ17 := hide (KQ16.out.below b17 (by omega))
  have hs17 : w16.heap.size ≤ w17.heap.size := b17.size
  have BW17 : Below w.heap.size w w17 := BW16.trans (b17.mono (by omega))
  clear KB16 KW16 KN16 KZ16 KX16 KV16 KR16 KG16 KM16 KU16 KQ16 BW16 b17
  clear KQ17
  have cV0 := cells_at KV17.out 0
  have cV1 := cells_at KV17.out 1
  have cV2 := cells_at KV17.out 2
  have cV3 := cells_at KV17.out 3
  have cV4 := cells_at KV17.out 4
  have cV5 := cells_at KV17.out 5
  have cV6 := cells_at KV17.out 6
  simp at cV0 cV1 cV2 cV3 cV4 cV5 cV6
  have HT0 := hide (markSelf_own _ _ _ _ x qX _ _ _ _ 1 w17 KX17.out (by omega) (by have h := HT.out; unfold totS at h ⊢; rw [tot_eq FX.out]; omega) (by omega) (by omega))
  have hme := mkE_tot (mkAt 1 x) qX
  have hmx : mkAt 1 x = 1 + 4 * (x.net.ls.length : Int) + 4 * (x.net.ts.length : Int) + (x.heard.length : Int) := rfl
  have hmt : (totS x qX : Int) = (x.net.ls.length : Int) + (x.net.ts.length : Int) + (x.heard.length : Int) + (tot qX : Int) := by unfold totS; omega
  have hmq : totS x qX ≤ 1048576 := by have h := HT.out; unfold totS at h ⊢; rw [tot_eq FX.out]; omega
  obtain ⟨mk, hmk⟩ : ∃ m, m = mkE (mkAt 1 x) qX := ⟨_, rfl⟩
  rw [← hmk] at HT0 hme
  have hmk0 : 0 ≤ mk := by omega
  have hmk1 : mk ≤ 10000000 := by omega
  clear hme hmx hmt hmq hmk
  go_wp2_with fail
  refine HT0.out.mono ?_
  rintro e w18 ⟨rfl, oX, fs18⟩
  have fr18 := fs18.frame (fun k hk => ⟨(KX17.out.blk k hk).1, (KX17.out.blk k hk).2.1⟩)
  clear oX fs18 HT0
  clear cV0 cV1 cV2 cV3 cV4 cV5 cV6
  have KB18 := hide ((fr18.block _ (lt_of_heap KB17.out) (by omega)).trans KB17.out)
  have KW18 := hide (KW17.out.frame fr18 (by omega))
  have KN18 := hide (KN17.out.frame fr18 (by omega))
  have KZ18 := hide ((fr18.block _ (lt_of_heap KZ17.out) (by omega)).trans KZ17.out)
  have KV18 := hide ((fr18.block _ (lt_of_heap KV17.out) (by omega)).trans KV17.out)
  have KR18 := hide (KR17.out.frame fr18 (by omega))
  have KG18 := hide (KG17.out.frame fr18 (by omega))
  have KM18 := hide (KM17.out.frame fr18 (by omega))
  have KU18 := hide ((fr18.block _ (lt_of_heap KU17.out) (by omega)).trans KU17.out)
  have hs18 : w17.heap.size ≤ w18.heap.size := fr18.size
  have BW18 : Below w.heap.size w w18 := BW17.trans ((fr18.below (by omega)).mono (by omega))
  clear KB17 KW17 KN17 KZ17 KV17 KR17 KG17 KM17 KU17 BW17
  clear KX17
  have HT0 := hide (markRecordS_any _ _ _ qR mk w18 KR18.out (by rw [tot_eq FR.out]; have := HT.out; omega) hmk0 hmk1)
  have hme := mkE_tot mk qR
  have hpos : ¬ mkE mk qR < 0 := by omega
  obtain ⟨mk2, hmk2⟩ : ∃ m, m = mkE mk qR := ⟨_, rfl⟩
  rw [← hmk2] at HT0 hpos
  clear hme hmk2
  go_wp2_with fail
  refine HT0.out.mono ?_
  rintro e w19 ⟨rfl, oR, fr19⟩
  clear oR HT0
  have KB19 := hide ((fr19.block _ (lt_of_heap KB18.out) (by omega)).trans KB18.out)
  have KW19 := hide (KW18.out.frame fr19 (by omega))
  have KN19 := hide (KN18.out.frame fr19 (by omega))
  have KZ19 := hide ((fr19.block _ (lt_of_heap KZ18.out) (by omega)).trans KZ18.out)
  have KV19 := hide ((fr19.block _ (lt_of_heap KV18.out) (by omega)).trans KV18.out)
  have KG19 := hide (KG18.out.frame fr19 (by omega))
  have KM19 := hide (KM18.out.frame fr19 (by omega))
  have KU19 := hide ((fr19.block _ (lt_of_heap KU18.out) (by omega)).trans KU18.out)
  have hs19 : w18.heap.size ≤ w19.heap.size := fr19.size
  have BW19 : Below w.heap.size w w19 := BW18.trans ((fr19.below (by omega)).mono (by omega))
  clear KB18 KW18 KN18 KZ18 KV18 KG18 KM18 KU18 BW18
  clear KR18
  clear KV19
  have cU0 := cells_at KU19.out 0
  have cU1 := cells_at KU19.out 1
  have cU2 := cells_at KU19.out 2
  have cU3 := cells_at KU19.out 3
  have cU4 := cells_at KU19.out 4
  have cU5 := cells_at KU19.out 5
  have cU6 := cells_at KU19.out 6
  have cZ0 := cells_at KZ19.out 0
  have cZ1 := cells_at KZ19.out 1
  have cZ2 := cells_at KZ19.out 2
  have cZ3 := cells_at KZ19.out 3
  have cZ4 := cells_at KZ19.out 4
  have cZ5 := cells_at KZ19.out 5
  have cZ6 := cells_at KZ19.out 6
  simp at cU0 cU1 cU2 cU3 cU4 cU5 cU6 cZ0 cZ1 cZ2 cZ3 cZ4 cZ5 cZ6
  have HT20 := hide (eqSelf_any _ _ _ _ _ _ _ _ x qG qW w19 (HTG.out qG FG.out) (KG19.out.in.more (by omega)) (KW19.out.in.more (by omega)) (FG.out.trans FW.out.symm))
  go_wp2_with fail
  refine HT20.out.mono ?_
  rintro e w20 ⟨rfl, b20⟩
  clear HT20
  have KB20 := hide ((b20.block _ (lt_of_heap KB19.out)).trans KB19.out)
  have KW20 := hide (KW19.out.below b20 (by omega))
  have KN20 := hide (KN19.out.below b20 (by omega))
  have KZ20 := hide ((b20.block _ (lt_of_heap KZ19.out)).trans KZ19.out)
  have KG20 := hide (KG19.out.below b20 (by omega))
  have KM20 := hide (KM19.out.below b20 (by omega))
  have KU20 := hide ((b20.block _ (lt_of_heap KU19.out)).trans KU19.out)
  have hs20 : w19.heap.size ≤ w20.heap.size := b20.size
  have BW20 : Below w.heap.size w w20 := BW19.trans (b20.mono (by omega))
  clear KB19 KW19 KN19 KZ19 KG19 KM19 KU19 BW19 b20
  clear cU0 cU1 cU2 cU3 cU4 cU5 cU6 cZ0 cZ1 cZ2 cZ3 cZ4 cZ5 cZ6
  have HT21 := hide (eqRecS_own _ _ _ _ _ _ _ _ w20 KM20.out KN20.out (FM.out.trans FN.out.symm) (HTN.out qM FM.out) (by omega) (by omega))
  go_wp2_with fail
  refine HT21.out.mono ?_
  rintro e w21 ⟨rfl, b21⟩
  clear HT21
  have KB21 := hide ((b21.block _ (lt_of_heap KB20.out)).trans KB20.out)
  have KW21 := hide (KW20.out.below b21 (by omega))
  have KN21 := hide (KN20.out.below b21 (by omega))
  have KZ21 := hide ((b21.block _ (lt_of_heap KZ20.out)).trans KZ20.out)
  have KG21 := hide (KG20.out.below b21 (by omega))
  have KM21 := hide (KM20.out.below b21 (by omega))
  have KU21 := hide ((b21.block _ (lt_of_heap KU20.out)).trans KU20.out)
  have hs21 : w20.heap.size ≤ w21.heap.size := b21.size
  have BW21 : Below w.heap.size w w21 := BW20.trans (b21.mono (by omega))
  clear KB20 KW20 KN20 KZ20 KG20 KM20 KU20 BW20 b21
  have cU0 := cells_at KU21.out 0
  have cU1 := cells_at KU21.out 1
  have cU2 := cells_at KU21.out 2
  have cU3 := cells_at KU21.out 3
  have cU4 := cells_at KU21.out 4
  have cU5 := cells_at KU21.out 5
  have cU6 := cells_at KU21.out 6
  simp at cU0 cU1 cU2 cU3 cU4 cU5 cU6
  have HT0 := hide (markSelf_own _ _ _ _ x qG _ _ _ _ 1 w21 KG21.out (by omega) (HTG.out qG FG.out) (by omega) (by omega))
  have hme := mkE_tot (mkAt 1 x) qG
  have hmx : mkAt 1 x = 1 + 4 * (x.net.ls.length : Int) + 4 * (x.net.ts.length : Int) + (x.heard.length : Int) := rfl
  have hmt : (totS x qG : Int) = (x.net.ls.length : Int) + (x.net.ts.length : Int) + (x.heard.length : Int) + (tot qG : Int) := by unfold totS; omega
  have hmq := HTG.out qG FG.out
  obtain ⟨me, hmk⟩ : ∃ m, m = mkE (mkAt 1 x) qG := ⟨_, rfl⟩
  rw [← hmk] at HT0 hme
  have hmf0 : 0 ≤ me := by omega
  have hmf1 : me ≤ 10000000 := by omega
  have HME := hide hmk
  have hmn : ¬ me < 0 := by omega
  clear hme hmx hmt hmq hmk
  go_wp2_with fail
  refine HT0.out.mono ?_
  rintro e w22 ⟨rfl, oG, fs22⟩
  have fr22 := fs22.frame (fun k hk => ⟨(KG21.out.blk k hk).1, (KG21.out.blk k hk).2.1⟩)
  have oM := KM21.out.keepS (W' := w22) (fun k hk => fs22.block k (KM21.out.blk k hk).2.2 (fun hs => by
    have h1 := (KM21.out.blk k hk).1
    have h2 := KG21.out
    have h3 := h2.o2
    rcases hs with (h | h) | h | h
    · have := h2.ltop k h; omega
    · have := h2.ttop k h; omega
    · have := h2.heard.top k h; omega
    · exact SPG.out k h hk))
  clear fs22 HT0
  clear cU0 cU1 cU2 cU3 cU4 cU5 cU6
  have KB22 := hide ((fr22.block _ (lt_of_heap KB21.out) (by omega)).trans KB21.out)
  have KW22 := hide (KW21.out.frame fr22 (by omega))
  have KN22 := hide (KN21.out.frame fr22 (by omega))
  have KZ22 := hide ((fr22.block _ (lt_of_heap KZ21.out) (by omega)).trans KZ21.out)
  have KU22 := hide ((fr22.block _ (lt_of_heap KU21.out) (by omega)).trans KU21.out)
  have hs22 : w21.heap.size ≤ w22.heap.size := fr22.size
  have BW22 : Below w.heap.size w w22 := BW21.trans ((fr22.below (by omega)).mono (by omega))
  clear KB21 KW21 KN21 KZ21 KU21 BW21
  clear KG21 KM21
  have KG22 := hide oG
  have KM22 := hide oM
  clear oG oM
  have HT0 := hide (markRecordS_fine _ _ _ qM me w22 KM22.out (HTN.out qM FM.out) hmf0 hmf1)
  have hme := mkE_tot me qM
  have hmq := HTN.out qM FM.out
  have hpos2 : ¬ mkE me qM < 0 := by omega
  obtain ⟨mf, hmk2⟩ : ∃ m, m = mkE me qM := ⟨_, rfl⟩
  rw [← hmk2] at HT0 hpos2
  have HMF := hide hmk2
  clear hme hmk2 hmq
  go_wp2_with fail
  refine HT0.out.mono ?_
  rintro e w23 ⟨rfl, oM, fs23⟩
  have fr23 := fs23.frame (fun k hk => ⟨(KM22.out.blk k hk).1, (KM22.out.blk k hk).2.1⟩)
  have oG := KG22.out.keepS (W' := w23) (fun k hk => fs23.block k (KG22.out.blk k hk).2.2 (fun hs => by
    have h1 := (KM22.out.blk k hs).1
    have h2 := KG22.out
    have h3 := h2.o2
    rcases hk with (h | h) | h | h
    · have := h2.ltop k h; omega
    · have := h2.ttop k h; omega
    · have := h2.heard.top k h; omega
    · exact SPG.out k (blk_mk.1 h) hs))
  clear fs23 HT0
  have KB23 := hide ((fr23.block _ (lt_of_heap KB22.out) (by omega)).trans KB22.out)
  have KW23 := hide (KW22.out.frame fr23 (by omega))
  have KN23 := hide (KN22.out.frame fr23 (by omega))
  have KZ23 := hide ((fr23.block _ (lt_of_heap KZ22.out) (by omega)).trans KZ22.out)
  have KU23 := hide ((fr23.block _ (lt_of_heap KU22.out) (by omega)).trans KU22.out)
  have hs23 : w22.heap.size ≤ w23.heap.size := fr23.size
  have BW23 : Below w.heap.size w w23 := BW22.trans ((fr23.below (by omega)).mono (by omega))
  clear KB22 KW22 KN22 KZ22 KU22 BW22
  clear KG22 KM22
  have KG23 := hide oG
  have KM23 := hide oM
  clear oG oM
  have cU0 := cells_at KU23.out 0
  have cU1 := cells_at KU23.out 1
  have cU2 := cells_at KU23.out 2
  have cU3 := cells_at KU23.out 3
  have cU4 := cells_at KU23.out 4
  have cU5 := cells_at KU23.out 5
  have cU6 := cells_at KU23.out 6
  simp at cU0 cU1 cU2 cU3 cU4 cU5 cU6
  have HT0 := hide (heldSelf_any _ _ _ _ x qG 1 w23 (KG23.out.in.more (by omega)) (HTG.out qG FG.out) (by omega) (by omega))
  rw [← HME.out] at HT0
  go_wp2_with fail
  refine HT0.out.mono ?_
  rintro e w24 ⟨rfl, b24⟩
  clear HT0
  clear cU0 cU1 cU2 cU3 cU4 cU5 cU6
  have KB24 := hide ((b24.block _ (lt_of_heap KB23.out)).trans KB23.out)
  have KW24 := hide (KW23.out.below b24 (by omega))
  have KN24 := hide (KN23.out.below b24 (by omega))
  have KZ24 := hide ((b24.block _ (lt_of_heap KZ23.out)).trans KZ23.out)
  have KG24 := hide (KG23.out.below b24 (by omega))
  have KM24 := hide (KM23.out.below b24 (by omega))
  have KU24 := hide ((b24.block _ (lt_of_heap KU23.out)).trans KU23.out)
  have hs24 : w23.heap.size ≤ w24.heap.size := b24.size
  have BW24 : Below w.heap.size w w24 := BW23.trans (b24.mono (by omega))
  clear KB23 KW23 KN23 KZ23 KG23 KM23 KU23 BW23 b24
  have HT0 := hide (heldRecordS_any _ qM me w24 (KM24.out.at.more (by omega)) (HTN.out qM FM.out) hmf0 hmf1)
  rw [← HMF.out] at HT0
  go_wp2_with fail
  refine HT0.out.mono ?_
  rintro e w' ⟨rfl, rfl⟩
  clear HT0
  have cB0 := cells_at KB24.out 0
  have cB1 := cells_at KB24.out 1
  have cB2 := cells_at KB24.out 2
  have cB3 := cells_at KB24.out 3
  have cB4 := cells_at KB24.out 4
  have cB5 := cells_at KB24.out 5
  have cB6 := cells_at KB24.out 6
  simp at cB0 cB1 cB2 cB3 cB4 cB5 cB6
  have HT25 := hide (HTS.out _ BW24)
  go_wp2_with fail
  refine HT25.out.mono ?_
  rintro e w25 ⟨C1, C2, C3, C4, qC, m1C, m2C, rfl, fC, oC, b25⟩
  obtain ⟨⟨C1, C1c, rfl⟩, ⟨C2, C2c, rfl⟩, ⟨C3, C3c, rfl⟩, ⟨C4, C4c, rfl⟩⟩ := oC.in.shapes
  clear HT25
  have KB25 := hide ((b25.block _ (lt_of_heap KB24.out)).trans KB24.out)
  have KW25 := hide (KW24.out.below b25 (by omega))
  have KN25 := hide (KN24.out.below b25 (by omega))
  have KZ25 := hide ((b25.block _ (lt_of_heap KZ24.out)).trans KZ24.out)
  have KG25 := hide (KG24.out.below b25 (by omega))
  have KM25 := hide (KM24.out.below b25 (by omega))
  have KU25 := hide ((b25.block _ (lt_of_heap KU24.out)).trans KU24.out)
  have hs25 : w24.heap.size ≤ w25.heap.size := b25.size
  have BW25 : Below w.heap.size w w25 := BW24.trans (b25.mono (by omega))
  clear KB24 KW24 KN24 KZ24 KG24 KM24 KU24 BW24 b25
  have KC25 := hide oC
  have FC := hide fC
  clear oC fC
  clear cB0 cB1 cB2 cB3 cB4 cB5 cB6
  have HT26 := hide (HTR.out _ BW25)
  go_wp2_with fail
  refine HT26.out.mono ?_
  rintro e w26 ⟨vD, qD, rfl, fD, oD, b26⟩
  obtain ⟨D, Dc, rfl⟩ := owns_lenS oD.row
  clear HT26
  have KB26 := hide ((b26.block _ (lt_of_heap KB25.out)).trans KB25.out)
  have KW26 := hide (KW25.out.below b26 (by omega))
  have KN26 := hide (KN25.out.below b26 (by omega))
  have KZ26 := hide ((b26.block _ (lt_of_heap KZ25.out)).trans KZ25.out)
  have KG26 := hide (KG25.out.below b26 (by omega))
  have KM26 := hide (KM25.out.below b26 (by omega))
  have KU26 := hide ((b26.block _ (lt_of_heap KU25.out)).trans KU25.out)
  have KC26 := hide (KC25.out.below b26 (by omega))
  have hs26 : w25.heap.size ≤ w26.heap.size := b26.size
  have BW26 : Below w.heap.size w w26 := BW25.trans (b26.mono (by omega))
  clear KB25 KW25 KN25 KZ25 KG25 KM25 KU25 KC25 BW25 b26
  have KD26 := hide oD
  have FD := hide fD
  clear oD fD
  have HT27 := hide (HIM.out _ _ _ _ _ qC qD w26 w26.heap.size FC.out FD.out (KC26.out.src.high (by omega)) (KD26.out.in.wide (by omega)) (Nat.le_refl _))
  go_wp2_with fail
  refine HT27.out.mono ?_
  rintro e w27 ⟨H1, H2, H3, H4, vI, qH, qI, m1H, m2H, rfl, fH, fI, oH, oI, sp, b27⟩
  obtain ⟨⟨H1, H1c, rfl⟩, ⟨H2, H2c, rfl⟩, ⟨H3, H3c, rfl⟩, ⟨H4, H4c, rfl⟩⟩ := oH.in.shapes
  obtain ⟨I, Ic, rfl⟩ := owns_lenS oI.row
  clear HT27
  have KB27 := hide ((b27.block _ (lt_of_heap KB26.out)).trans KB26.out)
  have KW27 := hide (KW26.out.below b27 (by omega))
  have KN27 := hide (KN26.out.below b27 (by omega))
  have KZ27 := hide ((b27.block _ (lt_of_heap KZ26.out)).trans KZ26.out)
  have KG27 := hide (KG26.out.below b27 (by omega))
  have KM27 := hide (KM26.out.below b27 (by omega))
  have KU27 := hide ((b27.block _ (lt_of_heap KU26.out)).trans KU26.out)
  have KC27 := hide (KC26.out.below b27 (by omega))
  have KD27 := hide (KD26.out.below b27 (by omega))
  have hs27 : w26.heap.size ≤ w27.heap.size := b27.size
  have BW27 : Below w.heap.size w w27 := BW26.trans (b27.mono (by omega))
  clear KB26 KW26 KN26 KZ26 KG26 KM26 KU26 KC26 KD26 BW26 b27
  have hm1H := oH.o1
  have hm2H := oH.o2
  have hm3H := oH.o3
  have KH27 := hide oH
  have KI27 := hide oI
  have FH := hide fH
  have FI := hide fI
  have SPH := hide sp
  clear sp
  clear oH oI fH fI
  clear KC27
  clear KD27
  obtain ⟨w28, hw28⟩ : ∃ W, W = w27.alloc (.cells #[.int .i64 x.id, .int .i64 x.boot, .int .i64 x.net.n, .slice H1 x.net.ls.length H1c, .slice H2 x.net.ts.length H2c, .slice H3 x.heard.length H3c, .slice H4 qH.length H4c] 31) := ⟨_, rfl⟩
  have b28 : Below w27.heap.size w27 w28 := by rw [hw28]; exact (Below.refl _ _).alloc (Nat.le_refl _) _
  have kb : w28.heap[w27.heap.size]? = some (.cells #[.int .i64 x.id, .int .i64 x.boot, .int .i64 x.net.n, .slice H1 x.net.ls.length H1c, .slice H2 x.net.ts.length H2c, .slice H3 x.heard.length H3c, .slice H4 qH.length H4c] 31) := by rw [hw28]; exact heap_alloc_new w27 _
  have hlt28 : w27.heap.size < w28.heap.size := by rw [hw28]; simp
  have hb028 : w.heap.size < w27.heap.size := by omega
  have hn028 : ¬ w.heap.size = w27.heap.size := by omega
  have cZ0 := cells_at KZ27.out 0
  have cZ1 := cells_at KZ27.out 1
  have cZ2 := cells_at KZ27.out 2
  have cZ3 := cells_at KZ27.out 3
  have cZ4 := cells_at KZ27.out 4
  have cZ5 := cells_at KZ27.out 5
  have cZ6 := cells_at KZ27.out 6
  simp at cZ0 cZ1 cZ2 cZ3 cZ4 cZ5 cZ6
  have BWa : Below w.heap.size w w28 := BW27.trans (b28.mono (by omega))
  have HT0 := hide (eqSelf_any _ _ _ _ _ _ _ _ x qH qW w28 (HTG.out qH FH.out) ((KH27.out.below b28 (by omega)).in.more (by omega)) ((KW27.out.below b28 (by omega)).in.more (by omega)) (FH.out.trans FW.out.symm))
  have hzWm : zW < w27.heap.size := by omega
  have hzWn : ¬ zW = w27.heap.size := by omega
  go_wp2_with fail
  rw [← hw28]
  clear hw28 BWa hzWm hzWn kb
  clear cZ0 cZ1 cZ2 cZ3 cZ4 cZ5 cZ6
  have KB28 := hide ((b28.block _ (lt_of_heap KB27.out)).trans KB27.out)
  have KW28 := hide (KW27.out.below b28 (by omega))
  have KN28 := hide (KN27.out.below b28 (by omega))
  have KZ28 := hide ((b28.block _ (lt_of_heap KZ27.out)).trans KZ27.out)
  have KG28 := hide (KG27.out.below b28 (by omega))
  have KM28 := hide (KM27.out.below b28 (by omega))
  have KU28 := hide ((b28.block _ (lt_of_heap KU27.out)).trans KU27.out)
  have KH28 := hide (KH27.out.below b28 (by omega))
  have KI28 := hide (KI27.out.below b28 (by omega))
  have hs28 : w27.heap.size ≤ w28.heap.size := b28.size
  have BW28 : Below w.heap.size w w28 := BW27.trans (b28.mono (by omega))
  clear KB27 KW27 KN27 KZ27 KG27 KM27 KU27 KH27 KI27 BW27 b28
  refine HT0.out.mono ?_
  rintro e w29 ⟨rfl, b29⟩
  clear HT0
  have KB29 := hide ((b29.block _ (lt_of_heap KB28.out)).trans KB28.out)
  have KW29 := hide (KW28.out.below b29 (by omega))
  have KN29 := hide (KN28.out.below b29 (by omega))
  have KZ29 := hide ((b29.block _ (lt_of_heap KZ28.out)).trans KZ28.out)
  have KG29 := hide (KG28.out.below b29 (by omega))
  have KM29 := hide (KM28.out.below b29 (by omega))
  have KU29 := hide ((b29.block _ (lt_of_heap KU28.out)).trans KU28.out)
  have KH29 := hide (KH28.out.below b29 (by omega))
  have KI29 := hide (KI28.out.below b29 (by omega))
  have hs29 : w28.heap.size ≤ w29.heap.size := b29.size
  have BW29 : Below w.heap.size w w29 := BW28.trans (b29.mono (by omega))
  clear KB28 KW28 KN28 KZ28 KG28 KM28 KU28 KH28 KI28 BW28 b29
  have HT30 := hide (eqRecS_own _ _ _ _ _ _ _ _ w29 KI29.out KN29.out (FI.out.trans FN.out.symm) (HTN.out qI FI.out) (by omega) (by omega))
  go_wp2_with fail
  refine HT30.out.mono ?_
  rintro e w30 ⟨rfl, b30⟩
  clear HT30
  have KB30 := hide ((b30.block _ (lt_of_heap KB29.out)).trans KB29.out)
  have KW30 := hide (KW29.out.below b30 (by omega))
  have KN30 := hide (KN29.out.below b30 (by omega))
  have KZ30 := hide ((b30.block _ (lt_of_heap KZ29.out)).trans KZ29.out)
  have KG30 := hide (KG29.out.below b30 (by omega))
  have KM30 := hide (KM29.out.below b30 (by omega))
  have KU30 := hide ((b30.block _ (lt_of_heap KU29.out)).trans KU29.out)
  have KH30 := hide (KH29.out.below b30 (by omega))
  have KI30 := hide (KI29.out.below b30 (by omega))
  have hs30 : w29.heap.size ≤ w30.heap.size := b30.size
  have BW30 : Below w.heap.size w w30 := BW29.trans (b30.mono (by omega))
  clear KB29 KW29 KN29 KZ29 KG29 KM29 KU29 KH29 KI29 BW29 b30
  have cU0 := cells_at KU30.out 0
  have cU1 := cells_at KU30.out 1
  have cU2 := cells_at KU30.out 2
  have cU3 := cells_at KU30.out 3
  have cU4 := cells_at KU30.out 4
  have cU5 := cells_at KU30.out 5
  have cU6 := cells_at KU30.out 6
  simp at cU0 cU1 cU2 cU3 cU4 cU5 cU6
  have HT0 := hide (heldSelf_any _ _ _ _ x qG 1 w30 (KG30.out.in.more (by omega)) (HTG.out qG FG.out) (by omega) (by omega))
  rw [← HME.out] at HT0
  go_wp2_with fail
  refine HT0.out.mono ?_
  rintro e w31 ⟨rfl, b31⟩
  clear HT0
  clear cU0 cU1 cU2 cU3 cU4 cU5 cU6
  have KB31 := hide ((b31.block _ (lt_of_heap KB30.out)).trans KB30.out)
  have KW31 := hide (KW30.out.below b31 (by omega))
  have KN31 := hide (KN30.out.below b31 (by omega))
  have KZ31 := hide ((b31.block _ (lt_of_heap KZ30.out)).trans KZ30.out)
  have KG31 := hide (KG30.out.below b31 (by omega))
  have KM31 := hide (KM30.out.below b31 (by omega))
  have KU31 := hide ((b31.block _ (lt_of_heap KU30.out)).trans KU30.out)
  have KH31 := hide (KH30.out.below b31 (by omega))
  have KI31 := hide (KI30.out.below b31 (by omega))
  have hs31 : w30.heap.size ≤ w31.heap.size := b31.size
  have BW31 : Below w.heap.size w w31 := BW30.trans (b31.mono (by omega))
  clear KB30 KW30 KN30 KZ30 KG30 KM30 KU30 KH30 KI30 BW30 b31
  have HT0 := hide (heldRecordS_any _ qM me w31 (KM31.out.at.more (by omega)) (HTN.out qM FM.out) hmf0 hmf1)
  rw [← HMF.out] at HT0
  go_wp2_with fail
  refine HT0.out.mono ?_
  rintro e w' ⟨rfl, rfl⟩
  clear HT0
  go_wp2
  go_ret
  exact ⟨rfl, BW31⟩
end Go.Proofs.YtcimbiinljcifaaGreat
