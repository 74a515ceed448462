/-
  spec.RecordOk: its contract.
  spec.l05Install: its contract.
-/
import Derived.Test.YtmijnjnihhemgaaGreatQm8
import Derived.Test.YtmijnjnihhemgaaGreatQm7
import Derived.Test.YtmijnjnihhemgaaGreatQm3
namespace Go.Proofs.YtmijnjnihhemgaaGreat
open Go.RowKit
set_option linter.unusedSimpArgs false
set_option linter.unusedVariables false
set_option maxRecDepth 100000
set_option maxHeartbeats 8000000
def recOkB (x : RecD) : Bool := inB x.owner 1 6 && inB x.seq 1 100000 &&
 (if x.kind = 1 then inB x.area 0 2 && x.key == 0 && nearsB x.owner x.near && x.cost == 0 && !x.far
  else if x.kind = 2 then inB x.area 0 2 && inB x.key 1 6 && x.near.length == 0 && inB x.cost 0 60000 && !x.far
  else if x.kind = 3 then x.area == 9 && inB x.key 1 9 && x.near.length == 0 && (inB x.cost 1 1000 || x.cost == 60000)
  else false)
theorem srecOk_any (v1 : Value) (x : RecD) (w : World) (hl : x.near.length ≤ 1048576) (hv : NearsAt w v1 x.near w.heap.size) :
  Calls Tryz.prog 148 #[.agg (recC x v1)] w fun e w' => e = .returned (.bool (recOkB x)) ∧ Below w.heap.size w w' := by
 obtain ⟨p1, c1, rfl⟩ := hv.shape
 have HN := hide (fun W (h : Below w.heap.size w W) => snear_any (.slice p1 x.near.length c1) x W hl (hv.then h))
 obtain ⟨R, hR⟩ : ∃ R, R = recOkB x := ⟨_, rfl⟩
 rw [← hR]
 obtain ⟨qn, hqn⟩ : ∃ q, q = nearsB x.owner x.near := ⟨_, rfl⟩
 rw [← hqn] at HN
 unfold recOkB at hR
 rw [← hqn] at hR
 obtain ⟨area, kind, owner, key, seq, ns, cost, far⟩ := x
 unfold recC at HN ⊢
 simp only [] at HN hR hl hv ⊢
 have hnew := heap_alloc_new w (.cells #[.int .i64 area, .int .i64 kind, .int .i64 owner, .int .i64 key, .int .i64 seq, .slice p1 ns.length c1, .int .i64 cost, .bool far] 39)
 have B0 : Below w.heap.size w (w.alloc (.cells #[.int .i64 area, .int .i64 kind, .int .i64 owner, .int .i64 key, .int .i64 seq, .slice p1 ns.length c1, .int .i64 cost, .bool far] 39)) := (Below.refl _ _).alloc (Nat.le_refl _) _
 have H1 := hide (in_any owner 1 6)
 have H2 := hide (in_any seq 1 100000)
 obtain ⟨q1, hq1⟩ : ∃ q, q = inB owner 1 6 := ⟨_, rfl⟩
 obtain ⟨q2, hq2⟩ : ∃ q, q = inB seq 1 100000 := ⟨_, rfl⟩
 rw [← hq1] at H1 hR
 rw [← hq2] at H2 hR
 have NEW := hide hnew
 have HR := hide hR
 have HL := hide hl
 clear hnew hR hq1 hq2 hqn hv hl
 go_enter Tryz.func148, Tryz.ntmps148
 go_wp2_with fail
 refine (H1.out _).mono ?_
 rintro e w1 ⟨rfl, rfl⟩
 cases q1
 ·go_wp2
  go_ret
  exact ⟨ret_bool (by rw [HR.out]; rfl), B0⟩
 go_wp2_with fail
 refine (H2.out _).mono ?_
 rintro e w1 ⟨rfl, rfl⟩
 cases q2
 ·go_wp2
  go_ret
  exact ⟨ret_bool (by rw [HR.out]; rfl), B0⟩
 clear H1 H2
 by_cases hk1 : kind = 1
 ·subst hk1
  have HR2 := hide (show R = (inB area 0 2 && key == 0 && qn && cost == 0 && !far) by have := HR.out; simpa using this)
  have H3 := hide (in_any area 0 2)
  obtain ⟨q3, hq3⟩ : ∃ q, q = inB area 0 2 := ⟨_, rfl⟩
  rw [← hq3] at H3 HR2
  clear hq3 HR
  go_wp2_with fail
  refine (H3.out _).mono ?_
  rintro e w1 ⟨rfl, rfl⟩
  cases q3
  ·go_wp2
   go_ret
   exact ⟨ret_bool (by rw [HR2.out]; rfl), B0⟩
  by_cases hkey : key = 0
  case neg =>
   have hd : (key == 0) = false := by simpa using hkey
   rw [hd] at HR2
   go_wp2
   go_ret
   exact ⟨ret_bool (by rw [HR2.out]; rfl), B0⟩
  subst hkey
  go_wp2_with fail
  refine (HN.out _ B0).mono ?_
  rintro e w2 ⟨rfl, b2⟩
  have hx2 : w2.heap[w.heap.size]? = some (.cells #[.int .i64 area, .int .i64 1, .int .i64 owner, .int .i64 0, .int .i64 seq, .slice p1 ns.length c1, .int .i64 cost, .bool far] 39) := by rw [b2.block _ (by simp)]; exact NEW.out
  have f6 := cells_at hx2 6
  have f7 := cells_at hx2 7
  simp at f6 f7
  have B2 := B0.trans (b2.mono B0.size)
  clear hx2 b2 NEW B0
  cases qn
  ·go_wp2
   go_ret
   exact ⟨ret_bool (by rw [HR2.out]; rfl), B2⟩
  by_cases hco : cost = 0
  case neg =>
   have hd : (cost == 0) = false := by simpa using hco
   rw [hd] at HR2
   go_wp2
   go_ret
   exact ⟨ret_bool (by rw [HR2.out]; rfl), B2⟩
  subst hco
  cases far
  ·go_wp2
   go_ret
   exact ⟨ret_bool (by rw [HR2.out]; rfl), B2⟩
  ·go_wp2
   go_ret
   exact ⟨ret_bool (by rw [HR2.out]; rfl), B2⟩
 have k1 : (kind == 1) = false := by simpa using hk1
 by_cases hk2 : kind = 2
 ·subst hk2
  have HR2 := hide (show R = (inB area 0 2 && inB key 1 6 && ns.length == 0 && inB cost 0 60000 && !far) by have := HR.out; simpa using this)
  have H3 := hide (in_any area 0 2)
  obtain ⟨q3, hq3⟩ : ∃ q, q = inB area 0 2 := ⟨_, rfl⟩
  rw [← hq3] at H3 HR2
  have H4 := hide (in_any key 1 6)
  obtain ⟨q4, hq4⟩ : ∃ q, q = inB key 1 6 := ⟨_, rfl⟩
  rw [← hq4] at H4 HR2
  have H5 := hide (in_any cost 0 60000)
  obtain ⟨q5, hq5⟩ : ∃ q, q = inB cost 0 60000 := ⟨_, rfl⟩
  rw [← hq5] at H5 HR2
  clear hq3 hq4 hq5 HR hk1 k1
  go_wp2_with fail
  refine (H3.out _).mono ?_
  rintro e w1 ⟨rfl, rfl⟩
  cases q3
  ·go_wp2
   go_ret
   exact ⟨ret_bool (by rw [HR2.out]; rfl), B0⟩
  go_wp2_with fail
  refine (H4.out _).mono ?_
  rintro e w1 ⟨rfl, rfl⟩
  cases q4
  ·go_wp2
   go_ret
   exact ⟨ret_bool (by rw [HR2.out]; rfl), B0⟩
  by_cases hn0 : ns.length = 0
  case neg =>
   have hd : ((ns.length : Int) == 0) = false := by simp; intro h; rw [h] at hn0; exact hn0 rfl
   have hR2 : R = false := by rw [HR2.out, show (ns.length == 0) = false by simpa using hn0]; rfl
   have HR3 := hide hR2
   clear hR2 hn0 HR2
   go_wp2
   go_ret
   exact ⟨ret_bool HR3.out, B0⟩
  have hd : ((ns.length : Int) == 0) = true := by simp; exact List.length_eq_zero_iff.1 hn0
  have HR3 := hide (show R = (q5 && !far) by have := HR2.out; rw [show (ns.length == 0) = true by simpa using hn0] at this; simpa using this)
  clear hn0 HR2
  go_wp2_with fail
  refine (H5.out _).mono ?_
  rintro e w1 ⟨rfl, rfl⟩
  cases q5
  ·go_wp2
   go_ret
   exact ⟨ret_bool (by rw [HR3.out]; rfl), B0⟩
  cases far
  ·go_wp2
   go_ret
   exact ⟨ret_bool (by rw [HR3.out]; rfl), B0⟩
  ·go_wp2
   go_ret
   exact ⟨ret_bool (by rw [HR3.out]; rfl), B0⟩
 have k2 : (kind == 2) = false := by simpa using hk2
 by_cases hk3 : kind = 3
 ·subst hk3
  have HR2 := hide (show R = (area == 9 && inB key 1 9 && ns.length == 0 && (inB cost 1 1000 || cost == 60000)) by have := HR.out; simpa using this)
  have H4 := hide (in_any key 1 9)
  obtain ⟨q4, hq4⟩ : ∃ q, q = inB key 1 9 := ⟨_, rfl⟩
  rw [← hq4] at H4 HR2
  have H5 := hide (in_any cost 1 1000)
  obtain ⟨q5, hq5⟩ : ∃ q, q = inB cost 1 1000 := ⟨_, rfl⟩
  rw [← hq5] at H5 HR2
  clear hq4 hq5 HR hk1 k1 hk2 k2
  by_cases ha : area = 9
  case neg =>
   have hd : (area == 9) = false := by simpa using ha
   rw [hd] at HR2
   go_wp2
   go_ret
   exact ⟨ret_bool (by rw [HR2.out]; rfl), B0⟩
  subst ha
  go_wp2_with fail
  refine (H4.out _).mono ?_
  rintro e w1 ⟨rfl, rfl⟩
  cases q4
  ·go_wp2
   go_ret
   exact ⟨ret_bool (by rw [HR2.out]; rfl), B0⟩
  by_cases hn0 : ns.length = 0
  case neg =>
   have hd : ((ns.length : Int) == 0) = false := by simp; intro h; rw [h] at hn0; exact hn0 rfl
   have hR2 : R = false := by rw [HR2.out, show (ns.length == 0) = false by simpa using hn0]; rfl
   have HR3 := hide hR2
   clear hR2 hn0 HR2
   go_wp2
   go_ret
   exact ⟨ret_bool HR3.out, B0⟩
  have hd : ((ns.length : Int) == 0) = true := by simp; exact List.length_eq_zero_iff.1 hn0
  have HR3 := hide (show R = (q5 || cost == 60000) by have := HR2.out; rw [show (ns.length == 0) = true by simpa using hn0] at this; simpa using this)
  clear hn0 HR2
  go_wp2_with fail
  refine (H5.out _).mono ?_
  rintro e w1 ⟨rfl, rfl⟩
  cases q5
  ·go_wp2
   go_ret
   exact ⟨ret_bool (by rw [HR3.out]; rfl), B0⟩
  ·go_wp2
   go_ret
   exact ⟨ret_bool (by rw [HR3.out]; rfl), B0⟩
 have k3 : (kind == 3) = false := by simpa using hk3
 have hR2 : R = false := by rw [HR.out, if_neg hk1, if_neg hk2, if_neg hk3]; rfl
 have HR2 := hide hR2
 clear hR2 HR hk1 hk2 hk3
 go_wp2
 go_ret
 exact ⟨ret_bool HR2.out, B0⟩
def takesB (xs : List RecD) (r : RecD) : Bool := recOkB r && (if atZ xs r < 0 then decide (xs.length < 150) else decide ((xs.getD (atZ xs r).toNat zeroRD).seq < r.seq))
def instL (ps : List RP) (r : RP) : List RP := if takesB (fsts ps) r.1 then putL ps r else ps
theorem fsts_some6 {ps : List RP} {k : Nat} {y : RecD} (h : (fsts ps)[k]? = some y) : ∃ p, ps[k]? = some p ∧ p.1 = y := by
 simp [fsts] at h
 obtain ⟨v, hv⟩ := h
 exact ⟨(y, v), hv, rfl⟩
theorem takes_bad {xs : List RecD} {r : RecD} (h : recOkB r = false) : takesB xs r = false := by unfold takesB; rw [h]; rfl
theorem takes_none {xs : List RecD} {r : RecD} (h : recOkB r = true) (hz : atZ xs r = -1) : takesB xs r = decide (xs.length < 150) := by unfold takesB; rw [h, hz]; rfl
theorem takes_at {xs : List RecD} {r y : RecD} {k : Nat} (h : recOkB r = true) (hz : atZ xs r = (k : Int)) (hy : xs[k]? = some y) : takesB xs r = decide (y.seq < r.seq) := by
 unfold takesB
 rw [h, hz, if_neg (by omega)]
 simp [hy]
theorem inst_no {ps : List RP} {r : RP} (h : takesB (fsts ps) r.1 = false) : instL ps r = ps := by unfold instL; rw [h]; rfl
theorem inst_yes {ps : List RP} {r : RP} (h : takesB (fsts ps) r.1 = true) : instL ps r = putL ps r := by unfold instL; rw [h]; rfl
theorem ret_tup {x : Value} {a b : Bool} (h : b = a) : Ending.returned (.tuple #[x, .bool a]) = .returned (.tuple #[x, .bool b]) := by rw [h]
theorem sinst_fine (v : Value) (ps : List RP) (hi : Nat) (r : RP) (w : World) (hv : RecsIn w hi v ps) (hhi : hi ≤ w.heap.size) (hn : tot ps ≤ 1048576) (hr : NearOwn w 0 hi r) (hrl : r.1.near.length ≤ 1048576) :
  Calls Tryz.prog 75 #[v, .agg (recC r.1 r.2)] w fun e w' => ∃ x, e = .returned (.tuple #[x, .bool (takesB (fsts ps) r.1)]) ∧ RecsIn w' w'.heap.size x (instL ps r) ∧ Below w.heap.size w w' ∧ ∀ k, x.ownBlock = some k → v.ownBlock = some k ∨ w.heap.size ≤ k := by
 obtain ⟨TT, hTT⟩ : ∃ T, T = takesB (fsts ps) r.1 := ⟨_, rfl⟩
 obtain ⟨LL, hLL⟩ : ∃ L, L = instL ps r := ⟨_, rfl⟩
 rw [← hTT, ← hLL]
 have HT0 := hide hTT
 have HL0 := hide hLL
 clear hTT hLL
 have hnl := tot_len ps
 have hfl : (fsts ps).length = ps.length := by simp [fsts]
 obtain ⟨a1, c1, rfl⟩ := owns_lenS hv.row
 obtain ⟨ra, rc, hrn⟩ := owns_lenS hr.1
 have BX : Below w.heap.size w (w.alloc (.cells #[.int .i64 r.1.area, .int .i64 r.1.kind, .int .i64 r.1.owner, .int .i64 r.1.key, .int .i64 r.1.seq, .slice ra r.1.near.length rc, .int .i64 r.1.cost, .bool r.1.far] 39)) := (Below.refl _ _).alloc (Nat.le_refl _) _
 have hx := heap_alloc_new w (.cells #[.int .i64 r.1.area, .int .i64 r.1.kind, .int .i64 r.1.owner, .int .i64 r.1.key, .int .i64 r.1.seq, .slice ra r.1.near.length rc, .int .i64 r.1.cost, .bool r.1.far] 39)
 obtain ⟨w0, hw0⟩ : ∃ w0, w0 = w.alloc (.cells #[.int .i64 r.1.area, .int .i64 r.1.kind, .int .i64 r.1.owner, .int .i64 r.1.key, .int .i64 r.1.seq, .slice ra r.1.near.length rc, .int .i64 r.1.cost, .bool r.1.far] 39) := ⟨_, rfl⟩
 rw [← hw0] at BX hx
 have hsx := lt_of_heap hx
 have HAT := hide (satI_any (.slice a1 ps.length c1) ps hi r w0 (hv.below BX hhi) (by omega) hn)
 have HOK := hide (fun W (hb : Below w.heap.size w W) => srecOk_any r.2 r.1 W hrl (RowAt.then (owns_rowAt hr.1) hb))
 have HPUT := hide (fun W (hb : Below w.heap.size w W) => put_fine (.slice a1 ps.length c1) ps hi r W (hv.below hb hhi) (by have := hb.size; omega) hn (hr.keep (fun j _ h2 _ => hb.block j (by omega))))
 have HV := hide hv
 unfold recC at *
 rw [hrn] at HAT HOK HPUT ⊢
 clear hv hr hrn
 have main : ∀ (z : Int), atZ (fsts ps) r.1 = z → True := fun _ _ => trivial
 clear main
 by_cases hok : recOkB r.1 = false
 ·rw [hok] at HOK
  have HF := hide (takes_bad (xs := fsts ps) hok)
  generalize atZ (fsts ps) r.1 = z at *
  clear hok
  go_enter Tryz.func75, Tryz.ntmps75
  go_wp2_with fail
  rw [← hw0]
  clear hw0
  refine HAT.out.mono ?_
  rintro e wa ⟨rfl, ba⟩
  have bas := ba.size
  have BWA : Below w.heap.size w wa := BX.trans (ba.mono (by omega))
  have hx1 := (ba.block _ hsx).trans hx
  have d0 := cells_at hx1 0
  have d1 := cells_at hx1 1
  have d2 := cells_at hx1 2
  have d3 := cells_at hx1 3
  have d4 := cells_at hx1 4
  have d5 := cells_at hx1 5
  have d6 := cells_at hx1 6
  have d7 := cells_at hx1 7
  simp at d0 d1 d2 d3 d4 d5 d6 d7
  have hwl : w.heap.size < wa.heap.size := by omega
  have hnd : Below w.heap.size w wa.drew := BWA.drew
  clear ba HAT hx
  go_wp2
  refine wp_region_start (S := (fun W => W.cell? ⟨w.heap.size, 0, none⟩ = some (.int .i64 r.1.area) ∧ W.cell? ⟨w.heap.size, 1, none⟩ = some (.int .i64 r.1.kind) ∧ W.cell? ⟨w.heap.size, 2, none⟩ = some (.int .i64 r.1.owner) ∧ W.cell? ⟨w.heap.size, 3, none⟩ = some (.int .i64 r.1.key) ∧ W.cell? ⟨w.heap.size, 4, none⟩ = some (.int .i64 r.1.seq) ∧ W.cell? ⟨w.heap.size, 5, none⟩ = some (.slice ra r.1.near.length rc) ∧ W.cell? ⟨w.heap.size, 6, none⟩ = some (.int .i64 r.1.cost) ∧ W.cell? ⟨w.heap.size, 7, none⟩ = some (.bool r.1.far))) (by kernel_rfl) 26 rfl ⟨d0, d1, d2, d3, d4, d5, d6, d7⟩ (fun ops hops hHeld => ?_)
  refine take_d 0 ?_ ?_ ?_ (by rw [hops.out]; kernel_rfl) ?_ ?_ (by assumption) ?_
  rotate_left 2
  ·rw [hops.out]; simp only [getS]; rfl
  ·intro W hW; (try dsimp only at hW); go_simp <;> with_reducible rfl
  ·exact fun _ _ _ => id
  try simp only [putS]
  refine take_call 1 (oi := ?_) ?_ (by rw [hops.out]; kernel_rfl) ?_ ?_
  rotate_left 1
  ·rw [hops.out]; simp only [getS]; rfl
  ·rw [hops.out]; kernel_rfl
  intro K hK
  go_simp
  refine (HOK.out _ hnd).mono ?_
  rintro e w1 ⟨rfl, b1⟩
  have hSn : _ ∧ _ := (show ((fun W => W.cell? ⟨w.heap.size, 0, none⟩ = some (.int .i64 r.1.area) ∧ W.cell? ⟨w.heap.size, 1, none⟩ = some (.int .i64 r.1.kind) ∧ W.cell? ⟨w.heap.size, 2, none⟩ = some (.int .i64 r.1.owner) ∧ W.cell? ⟨w.heap.size, 3, none⟩ = some (.int .i64 r.1.key) ∧ W.cell? ⟨w.heap.size, 4, none⟩ = some (.int .i64 r.1.seq) ∧ W.cell? ⟨w.heap.size, 5, none⟩ = some (.slice ra r.1.near.length rc) ∧ W.cell? ⟨w.heap.size, 6, none⟩ = some (.int .i64 r.1.cost) ∧ W.cell? ⟨w.heap.size, 7, none⟩ = some (.bool r.1.far))) w1 from by
   obtain ⟨m0, m1, m2, m3, m4, m5, m6, m7⟩ := hHeld
   refine ⟨?_, ?_, ?_, ?_, ?_, ?_, ?_, ?_⟩ <;> (refine (b1.cell ?_).trans ?_ <;> assumption))
  refine hK.out _ _ hSn (fun hHeld => ?_)
  clear hK K hSn
  try simp only [putS]
  refine take_d 2 ?_ ?_ ?_ (by rw [hops.out]; kernel_rfl) ?_ ?_ (by assumption) ?_
  rotate_left 2
  ·rw [hops.out]; simp only [getS]; rfl
  ·intro W hW; (try dsimp only at hW); go_simp <;> with_reducible rfl
  ·exact fun _ _ _ => id
  try simp only [putS]
  refine take_d 3 ?_ ?_ ?_ (by rw [hops.out]; kernel_rfl) ?_ ?_ (by assumption) ?_
  rotate_left 2
  ·rw [hops.out]; simp only [getS]; rfl
  ·intro W hW; (try dsimp only at hW); go_simp <;> with_reducible rfl
  ·exact fun _ _ _ => id
  try simp only [putS]
  refine take_skp 4 14 (by rw [hops.out]; kernel_rfl) (fun _ _ _ h => h) (by assumption) ?_
  try simp only [putS]
  refine take_skp 5 15 (by rw [hops.out]; kernel_rfl) (fun _ _ _ h => h) (by assumption) ?_
  try simp only [putS]
  refine take_skp 6 16 (by rw [hops.out]; kernel_rfl) (fun _ _ _ h => h) (by assumption) ?_
  try simp only [putS]
  refine take_skp 7 17 (by rw [hops.out]; kernel_rfl) (fun _ _ _ h => h) (by assumption) ?_
  try simp only [putS]
  refine take_skp 8 18 (by rw [hops.out]; kernel_rfl) (fun _ _ _ h => h) (by assumption) ?_
  try simp only [putS]
  refine take_skp 9 19 (by rw [hops.out]; kernel_rfl) (fun _ _ _ h => h) (by assumption) ?_
  try simp only [putS]
  refine take_skp 10 20 (by rw [hops.out]; kernel_rfl) (fun _ _ _ h => h) (by assumption) ?_
  try simp only [putS]
  refine take_skp 11 21 (by rw [hops.out]; kernel_rfl) (fun _ _ _ h => h) (by assumption) ?_
  try simp only [putS]
  refine take_skp 12 22 (by rw [hops.out]; kernel_rfl) (fun _ _ _ h => h) (by assumption) ?_
  try simp only [putS]
  refine take_skp 13 23 (by rw [hops.out]; kernel_rfl) (fun _ _ _ h => h) (by assumption) ?_
  try simp only [putS]
  refine take_skp 14 24 (by rw [hops.out]; kernel_rfl) (fun _ _ _ h => h) (by assumption) ?_
  try simp only [putS]
  refine take_skp 15 25 (by rw [hops.out]; kernel_rfl) (fun _ _ _ h => h) (by assumption) ?_
  try simp only [putS]
  refine take_d 16 ?_ ?_ ?_ (by rw [hops.out]; kernel_rfl) ?_ ?_ (by assumption) ?_
  rotate_left 2
  ·rw [hops.out]; simp only [getS]; rfl
  ·intro W hW; (try dsimp only at hW); go_simp <;> with_reducible rfl
  ·exact fun _ _ _ => id
  try simp only [putS]
  refine take_d 17 ?_ ?_ ?_ (by rw [hops.out]; kernel_rfl) ?_ ?_ (by assumption) ?_
  rotate_left 2
  ·rw [hops.out]; simp only [getS]; rfl
  ·intro W hW; (try dsimp only at hW); go_simp <;> with_reducible rfl
  ·exact fun _ _ _ => id
  try simp only [putS]
  refine take_skp 18 28 (by rw [hops.out]; kernel_rfl) (fun _ _ _ h => h) (by assumption) ?_
  try simp only [putS]
  refine take_skp 19 29 (by rw [hops.out]; kernel_rfl) (fun _ _ _ h => h) (by assumption) ?_
  try simp only [putS]
  refine take_skp 20 30 (by rw [hops.out]; kernel_rfl) (fun _ _ _ h => h) (by assumption) ?_
  try simp only [putS]
  refine take_skp 21 31 (by rw [hops.out]; kernel_rfl) (fun _ _ _ h => h) (by assumption) ?_
  try simp only [putS]
  refine take_skp 22 32 (by rw [hops.out]; kernel_rfl) (fun _ _ _ h => h) (by assumption) ?_
  try simp only [putS]
  refine take_skp 23 33 (by rw [hops.out]; kernel_rfl) (fun _ _ _ h => h) (by assumption) ?_
  try simp only [putS]
  refine take_skp 24 34 (by rw [hops.out]; kernel_rfl) (fun _ _ _ h => h) (by assumption) ?_
  try simp only [putS]
  refine take_d 25 ?_ ?_ ?_ (by rw [hops.out]; kernel_rfl) ?_ ?_ (by assumption) ?_
  rotate_left 2
  ·rw [hops.out]; simp only [getS]; rfl
  ·intro W hW; (try dsimp only at hW); go_simp <;> with_reducible rfl
  ·exact fun _ _ _ => id
  try simp only [putS]
  refine wpAnyH_done (by rw [hops.out]; kernel_rfl) ?_ _
  clear hops ops
  have BW2 : Below w.heap.size w w1 := hnd.trans (b1.mono (by have : wa.drew.heap.size = wa.heap.size := rfl; omega))
  go_wp2
  go_returns
  exact ⟨_, ret_tup (HT0.out.trans HF.out), by rw [HL0.out, inst_no HF.out]; exact (HV.out.below BW2 hhi).wide (by have := BW2.size; omega), BW2, fun k hk => .inl hk⟩
 have hok : recOkB r.1 = true := by cases h : recOkB r.1 with | true => rfl | false => exact absurd h hok
 rw [hok] at HOK
 rcases atZ_cases (fsts ps) r.1 with hz | ⟨j, y, hz, hy, _⟩
 ·rw [hz] at HAT
  have ht := takes_none hok hz
  by_cases hfull : (fsts ps).length < 150
  ·have HF := hide (show takesB (fsts ps) r.1 = true by rw [ht]; exact decide_eq_true hfull)
   have hf2 : ¬ (150 : Int) ≤ (ps.length : Int) := by omega
   clear ht hz hfull hfl hok
   go_enter Tryz.func75, Tryz.ntmps75
   go_wp2_with fail
   rw [← hw0]
   clear hw0
   refine HAT.out.mono ?_
   rintro e wa ⟨rfl, ba⟩
   have bas := ba.size
   have BWA : Below w.heap.size w wa := BX.trans (ba.mono (by omega))
   have hx1 := (ba.block _ hsx).trans hx
   have d0 := cells_at hx1 0
   have d1 := cells_at hx1 1
   have d2 := cells_at hx1 2
   have d3 := cells_at hx1 3
   have d4 := cells_at hx1 4
   have d5 := cells_at hx1 5
   have d6 := cells_at hx1 6
   have d7 := cells_at hx1 7
   simp at d0 d1 d2 d3 d4 d5 d6 d7
   have hwl : w.heap.size < wa.heap.size := by omega
   have hnd : Below w.heap.size w wa.drew := BWA.drew
   clear ba HAT hx
   go_wp2
   refine wp_region_start (S := (fun W => W.cell? ⟨w.heap.size, 0, none⟩ = some (.int .i64 r.1.area) ∧ W.cell? ⟨w.heap.size, 1, none⟩ = some (.int .i64 r.1.kind) ∧ W.cell? ⟨w.heap.size, 2, none⟩ = some (.int .i64 r.1.owner) ∧ W.cell? ⟨w.heap.size, 3, none⟩ = some (.int .i64 r.1.key) ∧ W.cell? ⟨w.heap.size, 4, none⟩ = some (.int .i64 r.1.seq) ∧ W.cell? ⟨w.heap.size, 5, none⟩ = some (.slice ra r.1.near.length rc) ∧ W.cell? ⟨w.heap.size, 6, none⟩ = some (.int .i64 r.1.cost) ∧ W.cell? ⟨w.heap.size, 7, none⟩ = some (.bool r.1.far))) (by kernel_rfl) 26 rfl ⟨d0, d1, d2, d3, d4, d5, d6, d7⟩ (fun ops hops hHeld => ?_)
   refine take_d 0 ?_ ?_ ?_ (by rw [hops.out]; kernel_rfl) ?_ ?_ (by assumption) ?_
   rotate_left 2
   ·rw [hops.out]; simp only [getS]; rfl
   ·intro W hW; (try dsimp only at hW); go_simp <;> with_reducible rfl
   ·exact fun _ _ _ => id
   try simp only [putS]
   refine take_call 1 (oi := ?_) ?_ (by rw [hops.out]; kernel_rfl) ?_ ?_
   rotate_left 1
   ·rw [hops.out]; simp only [getS]; rfl
   ·rw [hops.out]; kernel_rfl
   intro K hK
   go_simp
   refine (HOK.out _ hnd).mono ?_
   rintro e w1 ⟨rfl, b1⟩
   have hSn : _ ∧ _ := (show ((fun W => W.cell? ⟨w.heap.size, 0, none⟩ = some (.int .i64 r.1.area) ∧ W.cell? ⟨w.heap.size, 1, none⟩ = some (.int .i64 r.1.kind) ∧ W.cell? ⟨w.heap.size, 2, none⟩ = some (.int .i64 r.1.owner) ∧ W.cell? ⟨w.heap.size, 3, none⟩ = some (.int .i64 r.1.key) ∧ W.cell? ⟨w.heap.size, 4, none⟩ = some (.int .i64 r.1.seq) ∧ W.cell? ⟨w.heap.size, 5, none⟩ = some (.slice ra r.1.near.length rc) ∧ W.cell? ⟨w.heap.size, 6, none⟩ = some (.int .i64 r.1.cost) ∧ W.cell? ⟨w.heap.size, 7, none⟩ = some (.bool r.1.far))) w1 from by
    obtain ⟨m0, m1, m2, m3, m4, m5, m6, m7⟩ := hHeld
    refine ⟨?_, ?_, ?_, ?_, ?_, ?_, ?_, ?_⟩ <;> (refine (b1.cell ?_).trans ?_ <;> assumption))
   refine hK.out _ _ hSn (fun hHeld => ?_)
   clear hK K hSn
   try simp only [putS]
   refine take_d 2 ?_ ?_ ?_ (by rw [hops.out]; kernel_rfl) ?_ ?_ (by assumption) ?_
   rotate_left 2
   ·rw [hops.out]; simp only [getS]; rfl
   ·intro W hW; (try dsimp only at hW); go_simp <;> with_reducible rfl
   ·exact fun _ _ _ => id
   try simp only [putS]
   refine take_d 3 ?_ ?_ ?_ (by rw [hops.out]; kernel_rfl) ?_ ?_ (by assumption) ?_
   rotate_left 2
   ·rw [hops.out]; simp only [getS]; rfl
   ·intro W hW; (try dsimp only at hW); go_simp <;> with_reducible rfl
   ·exact fun _ _ _ => id
   try simp only [putS]
   refine take_d 4 ?_ ?_ ?_ (by rw [hops.out]; kernel_rfl) ?_ ?_ (by assumption) ?_
   rotate_left 2
   ·rw [hops.out]; simp only [getS]; rfl
   ·intro W hW; (try dsimp only at hW); go_simp <;> with_reducible rfl
   ·exact fun _ _ _ => id
   try simp only [putS]
   refine take_do 5 (oi := ?_) (v := .bool false) ?_ (by rw [hops.out]; kernel_rfl) ?_ ?_ ?_ (by assumption) ?_
   rotate_left 1
   ·rw [hops.out]; simp only [getS]; rfl
   ·rw [hops.out]; kernel_rfl
   ·intro W hW; (try dsimp only at hW); go_simp <;> (first | with_reducible rfl | (simp; omega) | omega)
   ·exact fun _ _ _ => id
   try simp only [putS]
   refine take_d 6 ?_ ?_ ?_ (by rw [hops.out]; kernel_rfl) ?_ ?_ (by assumption) ?_
   rotate_left 2
   ·rw [hops.out]; simp only [getS]; rfl
   ·intro W hW; (try dsimp only at hW); go_simp <;> with_reducible rfl
   ·exact fun _ _ _ => id
   try simp only [putS]
   refine take_skp 7 17 (by rw [hops.out]; kernel_rfl) (fun _ _ _ h => h) (by assumption) ?_
   try simp only [putS]
   refine take_skp 8 18 (by rw [hops.out]; kernel_rfl) (fun _ _ _ h => h) (by assumption) ?_
   try simp only [putS]
   refine take_skp 9 19 (by rw [hops.out]; kernel_rfl) (fun _ _ _ h => h) (by assumption) ?_
   try simp only [putS]
   refine take_skp 10 20 (by rw [hops.out]; kernel_rfl) (fun _ _ _ h => h) (by assumption) ?_
   try simp only [putS]
   refine take_skp 11 21 (by rw [hops.out]; kernel_rfl) (fun _ _ _ h => h) (by assumption) ?_
   try simp only [putS]
   refine take_skp 12 22 (by rw [hops.out]; kernel_rfl) (fun _ _ _ h => h) (by assumption) ?_
   try simp only [putS]
   refine take_skp 13 23 (by rw [hops.out]; kernel_rfl) (fun _ _ _ h => h) (by assumption) ?_
   try simp only [putS]
   refine take_skp 14 24 (by rw [hops.out]; kernel_rfl) (fun _ _ _ h => h) (by assumption) ?_
   try simp only [putS]
   refine take_d 15 ?_ ?_ ?_ (by rw [hops.out]; kernel_rfl) ?_ ?_ (by assumption) ?_
   rotate_left 2
   ·rw [hops.out]; simp only [getS]; rfl
   ·intro W hW; (try dsimp only at hW); go_simp <;> with_reducible rfl
   ·exact fun _ _ _ => id
   try simp only [putS]
   refine take_d 16 ?_ ?_ ?_ (by rw [hops.out]; kernel_rfl) ?_ ?_ (by assumption) ?_
   rotate_left 2
   ·rw [hops.out]; simp only [getS]; rfl
   ·intro W hW; (try dsimp only at hW); go_simp <;> with_reducible rfl
   ·exact fun _ _ _ => id
   try simp only [putS]
   refine take_d 17 ?_ ?_ ?_ (by rw [hops.out]; kernel_rfl) ?_ ?_ (by assumption) ?_
   rotate_left 2
   ·rw [hops.out]; simp only [getS]; rfl
   ·intro W hW; (try dsimp only at hW); go_simp <;> with_reducible rfl
   ·exact fun _ _ _ => id
   try simp only [putS]
   refine take_d 18 ?_ ?_ ?_ (by rw [hops.out]; kernel_rfl) ?_ ?_ (by assumption) ?_
   rotate_left 2
   ·rw [hops.out]; simp only [getS]; rfl
   ·intro W hW; (try dsimp only at hW); go_simp <;> with_reducible rfl
   ·exact fun _ _ _ => id
   try simp only [putS]
   refine take_do 19 (oi := ?_) (v := .bool true) ?_ (by rw [hops.out]; kernel_rfl) ?_ ?_ ?_ (by assumption) ?_
   rotate_left 1
   ·rw [hops.out]; simp only [getS]; rfl
   ·rw [hops.out]; kernel_rfl
   ·intro W hW; (try dsimp only at hW); go_simp <;> (first | with_reducible rfl | (simp; omega) | omega)
   ·exact fun _ _ _ => id
   try simp only [putS]
   refine take_d 20 ?_ ?_ ?_ (by rw [hops.out]; kernel_rfl) ?_ ?_ (by assumption) ?_
   rotate_left 2
   ·rw [hops.out]; simp only [getS]; rfl
   ·intro W hW; (try dsimp only at hW); go_simp <;> with_reducible rfl
   ·exact fun _ _ _ => id
   try simp only [putS]
   refine take_d 21 ?_ ?_ ?_ (by rw [hops.out]; kernel_rfl) ?_ ?_ (by assumption) ?_
   rotate_left 2
   ·rw [hops.out]; simp only [getS]; rfl
   ·intro W hW; (try dsimp only at hW); go_simp <;> with_reducible rfl
   ·exact fun _ _ _ => id
   try simp only [putS]
   refine take_d 22 ?_ ?_ ?_ (by rw [hops.out]; kernel_rfl) ?_ ?_ (by assumption) ?_
   rotate_left 2
   ·rw [hops.out]; simp only [getS]; rfl
   ·intro W hW; (try dsimp only at hW); go_simp <;> with_reducible rfl
   ·exact fun _ _ _ => id
   try simp only [putS]
   refine take_do 23 (oi := ?_) (v := .bool false) ?_ (by rw [hops.out]; kernel_rfl) ?_ ?_ ?_ (by assumption) ?_
   rotate_left 1
   ·rw [hops.out]; simp only [getS]; rfl
   ·rw [hops.out]; kernel_rfl
   ·intro W hW; (try dsimp only at hW); go_simp <;> (first | with_reducible rfl | (simp; omega) | omega)
   ·exact fun _ _ _ => id
   try simp only [putS]
   refine take_d 24 ?_ ?_ ?_ (by rw [hops.out]; kernel_rfl) ?_ ?_ (by assumption) ?_
   rotate_left 2
   ·rw [hops.out]; simp only [getS]; rfl
   ·intro W hW; (try dsimp only at hW); go_simp <;> with_reducible rfl
   ·exact fun _ _ _ => id
   try simp only [putS]
   refine take_d 25 ?_ ?_ ?_ (by rw [hops.out]; kernel_rfl) ?_ ?_ (by assumption) ?_
   rotate_left 2
   ·rw [hops.out]; simp only [getS]; rfl
   ·intro W hW; (try dsimp only at hW); go_simp <;> with_reducible rfl
   ·exact fun _ _ _ => id
   try simp only [putS]
   refine wpAnyH_done (by rw [hops.out]; kernel_rfl) ?_ _
   clear hops ops
   have BW2 : Below w.heap.size w w1 := hnd.trans (b1.mono (by have : wa.drew.heap.size = wa.heap.size := rfl; omega))
   have hx2 := (b1.block _ (lt_of_heap hx1)).trans hx1
   have n0 := cells_at hx2 0
   have n1 := cells_at hx2 1
   have n2 := cells_at hx2 2
   have n3 := cells_at hx2 3
   have n4 := cells_at hx2 4
   have n5 := cells_at hx2 5
   have n6 := cells_at hx2 6
   have n7 := cells_at hx2 7
   simp at n0 n1 n2 n3 n4 n5 n6 n7
   go_wp2_with fail
   refine (HPUT.out _ BW2).mono ?_
   rintro e w3 ⟨u, rfl, hu, b3, hnw⟩
   obtain ⟨u1, u2, rfl⟩ := owns_lenS hu.row
   have HU := hide hu
   have HNW := hide hnw
   clear hu hnw
   go_wp2
   go_returns
   exact ⟨_, ret_tup (HT0.out.trans HF.out), by rw [HL0.out, inst_yes HF.out]; exact HU.out, BW2.trans (b3.mono BW2.size), fun k hk => .inr (by have := HNW.out k hk; have := BW2.size; omega)⟩
  ·have HF := hide (show takesB (fsts ps) r.1 = false by rw [ht]; exact decide_eq_false hfull)
   have hf2 : (150 : Int) ≤ (ps.length : Int) := by omega
   clear ht hz hfull hfl hok
   go_enter Tryz.func75, Tryz.ntmps75
   go_wp2_with fail
   rw [← hw0]
   clear hw0
   refine HAT.out.mono ?_
   rintro e wa ⟨rfl, ba⟩
   have bas := ba.size
   have BWA : Below w.heap.size w wa := BX.trans (ba.mono (by omega))
   have hx1 := (ba.block _ hsx).trans hx
   have d0 := cells_at hx1 0
   have d1 := cells_at hx1 1
   have d2 := cells_at hx1 2
   have d3 := cells_at hx1 3
   have d4 := cells_at hx1 4
   have d5 := cells_at hx1 5
   have d6 := cells_at hx1 6
   have d7 := cells_at hx1 7
   simp at d0 d1 d2 d3 d4 d5 d6 d7
   have hwl : w.heap.size < wa.heap.size := by omega
   have hnd : Below w.heap.size w wa.drew := BWA.drew
   clear ba HAT hx
   go_wp2
   refine wp_region_start (S := (fun W => W.cell? ⟨w.heap.size, 0, none⟩ = some (.int .i64 r.1.area) ∧ W.cell? ⟨w.heap.size, 1, none⟩ = some (.int .i64 r.1.kind) ∧ W.cell? ⟨w.heap.size, 2, none⟩ = some (.int .i64 r.1.owner) ∧ W.cell? ⟨w.heap.size, 3, none⟩ = some (.int .i64 r.1.key) ∧ W.cell? ⟨w.heap.size, 4, none⟩ = some (.int .i64 r.1.seq) ∧ W.cell? ⟨w.heap.size, 5, none⟩ = some (.slice ra r.1.near.length rc) ∧ W.cell? ⟨w.heap.size, 6, none⟩ = some (.int .i64 r.1.cost) ∧ W.cell? ⟨w.heap.size, 7, none⟩ = some (.bool r.1.far))) (by kernel_rfl) 26 rfl ⟨d0, d1, d2, d3, d4, d5, d6, d7⟩ (fun ops hops hHeld => ?_)
   refine take_d 0 ?_ ?_ ?_ (by rw [hops.out]; kernel_rfl) ?_ ?_ (by assumption) ?_
   rotate_left 2
   ·rw [hops.out]; simp only [getS]; rfl
   ·intro W hW; (try dsimp only at hW); go_simp <;> with_reducible rfl
   ·exact fun _ _ _ => id
   try simp only [putS]
   refine take_call 1 (oi := ?_) ?_ (by rw [hops.out]; kernel_rfl) ?_ ?_
   rotate_left 1
   ·rw [hops.out]; simp only [getS]; rfl
   ·rw [hops.out]; kernel_rfl
   intro K hK
   go_simp
   refine (HOK.out _ hnd).mono ?_
   rintro e w1 ⟨rfl, b1⟩
   have hSn : _ ∧ _ := (show ((fun W => W.cell? ⟨w.heap.size, 0, none⟩ = some (.int .i64 r.1.area) ∧ W.cell? ⟨w.heap.size, 1, none⟩ = some (.int .i64 r.1.kind) ∧ W.cell? ⟨w.heap.size, 2, none⟩ = some (.int .i64 r.1.owner) ∧ W.cell? ⟨w.heap.size, 3, none⟩ = some (.int .i64 r.1.key) ∧ W.cell? ⟨w.heap.size, 4, none⟩ = some (.int .i64 r.1.seq) ∧ W.cell? ⟨w.heap.size, 5, none⟩ = some (.slice ra r.1.near.length rc) ∧ W.cell? ⟨w.heap.size, 6, none⟩ = some (.int .i64 r.1.cost) ∧ W.cell? ⟨w.heap.size, 7, none⟩ = some (.bool r.1.far))) w1 from by
    obtain ⟨m0, m1, m2, m3, m4, m5, m6, m7⟩ := hHeld
    refine ⟨?_, ?_, ?_, ?_, ?_, ?_, ?_, ?_⟩ <;> (refine (b1.cell ?_).trans ?_ <;> assumption))
   refine hK.out _ _ hSn (fun hHeld => ?_)
   clear hK K hSn
   try simp only [putS]
   refine take_d 2 ?_ ?_ ?_ (by rw [hops.out]; kernel_rfl) ?_ ?_ (by assumption) ?_
   rotate_left 2
   ·rw [hops.out]; simp only [getS]; rfl
   ·intro W hW; (try dsimp only at hW); go_simp <;> with_reducible rfl
   ·exact fun _ _ _ => id
   try simp only [putS]
   refine take_d 3 ?_ ?_ ?_ (by rw [hops.out]; kernel_rfl) ?_ ?_ (by assumption) ?_
   rotate_left 2
   ·rw [hops.out]; simp only [getS]; rfl
   ·intro W hW; (try dsimp only at hW); go_simp <;> with_reducible rfl
   ·exact fun _ _ _ => id
   try simp only [putS]
   refine take_d 4 ?_ ?_ ?_ (by rw [hops.out]; kernel_rfl) ?_ ?_ (by assumption) ?_
   rotate_left 2
   ·rw [hops.out]; simp only [getS]; rfl
   ·intro W hW; (try dsimp only at hW); go_simp <;> with_reducible rfl
   ·exact fun _ _ _ => id
   try simp only [putS]
   refine take_do 5 (oi := ?_) (v := .bool false) ?_ (by rw [hops.out]; kernel_rfl) ?_ ?_ ?_ (by assumption) ?_
   rotate_left 1
   ·rw [hops.out]; simp only [getS]; rfl
   ·rw [hops.out]; kernel_rfl
   ·intro W hW; (try dsimp only at hW); go_simp <;> (first | with_reducible rfl | (simp; omega) | omega)
   ·exact fun _ _ _ => id
   try simp only [putS]
   refine take_d 6 ?_ ?_ ?_ (by rw [hops.out]; kernel_rfl) ?_ ?_ (by assumption) ?_
   rotate_left 2
   ·rw [hops.out]; simp only [getS]; rfl
   ·intro W hW; (try dsimp only at hW); go_simp <;> with_reducible rfl
   ·exact fun _ _ _ => id
   try simp only [putS]
   refine take_skp 7 17 (by rw [hops.out]; kernel_rfl) (fun _ _ _ h => h) (by assumption) ?_
   try simp only [putS]
   refine take_skp 8 18 (by rw [hops.out]; kernel_rfl) (fun _ _ _ h => h) (by assumption) ?_
   try simp only [putS]
   refine take_skp 9 19 (by rw [hops.out]; kernel_rfl) (fun _ _ _ h => h) (by assumption) ?_
   try simp only [putS]
   refine take_skp 10 20 (by rw [hops.out]; kernel_rfl) (fun _ _ _ h => h) (by assumption) ?_
   try simp only [putS]
   refine take_skp 11 21 (by rw [hops.out]; kernel_rfl) (fun _ _ _ h => h) (by assumption) ?_
   try simp only [putS]
   refine take_skp 12 22 (by rw [hops.out]; kernel_rfl) (fun _ _ _ h => h) (by assumption) ?_
   try simp only [putS]
   refine take_skp 13 23 (by rw [hops.out]; kernel_rfl) (fun _ _ _ h => h) (by assumption) ?_
   try simp only [putS]
   refine take_skp 14 24 (by rw [hops.out]; kernel_rfl) (fun _ _ _ h => h) (by assumption) ?_
   try simp only [putS]
   refine take_d 15 ?_ ?_ ?_ (by rw [hops.out]; kernel_rfl) ?_ ?_ (by assumption) ?_
   rotate_left 2
   ·rw [hops.out]; simp only [getS]; rfl
   ·intro W hW; (try dsimp only at hW); go_simp <;> with_reducible rfl
   ·exact fun _ _ _ => id
   try simp only [putS]
   refine take_d 16 ?_ ?_ ?_ (by rw [hops.out]; kernel_rfl) ?_ ?_ (by assumption) ?_
   rotate_left 2
   ·rw [hops.out]; simp only [getS]; rfl
   ·intro W hW; (try dsimp only at hW); go_simp <;> with_reducible rfl
   ·exact fun _ _ _ => id
   try simp only [putS]
   refine take_d 17 ?_ ?_ ?_ (by rw [hops.out]; kernel_rfl) ?_ ?_ (by assumption) ?_
   rotate_left 2
   ·rw [hops.out]; simp only [getS]; rfl
   ·intro W hW; (try dsimp only at hW); go_simp <;> with_reducible rfl
   ·exact fun _ _ _ => id
   try simp only [putS]
   refine take_d 18 ?_ ?_ ?_ (by rw [hops.out]; kernel_rfl) ?_ ?_ (by assumption) ?_
   rotate_left 2
   ·rw [hops.out]; simp only [getS]; rfl
   ·intro W hW; (try dsimp only at hW); go_simp <;> with_reducible rfl
   ·exact fun _ _ _ => id
   try simp only [putS]
   refine take_do 19 (oi := ?_) (v := .bool true) ?_ (by rw [hops.out]; kernel_rfl) ?_ ?_ ?_ (by assumption) ?_
   rotate_left 1
   ·rw [hops.out]; simp only [getS]; rfl
   ·rw [hops.out]; kernel_rfl
   ·intro W hW; (try dsimp only at hW); go_simp <;> (first | with_reducible rfl | (simp; omega) | omega)
   ·exact fun _ _ _ => id
   try simp only [putS]
   refine take_d 20 ?_ ?_ ?_ (by rw [hops.out]; kernel_rfl) ?_ ?_ (by assumption) ?_
   rotate_left 2
   ·rw [hops.out]; simp only [getS]; rfl
   ·intro W hW; (try dsimp only at hW); go_simp <;> with_reducible rfl
   ·exact fun _ _ _ => id
   try simp only [putS]
   refine take_d 21 ?_ ?_ ?_ (by rw [hops.out]; kernel_rfl) ?_ ?_ (by assumption) ?_
   rotate_left 2
   ·rw [hops.out]; simp only [getS]; rfl
   ·intro W hW; (try dsimp only at hW); go_simp <;> with_reducible rfl
   ·exact fun _ _ _ => id
   try simp only [putS]
   refine take_d 22 ?_ ?_ ?_ (by rw [hops.out]; kernel_rfl) ?_ ?_ (by assumption) ?_
   rotate_left 2
   ·rw [hops.out]; simp only [getS]; rfl
   ·intro W hW; (try dsimp only at hW); go_simp <;> with_reducible rfl
   ·exact fun _ _ _ => id
   try simp only [putS]
   refine take_do 23 (oi := ?_) (v := .bool true) ?_ (by rw [hops.out]; kernel_rfl) ?_ ?_ ?_ (by assumption) ?_
   rotate_left 1
   ·rw [hops.out]; simp only [getS]; rfl
   ·rw [hops.out]; kernel_rfl
   ·intro W hW; (try dsimp only at hW); go_simp <;> (first | with_reducible rfl | (simp; omega) | omega)
   ·exact fun _ _ _ => id
   try simp only [putS]
   refine take_d 24 ?_ ?_ ?_ (by rw [hops.out]; kernel_rfl) ?_ ?_ (by assumption) ?_
   rotate_left 2
   ·rw [hops.out]; simp only [getS]; rfl
   ·intro W hW; (try dsimp only at hW); go_simp <;> with_reducible rfl
   ·exact fun _ _ _ => id
   try simp only [putS]
   refine take_d 25 ?_ ?_ ?_ (by rw [hops.out]; kernel_rfl) ?_ ?_ (by assumption) ?_
   rotate_left 2
   ·rw [hops.out]; simp only [getS]; rfl
   ·intro W hW; (try dsimp only at hW); go_simp <;> with_reducible rfl
   ·exact fun _ _ _ => id
   try simp only [putS]
   refine wpAnyH_done (by rw [hops.out]; kernel_rfl) ?_ _
   clear hops ops
   have BW2 : Below w.heap.size w w1 := hnd.trans (b1.mono (by have : wa.drew.heap.size = wa.heap.size := rfl; omega))
   go_wp2
   go_returns
   exact ⟨_, ret_tup (HT0.out.trans HF.out), by rw [HL0.out, inst_no HF.out]; exact (HV.out.below BW2 hhi).wide (by have := BW2.size; omega), BW2, fun k hk => .inl hk⟩
 ·rw [hz] at HAT
  have ht := takes_at hok hz hy
  obtain ⟨t, htj, hty⟩ := fsts_some6 hy
  have hjl : j < ps.length := (List.getElem?_eq_some_iff.1 htj).1
  have hji : (0 : Int) ≤ (j : Int) := by omega
  have hjj : (j : Int) < (ps.length : Int) := by omega
  have hj0 : ¬ (j : Int) < 0 := by omega
  obtain ⟨b, off, cp, hve, hbb, _, _, _, _, e4, _, _, _, _⟩ := HV.out.at.cells j t htj
  cases hve
  rw [hty] at e4
  have hbw : b < w.heap.size := by omega
  clear hz hy htj hty hfl hok
  by_cases hsq : y.seq < r.1.seq
  ·have HF := hide (show takesB (fsts ps) r.1 = true by rw [ht]; exact decide_eq_true hsq)
   have hs2 : ¬ r.1.seq ≤ y.seq := by omega
   clear ht
   go_enter Tryz.func75, Tryz.ntmps75
   go_wp2_with fail
   rw [← hw0]
   clear hw0
   refine HAT.out.mono ?_
   rintro e wa ⟨rfl, ba⟩
   have bas := ba.size
   have BWA : Below w.heap.size w wa := BX.trans (ba.mono (by omega))
   have hx1 := (ba.block _ hsx).trans hx
   have d0 := cells_at hx1 0
   have d1 := cells_at hx1 1
   have d2 := cells_at hx1 2
   have d3 := cells_at hx1 3
   have d4 := cells_at hx1 4
   have d5 := cells_at hx1 5
   have d6 := cells_at hx1 6
   have d7 := cells_at hx1 7
   simp at d0 d1 d2 d3 d4 d5 d6 d7
   have hwl : w.heap.size < wa.heap.size := by omega
   have hnd : Below w.heap.size w wa.drew := BWA.drew
   rw [← BWA.cell (p := ⟨b, off + j * 8 + 4, none⟩) hbw] at e4
   have hbl : b < wa.heap.size := by omega
   clear ba HAT hx
   go_wp2
   refine wp_region_start (S := (fun W => W.cell? ⟨w.heap.size, 0, none⟩ = some (.int .i64 r.1.area) ∧ W.cell? ⟨w.heap.size, 1, none⟩ = some (.int .i64 r.1.kind) ∧ W.cell? ⟨w.heap.size, 2, none⟩ = some (.int .i64 r.1.owner) ∧ W.cell? ⟨w.heap.size, 3, none⟩ = some (.int .i64 r.1.key) ∧ W.cell? ⟨w.heap.size, 4, none⟩ = some (.int .i64 r.1.seq) ∧ W.cell? ⟨w.heap.size, 5, none⟩ = some (.slice ra r.1.near.length rc) ∧ W.cell? ⟨w.heap.size, 6, none⟩ = some (.int .i64 r.1.cost) ∧ W.cell? ⟨w.heap.size, 7, none⟩ = some (.bool r.1.far) ∧ W.cell? ⟨b, off + j * 8 + 4, none⟩ = some (.int .i64 y.seq))) (by kernel_rfl) 26 rfl ⟨d0, d1, d2, d3, d4, d5, d6, d7, e4⟩ (fun ops hops hHeld => ?_)
   refine take_d 0 ?_ ?_ ?_ (by rw [hops.out]; kernel_rfl) ?_ ?_ (by assumption) ?_
   rotate_left 2
   ·rw [hops.out]; simp only [getS]; rfl
   ·intro W hW; (try dsimp only at hW); go_simp <;> with_reducible rfl
   ·exact fun _ _ _ => id
   try simp only [putS]
   refine take_call 1 (oi := ?_) ?_ (by rw [hops.out]; kernel_rfl) ?_ ?_
   rotate_left 1
   ·rw [hops.out]; simp only [getS]; rfl
   ·rw [hops.out]; kernel_rfl
   intro K hK
   go_simp
   refine (HOK.out _ hnd).mono ?_
   rintro e w1 ⟨rfl, b1⟩
   have hSn : _ ∧ _ := (show ((fun W => W.cell? ⟨w.heap.size, 0, none⟩ = some (.int .i64 r.1.area) ∧ W.cell? ⟨w.heap.size, 1, none⟩ = some (.int .i64 r.1.kind) ∧ W.cell? ⟨w.heap.size, 2, none⟩ = some (.int .i64 r.1.owner) ∧ W.cell? ⟨w.heap.size, 3, none⟩ = some (.int .i64 r.1.key) ∧ W.cell? ⟨w.heap.size, 4, none⟩ = some (.int .i64 r.1.seq) ∧ W.cell? ⟨w.heap.size, 5, none⟩ = some (.slice ra r.1.near.length rc) ∧ W.cell? ⟨w.heap.size, 6, none⟩ = some (.int .i64 r.1.cost) ∧ W.cell? ⟨w.heap.size, 7, none⟩ = some (.bool r.1.far) ∧ W.cell? ⟨b, off + j * 8 + 4, none⟩ = some (.int .i64 y.seq))) w1 from by
    obtain ⟨m0, m1, m2, m3, m4, m5, m6, m7, m8⟩ := hHeld
    refine ⟨?_, ?_, ?_, ?_, ?_, ?_, ?_, ?_, ?_⟩ <;> (refine (b1.cell ?_).trans ?_ <;> assumption))
   refine hK.out _ _ hSn (fun hHeld => ?_)
   clear hK K hSn
   try simp only [putS]
   refine take_d 2 ?_ ?_ ?_ (by rw [hops.out]; kernel_rfl) ?_ ?_ (by assumption) ?_
   rotate_left 2
   ·rw [hops.out]; simp only [getS]; rfl
   ·intro W hW; (try dsimp only at hW); go_simp <;> with_reducible rfl
   ·exact fun _ _ _ => id
   try simp only [putS]
   refine take_d 3 ?_ ?_ ?_ (by rw [hops.out]; kernel_rfl) ?_ ?_ (by assumption) ?_
   rotate_left 2
   ·rw [hops.out]; simp only [getS]; rfl
   ·intro W hW; (try dsimp only at hW); go_simp <;> with_reducible rfl
   ·exact fun _ _ _ => id
   try simp only [putS]
   refine take_d 4 ?_ ?_ ?_ (by rw [hops.out]; kernel_rfl) ?_ ?_ (by assumption) ?_
   rotate_left 2
   ·rw [hops.out]; simp only [getS]; rfl
   ·intro W hW; (try dsimp only at hW); go_simp <;> with_reducible rfl
   ·exact fun _ _ _ => id
   try simp only [putS]
   refine take_do 5 (oi := ?_) (v := .bool true) ?_ (by rw [hops.out]; kernel_rfl) ?_ ?_ ?_ (by assumption) ?_
   rotate_left 1
   ·rw [hops.out]; simp only [getS]; rfl
   ·rw [hops.out]; kernel_rfl
   ·intro W hW; (try dsimp only at hW); go_simp <;> (first | with_reducible rfl | (simp; omega) | omega)
   ·exact fun _ _ _ => id
   try simp only [putS]
   refine take_d 6 ?_ ?_ ?_ (by rw [hops.out]; kernel_rfl) ?_ ?_ (by assumption) ?_
   rotate_left 2
   ·rw [hops.out]; simp only [getS]; rfl
   ·intro W hW; (try dsimp only at hW); go_simp <;> with_reducible rfl
   ·exact fun _ _ _ => id
   try simp only [putS]
   refine take_d 7 ?_ ?_ ?_ (by rw [hops.out]; kernel_rfl) ?_ ?_ (by assumption) ?_
   rotate_left 2
   ·rw [hops.out]; simp only [getS]; rfl
   ·intro W hW; (try dsimp only at hW); go_simp <;> with_reducible rfl
   ·exact fun _ _ _ => id
   try simp only [putS]
   refine take_d 8 ?_ ?_ ?_ (by rw [hops.out]; kernel_rfl) ?_ ?_ (by assumption) ?_
   rotate_left 2
   ·rw [hops.out]; simp only [getS]; rfl
   ·intro W hW; (try dsimp only at hW); go_simp <;> with_reducible rfl
   ·exact fun _ _ _ => id
   try simp only [putS]
   refine take_d 9 ?_ ?_ ?_ (by rw [hops.out]; kernel_rfl) ?_ ?_ (by assumption) ?_
   rotate_left 2
   ·rw [hops.out]; simp only [getS]; rfl
   ·intro W hW; (try dsimp only at hW); go_simp <;> with_reducible rfl
   ·exact fun _ _ _ => id
   try simp only [putS]
   refine take_d 10 ?_ ?_ ?_ (by rw [hops.out]; kernel_rfl) ?_ ?_ (by assumption) ?_
   rotate_left 2
   ·rw [hops.out]; simp only [getS]; rfl
   ·intro W hW; (try dsimp only at hW); go_simp <;> with_reducible rfl
   ·exact fun _ _ _ => id
   try simp only [putS]
   refine take_d 11 ?_ ?_ ?_ (by rw [hops.out]; kernel_rfl) ?_ ?_ (by assumption) ?_
   rotate_left 2
   ·rw [hops.out]; simp only [getS]; rfl
   ·intro W hW; (try dsimp only at hW); go_simp <;> with_reducible rfl
   ·exact fun _ _ _ => id
   try simp only [putS]
   refine take_d 12 ?_ ?_ ?_ (by rw [hops.out]; kernel_rfl) ?_ ?_ (by assumption) ?_
   rotate_left 2
   ·rw [hops.out]; simp only [getS]; rfl
   ·intro W hW; (try dsimp only at hW); go_simp <;> with_reducible rfl
   ·exact fun _ _ _ => id
   try simp only [putS]
   refine take_d 13 ?_ ?_ ?_ (by rw [hops.out]; kernel_rfl) ?_ ?_ (by assumption) ?_
   rotate_left 2
   ·rw [hops.out]; simp only [getS]; rfl
   ·intro W hW; (try dsimp only at hW); go_simp <;> with_reducible rfl
   ·exact fun _ _ _ => id
   try simp only [putS]
   refine take_do 14 (oi := ?_) (v := .bool false) ?_ (by rw [hops.out]; kernel_rfl) ?_ ?_ ?_ (by assumption) ?_
   rotate_left 1
   ·rw [hops.out]; simp only [getS]; rfl
   ·rw [hops.out]; kernel_rfl
   ·intro W hW; (try dsimp only at hW); go_simp <;> (first | with_reducible rfl | (simp; omega) | omega)
   ·exact fun _ _ _ => id
   try simp only [putS]
   refine take_d 15 ?_ ?_ ?_ (by rw [hops.out]; kernel_rfl) ?_ ?_ (by assumption) ?_
   rotate_left 2
   ·rw [hops.out]; simp only [getS]; rfl
   ·intro W hW; (try dsimp only at hW); go_simp <;> with_reducible rfl
   ·exact fun _ _ _ => id
   try simp only [putS]
   refine take_d 16 ?_ ?_ ?_ (by rw [hops.out]; kernel_rfl) ?_ ?_ (by assumption) ?_
   rotate_left 2
   ·rw [hops.out]; simp only [getS]; rfl
   ·intro W hW; (try dsimp only at hW); go_simp <;> with_reducible rfl
   ·exact fun _ _ _ => id
   try simp only [putS]
   refine take_d 17 ?_ ?_ ?_ (by rw [hops.out]; kernel_rfl) ?_ ?_ (by assumption) ?_
   rotate_left 2
   ·rw [hops.out]; simp only [getS]; rfl
   ·intro W hW; (try dsimp only at hW); go_simp <;> with_reducible rfl
   ·exact fun _ _ _ => id
   try simp only [putS]
   refine take_d 18 ?_ ?_ ?_ (by rw [hops.out]; kernel_rfl) ?_ ?_ (by assumption) ?_
   rotate_left 2
   ·rw [hops.out]; simp only [getS]; rfl
   ·intro W hW; (try dsimp only at hW); go_simp <;> with_reducible rfl
   ·exact fun _ _ _ => id
   try simp only [putS]
   refine take_do 19 (oi := ?_) (v := .bool false) ?_ (by rw [hops.out]; kernel_rfl) ?_ ?_ ?_ (by assumption) ?_
   rotate_left 1
   ·rw [hops.out]; simp only [getS]; rfl
   ·rw [hops.out]; kernel_rfl
   ·intro W hW; (try dsimp only at hW); go_simp <;> (first | with_reducible rfl | (simp; omega) | omega)
   ·exact fun _ _ _ => id
   try simp only [putS]
   refine take_d 20 ?_ ?_ ?_ (by rw [hops.out]; kernel_rfl) ?_ ?_ (by assumption) ?_
   rotate_left 2
   ·rw [hops.out]; simp only [getS]; rfl
   ·intro W hW; (try dsimp only at hW); go_simp <;> with_reducible rfl
   ·exact fun _ _ _ => id
   try simp only [putS]
   refine take_skp 21 31 (by rw [hops.out]; kernel_rfl) (fun _ _ _ h => h) (by assumption) ?_
   try simp only [putS]
   refine take_skp 22 32 (by rw [hops.out]; kernel_rfl) (fun _ _ _ h => h) (by assumption) ?_
   try simp only [putS]
   refine take_skp 23 33 (by rw [hops.out]; kernel_rfl) (fun _ _ _ h => h) (by assumption) ?_
   try simp only [putS]
   refine take_d 24 ?_ ?_ ?_ (by rw [hops.out]; kernel_rfl) ?_ ?_ (by assumption) ?_
   rotate_left 2
   ·rw [hops.out]; simp only [getS]; rfl
   ·intro W hW; (try dsimp only at hW); go_simp <;> with_reducible rfl
   ·exact fun _ _ _ => id
   try simp only [putS]
   refine take_d 25 ?_ ?_ ?_ (by rw [hops.out]; kernel_rfl) ?_ ?_ (by assumption) ?_
   rotate_left 2
   ·rw [hops.out]; simp only [getS]; rfl
   ·intro W hW; (try dsimp only at hW); go_simp <;> with_reducible rfl
   ·exact fun _ _ _ => id
   try simp only [putS]
   refine wpAnyH_done (by rw [hops.out]; kernel_rfl) ?_ _
   clear hops ops
   have BW2 : Below w.heap.size w w1 := hnd.trans (b1.mono (by have : wa.drew.heap.size = wa.heap.size := rfl; omega))
   have hx2 := (b1.block _ (lt_of_heap hx1)).trans hx1
   have n0 := cells_at hx2 0
   have n1 := cells_at hx2 1
   have n2 := cells_at hx2 2
   have n3 := cells_at hx2 3
   have n4 := cells_at hx2 4
   have n5 := cells_at hx2 5
   have n6 := cells_at hx2 6
   have n7 := cells_at hx2 7
   simp at n0 n1 n2 n3 n4 n5 n6 n7
   go_wp2_with fail
   refine (HPUT.out _ BW2).mono ?_
   rintro e w3 ⟨u, rfl, hu, b3, hnw⟩
   obtain ⟨u1, u2, rfl⟩ := owns_lenS hu.row
   have HU := hide hu
   have HNW := hide hnw
   clear hu hnw
   go_wp2
   go_returns
   exact ⟨_, ret_tup (HT0.out.trans HF.out), by rw [HL0.out, inst_yes HF.out]; exact HU.out, BW2.trans (b3.mono BW2.size), fun k hk => .inr (by have := HNW.out k hk; have := BW2.size; omega)⟩
  ·have HF := hide (show takesB (fsts ps) r.1 = false by rw [ht]; exact decide_eq_false hsq)
   have hs2 : r.1.seq ≤ y.seq := by omega
   clear ht
   go_enter Tryz.func75, Tryz.ntmps75
   go_wp2_with fail
   rw [← hw0]
   clear hw0
   refine HAT.out.mono ?_
   rintro e wa ⟨rfl, ba⟩
   have bas := ba.size
   have BWA : Below w.heap.size w wa := BX.trans (ba.mono (by omega))
   have hx1 := (ba.block _ hsx).trans hx
   have d0 := cells_at hx1 0
   have d1 := cells_at hx1 1
   have d2 := cells_at hx1 2
   have d3 := cells_at hx1 3
   have d4 := cells_at hx1 4
   have d5 := cells_at hx1 5
   have d6 := cells_at hx1 6
   have d7 := cells_at hx1 7
   simp at d0 d1 d2 d3 d4 d5 d6 d7
   have hwl : w.heap.size < wa.heap.size := by omega
   have hnd : Below w.heap.size w wa.drew := BWA.drew
   rw [← BWA.cell (p := ⟨b, off + j * 8 + 4, none⟩) hbw] at e4
   have hbl : b < wa.heap.size := by omega
   clear ba HAT hx
   go_wp2
   refine wp_region_start (S := (fun W => W.cell? ⟨w.heap.size, 0, none⟩ = some (.int .i64 r.1.area) ∧ W.cell? ⟨w.heap.size, 1, none⟩ = some (.int .i64 r.1.kind) ∧ W.cell? ⟨w.heap.size, 2, none⟩ = some (.int .i64 r.1.owner) ∧ W.cell? ⟨w.heap.size, 3, none⟩ = some (.int .i64 r.1.key) ∧ W.cell? ⟨w.heap.size, 4, none⟩ = some (.int .i64 r.1.seq) ∧ W.cell? ⟨w.heap.size, 5, none⟩ = some (.slice ra r.1.near.length rc) ∧ W.cell? ⟨w.heap.size, 6, none⟩ = some (.int .i64 r.1.cost) ∧ W.cell? ⟨w.heap.size, 7, none⟩ = some (.bool r.1.far) ∧ W.cell? ⟨b, off + j * 8 + 4, none⟩ = some (.int .i64 y.seq))) (by kernel_rfl) 26 rfl ⟨d0, d1, d2, d3, d4, d5, d6, d7, e4⟩ (fun ops hops hHeld => ?_)
   refine take_d 0 ?_ ?_ ?_ (by rw [hops.out]; kernel_rfl) ?_ ?_ (by assumption) ?_
   rotate_left 2
   ·rw [hops.out]; simp only [getS]; rfl
   ·intro W hW; (try dsimp only at hW); go_simp <;> with_reducible rfl
   ·exact fun _ _ _ => id
   try simp only [putS]
   refine take_call 1 (oi := ?_) ?_ (by rw [hops.out]; kernel_rfl) ?_ ?_
   rotate_left 1
   ·rw [hops.out]; simp only [getS]; rfl
   ·rw [hops.out]; kernel_rfl
   intro K hK
   go_simp
   refine (HOK.out _ hnd).mono ?_
   rintro e w1 ⟨rfl, b1⟩
   have hSn : _ ∧ _ := (show ((fun W => W.cell? ⟨w.heap.size, 0, none⟩ = some (.int .i64 r.1.area) ∧ W.cell? ⟨w.heap.size, 1, none⟩ = some (.int .i64 r.1.kind) ∧ W.cell? ⟨w.heap.size, 2, none⟩ = some (.int .i64 r.1.owner) ∧ W.cell? ⟨w.heap.size, 3, none⟩ = some (.int .i64 r.1.key) ∧ W.cell? ⟨w.heap.size, 4, none⟩ = some (.int .i64 r.1.seq) ∧ W.cell? ⟨w.heap.size, 5, none⟩ = some (.slice ra r.1.near.length rc) ∧ W.cell? ⟨w.heap.size, 6, none⟩ = some (.int .i64 r.1.cost) ∧ W.cell? ⟨w.heap.size, 7, none⟩ = some (.bool r.1.far) ∧ W.cell? ⟨b, off + j * 8 + 4, none⟩ = some (.int .i64 y.seq))) w1 from by
    obtain ⟨m0, m1, m2, m3, m4, m5, m6, m7, m8⟩ := hHeld
    refine ⟨?_, ?_, ?_, ?_, ?_, ?_, ?_, ?_, ?_⟩ <;> (refine (b1.cell ?_).trans ?_ <;> assumption))
   refine hK.out _ _ hSn (fun hHeld => ?_)
   clear hK K hSn
   try simp only [putS]
   refine take_d 2 ?_ ?_ ?_ (by rw [hops.out]; kernel_rfl) ?_ ?_ (by assumption) ?_
   rotate_left 2
   ·rw [hops.out]; simp only [getS]; rfl
   ·intro W hW; (try dsimp only at hW); go_simp <;> with_reducible rfl
   ·exact fun _ _ _ => id
   try simp only [putS]
   refine take_d 3 ?_ ?_ ?_ (by rw [hops.out]; kernel_rfl) ?_ ?_ (by assumption) ?_
   rotate_left 2
   ·rw [hops.out]; simp only [getS]; rfl
   ·intro W hW; (try dsimp only at hW); go_simp <;> with_reducible rfl
   ·exact fun _ _ _ => id
   try simp only [putS]
   refine take_d 4 ?_ ?_ ?_ (by rw [hops.out]; kernel_rfl) ?_ ?_ (by assumption) ?_
   rotate_left 2
   ·rw [hops.out]; simp only [getS]; rfl
   ·intro W hW; (try dsimp only at hW); go_simp <;> with_reducible rfl
   ·exact fun _ _ _ => id
   try simp only [putS]
   refine take_do 5 (oi := ?_) (v := .bool true) ?_ (by rw [hops.out]; kernel_rfl) ?_ ?_ ?_ (by assumption) ?_
   rotate_left 1
   ·rw [hops.out]; simp only [getS]; rfl
   ·rw [hops.out]; kernel_rfl
   ·intro W hW; (try dsimp only at hW); go_simp <;> (first | with_reducible rfl | (simp; omega) | omega)
   ·exact fun _ _ _ => id
   try simp only [putS]
   refine take_d 6 ?_ ?_ ?_ (by rw [hops.out]; kernel_rfl) ?_ ?_ (by assumption) ?_
   rotate_left 2
   ·rw [hops.out]; simp only [getS]; rfl
   ·intro W hW; (try dsimp only at hW); go_simp <;> with_reducible rfl
   ·exact fun _ _ _ => id
   try simp only [putS]
   refine take_d 7 ?_ ?_ ?_ (by rw [hops.out]; kernel_rfl) ?_ ?_ (by assumption) ?_
   rotate_left 2
   ·rw [hops.out]; simp only [getS]; rfl
   ·intro W hW; (try dsimp only at hW); go_simp <;> with_reducible rfl
   ·exact fun _ _ _ => id
   try simp only [putS]
   refine take_d 8 ?_ ?_ ?_ (by rw [hops.out]; kernel_rfl) ?_ ?_ (by assumption) ?_
   rotate_left 2
   ·rw [hops.out]; simp only [getS]; rfl
   ·intro W hW; (try dsimp only at hW); go_simp <;> with_reducible rfl
   ·exact fun _ _ _ => id
   try simp only [putS]
   refine take_d 9 ?_ ?_ ?_ (by rw [hops.out]; kernel_rfl) ?_ ?_ (by assumption) ?_
   rotate_left 2
   ·rw [hops.out]; simp only [getS]; rfl
   ·intro W hW; (try dsimp only at hW); go_simp <;> with_reducible rfl
   ·exact fun _ _ _ => id
   try simp only [putS]
   refine take_d 10 ?_ ?_ ?_ (by rw [hops.out]; kernel_rfl) ?_ ?_ (by assumption) ?_
   rotate_left 2
   ·rw [hops.out]; simp only [getS]; rfl
   ·intro W hW; (try dsimp only at hW); go_simp <;> with_reducible rfl
   ·exact fun _ _ _ => id
   try simp only [putS]
   refine take_d 11 ?_ ?_ ?_ (by rw [hops.out]; kernel_rfl) ?_ ?_ (by assumption) ?_
   rotate_left 2
   ·rw [hops.out]; simp only [getS]; rfl
   ·intro W hW; (try dsimp only at hW); go_simp <;> with_reducible rfl
   ·exact fun _ _ _ => id
   try simp only [putS]
   refine take_d 12 ?_ ?_ ?_ (by rw [hops.out]; kernel_rfl) ?_ ?_ (by assumption) ?_
   rotate_left 2
   ·rw [hops.out]; simp only [getS]; rfl
   ·intro W hW; (try dsimp only at hW); go_simp <;> with_reducible rfl
   ·exact fun _ _ _ => id
   try simp only [putS]
   refine take_d 13 ?_ ?_ ?_ (by rw [hops.out]; kernel_rfl) ?_ ?_ (by assumption) ?_
   rotate_left 2
   ·rw [hops.out]; simp only [getS]; rfl
   ·intro W hW; (try dsimp only at hW); go_simp <;> with_reducible rfl
   ·exact fun _ _ _ => id
   try simp only [putS]
   refine take_do 14 (oi := ?_) (v := .bool true) ?_ (by rw [hops.out]; kernel_rfl) ?_ ?_ ?_ (by assumption) ?_
   rotate_left 1
   ·rw [hops.out]; simp only [getS]; rfl
   ·rw [hops.out]; kernel_rfl
   ·intro W hW; (try dsimp only at hW); go_simp <;> (first | with_reducible rfl | (simp; omega) | omega)
   ·exact fun _ _ _ => id
   try simp only [putS]
   refine take_d 15 ?_ ?_ ?_ (by rw [hops.out]; kernel_rfl) ?_ ?_ (by assumption) ?_
   rotate_left 2
   ·rw [hops.out]; simp only [getS]; rfl
   ·intro W hW; (try dsimp only at hW); go_simp <;> with_reducible rfl
   ·exact fun _ _ _ => id
   try simp only [putS]
   refine take_d 16 ?_ ?_ ?_ (by rw [hops.out]; kernel_rfl) ?_ ?_ (by assumption) ?_
   rotate_left 2
   ·rw [hops.out]; simp only [getS]; rfl
   ·intro W hW; (try dsimp only at hW); go_simp <;> with_reducible rfl
   ·exact fun _ _ _ => id
   try simp only [putS]
   refine take_d 17 ?_ ?_ ?_ (by rw [hops.out]; kernel_rfl) ?_ ?_ (by assumption) ?_
   rotate_left 2
   ·rw [hops.out]; simp only [getS]; rfl
   ·intro W hW; (try dsimp only at hW); go_simp <;> with_reducible rfl
   ·exact fun _ _ _ => id
   try simp only [putS]
   refine take_skp 18 28 (by rw [hops.out]; kernel_rfl) (fun _ _ _ h => h) (by assumption) ?_
   try simp only [putS]
   refine take_skp 19 29 (by rw [hops.out]; kernel_rfl) (fun _ _ _ h => h) (by assumption) ?_
   try simp only [putS]
   refine take_skp 20 30 (by rw [hops.out]; kernel_rfl) (fun _ _ _ h => h) (by assumption) ?_
   try simp only [putS]
   refine take_skp 21 31 (by rw [hops.out]; kernel_rfl) (fun _ _ _ h => h) (by assumption) ?_
   try simp only [putS]
   refine take_skp 22 32 (by rw [hops.out]; kernel_rfl) (fun _ _ _ h => h) (by assumption) ?_
   try simp only [putS]
   refine take_skp 23 33 (by rw [hops.out]; kernel_rfl) (fun _ _ _ h => h) (by assumption) ?_
   try simp only [putS]
   refine take_skp 24 34 (by rw [hops.out]; kernel_rfl) (fun _ _ _ h => h) (by assumption) ?_
   try simp only [putS]
   refine take_d 25 ?_ ?_ ?_ (by rw [hops.out]; kernel_rfl) ?_ ?_ (by assumption) ?_
   rotate_left 2
   ·rw [hops.out]; simp only [getS]; rfl
   ·intro W hW; (try dsimp only at hW); go_simp <;> with_reducible rfl
   ·exact fun _ _ _ => id
   try simp only [putS]
   refine wpAnyH_done (by rw [hops.out]; kernel_rfl) ?_ _
   clear hops ops
   have BW2 : Below w.heap.size w w1 := hnd.trans (b1.mono (by have : wa.drew.heap.size = wa.heap.size := rfl; omega))
   go_wp2
   go_returns
   exact ⟨_, ret_tup (HT0.out.trans HF.out), by rw [HL0.out, inst_no HF.out]; exact (HV.out.below BW2 hhi).wide (by have := BW2.size; omega), BW2, fun k hk => .inl hk⟩
theorem sinst_any (v : Value) (ps : List RP) (hi : Nat) (r : RP) (w : World) (hv : RecsIn w hi v ps) (hhi : hi ≤ w.heap.size) (hn : tot ps ≤ 1048576) (hr : NearOwn w 0 hi r) (hrl : r.1.near.length ≤ 1048576) :
  Calls Tryz.prog 75 #[v, .agg (recC r.1 r.2)] w fun e w' => ∃ x, e = .returned (.tuple #[x, .bool (takesB (fsts ps) r.1)]) ∧ RecsIn w' w'.heap.size x (instL ps r) ∧ Below w.heap.size w w' := by
 refine (sinst_fine v ps hi r w hv hhi hn hr hrl).mono ?_
 rintro e w' ⟨x, h1, h2, h3, _⟩
 exact ⟨x, h1, h2, h3⟩
end Go.Proofs.YtmijnjnihhemgaaGreat
