/-
  laws.szSelf, toSelf, eqSelf: their contracts.
  spec.SameKey, spec.SameBody: their contracts.
  impl.Record.key, impl.SameKey: their contracts.
  spec.Before: its contract.
  A key of four numbers in a block.
  slices.Compare at two keys, impl.Before: their contracts.
  Where a key stands in a list: spec.l05At, impl's placeOf.
  spec.l05At, impl's placeOf at lists that may share rows.
  spec.l05Put: its contract.
-/
import Derived.Test.YtmijnjnihhemgaaGreatQm6
import Derived.Test.YtmijnjnihhemgaaGreatQm5
import Derived.Laws.StructEq
import Derived.Deep.RegionHeld3
import Derived.ChangeKeysEq
import Derived.Test.YtmijnjnihhemgaaGreatQm2
import Derived.Test.YtmijnjnihhemgaaGreatQm3
namespace Go.Proofs.YtmijnjnihhemgaaGreat
open Go.RowKit
set_option linter.unusedSimpArgs false
set_option linter.unusedVariables false
set_option maxRecDepth 100000
set_option maxHeartbeats 8000000
theorem SelfIn.net {W : World} {v1 v2 v3 v4 : Value} {x : SelfD} {ps : List RP} {B : Nat} (h : SelfIn W v1 v2 v3 v4 x ps B) : NetAt W (.agg #[.int .i64 x.net.n, v1, v2]) x.net B := ⟨v1, v2, rfl, h.links, h.things⟩
theorem SelfIn.shapes {W : World} {v1 v2 v3 v4 : Value} {x : SelfD} {ps : List RP} {B : Nat} (h : SelfIn W v1 v2 v3 v4 x ps B) : (∃ a c, v1 = .slice a x.net.ls.length c) ∧ (∃ a c, v2 = .slice a x.net.ts.length c) ∧ (∃ a c, v3 = .slice a x.heard.length c) ∧ ∃ a c, v4 = .slice a ps.length c :=
 ⟨h.links.shape, h.things.shape, h.heard.shape, h.store.shape⟩
def sameKeyB (x y : RecD) : Bool := x.area == y.area && x.kind == y.kind && x.owner == y.owner && x.key == y.key
theorem ssameKey_any (v1 v2 : Value) (x y : RecD) (w : World) : Calls Tryz.prog 67 #[.agg (recC x v1), .agg (recC y v2)] w fun e w' => e = .returned (.bool (sameKeyB x y)) ∧ Below w.heap.size w w' := by
 obtain ⟨a0, a1, a2, a3, a4, ns, a6, a7⟩ := x
 obtain ⟨b0, b1, b2, b3, b4, ms, b6, b7⟩ := y
 unfold recC
 simp only []
 go_enter Tryz.func67, Tryz.ntmps67
 go_wp2
 all_goals go_ret
 all_goals refine ⟨ret_bool ?_, below_two _ _⟩
 all_goals (simp only [sameKeyB]; grind)
theorem near_neq (w : World) (a b a' b' : Int) : (binOp .neq 107 (.agg #[.int .i64 a, .int .i64 b]) (.agg #[.int .i64 a', .int .i64 b'])).run Tryz.prog w = .ok (.bool (!decide ((⟨a, b⟩ : Nr) = ⟨a', b'⟩))) w := by
 go_simp
 by_cases h1 : a = a' <;> by_cases h2 : b = b' <;> simp [h1, h2]
def keyC (x : RecD) : Array Value := #[.int .i64 x.area, .int .i64 x.kind, .int .i64 x.owner, .int .i64 x.key]
theorem keyOf_any (v1 : Value) (x : RecD) (w : World) : Calls Tryz.prog 192 #[.agg (recC x v1)] w fun e w' => e = .returned (.agg (keyC x)) ∧ Below w.heap.size w w' := by
 obtain ⟨a0, a1, a2, a3, a4, ns, a6, a7⟩ := x
 unfold recC keyC
 simp only []
 go_enter Tryz.func192, Tryz.ntmps192
 go_wp2
 go_returns
 exact ⟨rfl, below_two _ _⟩
theorem keyOf_raw (a0 a1 a2 a3 a4 : Int) (v : Value) (a6 : Int) (a7 : Bool) (w : World) : Calls Tryz.prog 192 #[.agg #[.int .i64 a0, .int .i64 a1, .int .i64 a2, .int .i64 a3, .int .i64 a4, v, .int .i64 a6, .bool a7]] w fun e w' => e = .returned (.agg #[.int .i64 a0, .int .i64 a1, .int .i64 a2, .int .i64 a3]) ∧ Below w.heap.size w w' :=
 keyOf_any v ⟨a0, a1, a2, a3, a4, [], a6, a7⟩ w
theorem Tryz.info3k : (Tryz.prog.info? 3).map (fun i => (i.zero, i.size, i.bytes)) = some (some (.int .i64 0), 1, 8) := by kernel_rfl
theorem key_eql (w : World) (a b c d a' b' c' d' : Int) : (binOp .eql 217 (.agg #[.int .i64 a, .int .i64 b, .int .i64 c, .int .i64 d]) (.agg #[.int .i64 a', .int .i64 b', .int .i64 c', .int .i64 d'])).run Tryz.prog w = .ok (.bool (a == a' && b == b' && c == c' && d == d')) w := by
 obtain ⟨i0, hi, _⟩ := info_parts Tryz.info3k
 have hu : Tryz.prog.underlying 217 = some (.array 4 3) := by kernel_rfl
 have u3 : Tryz.prog.underlying 3 = some (.int .i64) := by kernel_rfl
 have hc : Tryz.prog.cellsOf 3 = 1 := by kernel_rfl
 have hp : Tryz.prog.plainKey 3 = true := by kernel_rfl
 have pt : ∀ (xs : Array Value) (off : Nat) (u : Value), xs[off]? = some u → (Go.part 3 xs off).run Tryz.prog w = .ok u w := fun xs off u h => run_part_plain w hp h
 have eqi : ∀ (n : Nat) (x y : Int), (Op.equalIn (n + 1) 3 (.int .i64 x) (.int .i64 y)).run Tryz.prog w = .ok (x == y) w := fun n x y => run_equalIn_int w n 3 .i64 .i64 x y u3
 go_simp
 have e1 : (Op.equalIn 10000 217 (.agg #[.int .i64 a, .int .i64 b, .int .i64 c, .int .i64 d]) (.agg #[.int .i64 a', .int .i64 b', .int .i64 c', .int .i64 d'])).run Tryz.prog w = .ok (a == a' && b == b' && c == c' && d == d') w := by
  rw [run_equalIn_array w 9999 _ _ hu hi, hc]
  show (Op.eqItems 9999 3 1 _ _ [0, 1, 2, 3]).run Tryz.prog w = _
  simp only [Op.eqItems, Sem.run_bind]
  rw [pt _ _ (.int .i64 a) rfl]
  simp only [Result.andThen_ok]
  rw [pt _ _ (.int .i64 a') rfl]
  simp only [Result.andThen_ok]
  rw [eqi 9998 a a']
  simp only [Result.andThen_ok]
  cases a == a'
  ·rfl
  simp only [Bool.not_true, Bool.false_eq_true, if_false, Sem.run_bind, Bool.true_and]
  rw [pt _ _ (.int .i64 b) rfl]
  simp only [Result.andThen_ok]
  rw [pt _ _ (.int .i64 b') rfl]
  simp only [Result.andThen_ok]
  rw [eqi 9998 b b']
  simp only [Result.andThen_ok]
  cases b == b'
  ·rfl
  simp only [Bool.not_true, Bool.false_eq_true, if_false, Sem.run_bind, Bool.true_and]
  rw [pt _ _ (.int .i64 c) rfl]
  simp only [Result.andThen_ok]
  rw [pt _ _ (.int .i64 c') rfl]
  simp only [Result.andThen_ok]
  rw [eqi 9998 c c']
  simp only [Result.andThen_ok]
  cases c == c'
  ·rfl
  simp only [Bool.not_true, Bool.false_eq_true, if_false, Sem.run_bind, Bool.true_and]
  rw [pt _ _ (.int .i64 d) rfl]
  simp only [Result.andThen_ok]
  rw [pt _ _ (.int .i64 d') rfl]
  simp only [Result.andThen_ok]
  rw [eqi 9998 d d']
  simp only [Result.andThen_ok]
  cases d == d'
  ·rfl
  ·rfl
 rw [e1]
 rfl
def beforeB (x y : RecD) : Bool := decide (x.area < y.area) || (x.area == y.area && (decide (x.kind < y.kind) || (x.kind == y.kind && (decide (x.owner < y.owner) || (x.owner == y.owner && decide (x.key < y.key))))))
theorem sbefore_any (v1 v2 : Value) (x y : RecD) (w : World) : Calls Tryz.prog 134 #[.agg (recC x v1), .agg (recC y v2)] w fun e w' => e = .returned (.bool (beforeB x y)) ∧ Below w.heap.size w w' := by
 obtain ⟨a0, a1, a2, a3, a4, ns, a6, a7⟩ := x
 obtain ⟨b0, b1, b2, b3, b4, ms, b6, b7⟩ := y
 unfold recC
 simp only []
 go_enter Tryz.func134, Tryz.ntmps134
 go_wp2
 all_goals go_ret
 all_goals refine ⟨ret_bool ?_, below_two _ _⟩
 all_goals (simp only [beforeB]; grind)
def KeyAt (W : World) (p : Nat) (a b c d : Int) : Prop := (W.cell? ⟨p, 0, none⟩ = some (.int .i64 a) ∧ W.cell? ⟨p, 1, none⟩ = some (.int .i64 b) ∧ W.cell? ⟨p, 2, none⟩ = some (.int .i64 c) ∧ W.cell? ⟨p, 3, none⟩ = some (.int .i64 d)) ∧ W.frozen? ⟨p, 0, none⟩ = false ∧ W.frozen? ⟨p, 1, none⟩ = false ∧ W.frozen? ⟨p, 2, none⟩ = false ∧ W.frozen? ⟨p, 3, none⟩ = false
theorem KeyAt.lt {W : World} {p : Nat} {a b c d : Int} (h : KeyAt W p a b c d) : p < W.heap.size := World.block_lt_of_cell? W _ h.1.1
theorem KeyAt.below {W w2 : World} {p : Nat} {a b c d : Int} (h : KeyAt W p a b c d) (hb : Below W.heap.size W w2) : KeyAt w2 p a b c d := by
 have hp := h.lt
 obtain ⟨⟨h0, h1, h2, h3⟩, f0, f1, f2, f3⟩ := h
 refine ⟨⟨?_, ?_, ?_, ?_⟩, ?_, ?_, ?_, ?_⟩
 ·rw [hb.cell (p := ⟨p, 0, none⟩) hp]; exact h0
 ·rw [hb.cell (p := ⟨p, 1, none⟩) hp]; exact h1
 ·rw [hb.cell (p := ⟨p, 2, none⟩) hp]; exact h2
 ·rw [hb.cell (p := ⟨p, 3, none⟩) hp]; exact h3
 ·rw [hb.frozen (p := ⟨p, 0, none⟩) hp]; exact f0
 ·rw [hb.frozen (p := ⟨p, 1, none⟩) hp]; exact f1
 ·rw [hb.frozen (p := ⟨p, 2, none⟩) hp]; exact f2
 ·rw [hb.frozen (p := ⟨p, 3, none⟩) hp]; exact f3
theorem KeyAt.alloc {W : World} {p : Nat} {a b c d : Int} (h : KeyAt W p a b c d) (o : Obj) : KeyAt (W.alloc o) p a b c d := h.below ((Below.refl _ _).alloc (Nat.le_refl _) _)
theorem KeyAt.same {W W' : World} {p : Nat} {a b c d : Int} (h : KeyAt W p a b c d) (e : W.heap = W'.heap) : KeyAt W' p a b c d := by
 unfold KeyAt World.cell? World.frozen? at *
 rw [← e]
 exact h
def cmpK (a b c d : Int) : Int := if a = 0 then (if b = 0 then (if c = 0 then d else c) else b) else a
theorem cmpK_neg (x y : RecD) : decide (cmpK (cmpN x.area y.area) (cmpN x.kind y.kind) (cmpN x.owner y.owner) (cmpN x.key y.key) < 0) = beforeB x y := by
 unfold cmpK beforeB
 by_cases h1 : x.area = y.area
 ·rw [if_pos (cmpN_zero.2 h1)]
  by_cases h2 : x.kind = y.kind
  ·rw [if_pos (cmpN_zero.2 h2)]
   by_cases h3 : x.owner = y.owner
   ·rw [if_pos (cmpN_zero.2 h3)]
    simp [cmpN_neg, h1, h2, h3]
   ·rw [if_neg (fun h => h3 (cmpN_zero.1 h))]
    simp [cmpN_neg, h1, h2, h3]
  ·rw [if_neg (fun h => h2 (cmpN_zero.1 h))]
   simp [cmpN_neg, h1, h2]
 ·rw [if_neg (fun h => h1 (cmpN_zero.1 h))]
  simp [cmpN_neg, h1]
theorem scompare_any (p q : Nat) (a b c d a' b' c' d' : Int) (w : World) (h : KeyAt w p a b c d) (h' : KeyAt w q a' b' c' d') :
  Calls Tryz.prog 234 #[.slice (some ⟨p, 0, none⟩) 4 4, .slice (some ⟨q, 0, none⟩) 4 4] w fun e w' => e = .returned (.int .i64 (cmpK (cmpN a a') (cmpN b b') (cmpN c c') (cmpN d d'))) ∧ w = w' := by
 obtain ⟨⟨h0, h1, h2, h3⟩, _⟩ := h
 obtain ⟨⟨g0, g1, g2, g3⟩, _⟩ := h'
 have C0 := hide (compare_any a a')
 have C1 := hide (compare_any b b')
 have C2 := hide (compare_any c c')
 have C3 := hide (compare_any d d')
 generalize cmpN a a' = k0 at C0 ⊢
 generalize cmpN b b' = k1 at C1 ⊢
 generalize cmpN c c' = k2 at C2 ⊢
 generalize cmpN d d' = k3 at C3 ⊢
 go_enter Tryz.func234, Tryz.ntmps234
 go_wp2
 refine wp_loop_rounds 5 ?_
 rw [rounds_succ]
 go_wp2_with fail
 refine (C0.out _).mono ?_
 rintro e w1 ⟨rfl, rfl⟩
 by_cases z0 : k0 = 0
 case neg =>
  have hd : (k0 != 0) = true := by simpa using z0
  have E0 := hide (show cmpK k0 k1 k2 k3 = k0 by unfold cmpK; rw [if_neg z0])
  clear z0
  go_wp2
  go_ret
  exact ⟨ret_i E0.out, rfl⟩
 subst z0
 go_wp2
 rw [rounds_succ]
 go_wp2_with fail
 refine (C1.out _).mono ?_
 rintro e w1 ⟨rfl, rfl⟩
 by_cases z1 : k1 = 0
 case neg =>
  have hd : (k1 != 0) = true := by simpa using z1
  have E0 := hide (show cmpK 0 k1 k2 k3 = k1 by unfold cmpK; rw [if_pos rfl, if_neg z1])
  clear z1
  go_wp2
  go_ret
  exact ⟨ret_i E0.out, rfl⟩
 subst z1
 go_wp2
 rw [rounds_succ]
 go_wp2_with fail
 refine (C2.out _).mono ?_
 rintro e w1 ⟨rfl, rfl⟩
 by_cases z2 : k2 = 0
 case neg =>
  have hd : (k2 != 0) = true := by simpa using z2
  have E0 := hide (show cmpK 0 0 k2 k3 = k2 by unfold cmpK; rw [if_pos rfl, if_pos rfl, if_neg z2])
  clear z2
  go_wp2
  go_ret
  exact ⟨ret_i E0.out, rfl⟩
 subst z2
 go_wp2
 rw [rounds_succ]
 go_wp2_with fail
 refine (C3.out _).mono ?_
 rintro e w1 ⟨rfl, rfl⟩
 by_cases z3 : k3 = 0
 case neg =>
  have hd : (k3 != 0) = true := by simpa using z3
  have E0 := hide (show cmpK 0 0 0 k3 = k3 by unfold cmpK; rfl)
  clear z3
  go_wp2
  go_ret
  exact ⟨ret_i E0.out, rfl⟩
 subst z3
 go_wp2
 rw [rounds_succ]
 go_wp2
 go_ret
 exact ⟨ret_i rfl, rfl⟩
theorem orderKeys_any (a b c d a' b' c' d' : Int) (w : World) : Calls Tryz.prog 195 #[.agg #[.int .i64 a, .int .i64 b, .int .i64 c, .int .i64 d], .agg #[.int .i64 a', .int .i64 b', .int .i64 c', .int .i64 d']] w fun e w' => e = .returned (.int .i64 (cmpK (cmpN a a') (cmpN b b') (cmpN c c') (cmpN d d'))) ∧ Below w.heap.size w w' := by
 obtain ⟨r, hr⟩ : ∃ r, r = cmpK (cmpN a a') (cmpN b b') (cmpN c c') (cmpN d d') := ⟨_, rfl⟩
 obtain ⟨w1, hw1⟩ : ∃ w1, w1 = (w.alloc (.cells #[.int .i64 a, .int .i64 b, .int .i64 c, .int .i64 d] 217)).alloc (.cells #[.int .i64 a', .int .i64 b', .int .i64 c', .int .i64 d'] 217) := ⟨_, rfl⟩
 have B1 : Below w.heap.size w w1 := by rw [hw1]; exact below_two _ _
 have p0 : w1.heap[w.heap.size]? = some (.cells #[.int .i64 a, .int .i64 b, .int .i64 c, .int .i64 d] 217) := by rw [hw1, Below.heap_alloc _ _ _ (by simp), heap_alloc_new]
 have q0 : w1.heap[w.heap.size + 1]? = some (.cells #[.int .i64 a', .int .i64 b', .int .i64 c', .int .i64 d'] 217) := by
  rw [hw1]
  have := heap_alloc_new (w.alloc (.cells #[.int .i64 a, .int .i64 b, .int .i64 c, .int .i64 d] 217)) (.cells #[.int .i64 a', .int .i64 b', .int .i64 c', .int .i64 d'] 217)
  simpa using this
 have kp : KeyAt w1 w.heap.size a b c d := ⟨⟨cells_at p0 0, cells_at p0 1, cells_at p0 2, cells_at p0 3⟩, frozen_at p0 0, frozen_at p0 1, frozen_at p0 2, frozen_at p0 3⟩
 have kq : KeyAt w1 (w.heap.size + 1) a' b' c' d' := ⟨⟨cells_at q0 0, cells_at q0 1, cells_at q0 2, cells_at q0 3⟩, frozen_at q0 0, frozen_at q0 1, frozen_at q0 2, frozen_at q0 3⟩
 have HC := hide (fun W' (h : w1.heap = W'.heap) => scompare_any w.heap.size (w.heap.size + 1) a b c d a' b' c' d' W' (kp.same h) (kq.same h))
 rw [← hr] at HC ⊢
 clear kp kq p0 q0 hr
 go_enter Tryz.func195, Tryz.ntmps195
 go_wp2
 rw [← hw1]
 clear hw1
 go_region_held3 (fun W' => w1.heap = W'.heap) (first | rfl | assumption | go_keep) (first | (go_at_call 234; refine (HC.out _ ?_).mono ?_; (first | rfl | assumption); rintro e w3 ⟨rfl, rfl⟩))
 go_wp2
 go_ret
 exact ⟨rfl, B1.drew⟩
def atZ (xs : List RecD) (r : RecD) : Int := match xs.findIdx? (fun x => sameKeyB x r) with
 | some i => (i : Int)
 | none => -1
theorem atZ_found {xs : List RecD} {r x : RecD} {k : Nat} (hk : xs[k]? = some x) (hs : sameKeyB x r = true) (hall : ∀ j, j < k → ∀ y, xs[j]? = some y → sameKeyB y r = false) : atZ xs r = (k : Int) := by
 obtain ⟨h1, e1⟩ := List.getElem?_eq_some_iff.1 hk
 have : xs.findIdx? (fun x => sameKeyB x r) = some k := by
  rw [List.findIdx?_eq_some_iff_getElem]
  refine ⟨h1, by rw [e1]; exact hs, fun j hj => ?_⟩
  have := hall j hj xs[j] (List.getElem?_eq_getElem (by omega))
  simp [this]
 unfold atZ
 rw [this]
theorem atZ_none {xs : List RecD} {r : RecD} (hall : ∀ j, j < xs.length → ∀ y, xs[j]? = some y → sameKeyB y r = false) : atZ xs r = -1 := by
 have : xs.findIdx? (fun x => sameKeyB x r) = none := by
  rw [List.findIdx?_eq_none_iff]
  intro x hx
  obtain ⟨i, hi, e⟩ := List.getElem_of_mem hx
  exact hall i hi x (by rw [← e]; exact List.getElem?_eq_getElem hi)
 unfold atZ
 rw [this]
theorem atZ_cases (xs : List RecD) (r : RecD) : atZ xs r = -1 ∨ ∃ (k : Nat) (x : RecD), atZ xs r = (k : Int) ∧ xs[k]? = some x ∧ sameKeyB x r = true := by
 unfold atZ
 cases h : xs.findIdx? (fun x => sameKeyB x r) with
 | none => exact .inl rfl
 | some i =>
  obtain ⟨h1, h2, _⟩ := List.findIdx?_eq_some_iff_getElem.1 h
  exact .inr ⟨i, xs[i], rfl, List.getElem?_eq_getElem h1, h2⟩
def keyV (r : RecD) : Array Value := #[.int .i64 r.area, .int .i64 r.kind, .int .i64 r.owner, .int .i64 r.key]
def plV (z : Int) : Value := if z < 0 then .tuple #[.int .i64 0, .bool false] else .tuple #[.int .i64 z, .bool true]
theorem satI_any (v : Value) (ps : List RP) (hi : Nat) (r : RP) (w : World) (hv : RecsIn w hi v ps) (hhi : hi ≤ w.heap.size) (hn : tot ps ≤ 1048576) :
  Calls Tryz.prog 59 #[v, .agg (recC r.1 r.2)] w fun e w' => e = .returned (.int .i64 (atZ (fsts ps) r.1)) ∧ Below w.heap.size w w' := by
 have hnl := tot_len ps
 obtain ⟨a1, c1, rfl⟩ := owns_lenS hv.row
 have HV := hide hv
 clear hv
 have BX := (Below.refl w.heap.size w).alloc (Nat.le_refl _) (.cells (recC r.1 r.2) 39)
 have hx := heap_alloc_new w (.cells (recC r.1 r.2) 39)
 obtain ⟨wx, hwx⟩ : ∃ wx, wx = w.alloc (.cells (recC r.1 r.2) 39) := ⟨_, rfl⟩
 rw [← hwx] at BX hx
 unfold recC at *
 go_enter Tryz.func59, Tryz.ntmps59
 go_wp2
 rw [← hwx]
 have HX := hide hx
 clear hwx hx
 go_loopw [5] (fun i wr => ∃ (k : Nat), k ≤ ps.length ∧ i = .int .i64 k ∧ (∀ j, j < k → ∀ y, (fsts ps)[j]? = some y → sameKeyB y r.1 = false) ∧ Below wx.heap.size wx wr) (fun i _ => ps.length - (intOf i).toNat)
 case atStart => exact ⟨0, by omega, rfl, by omega, Below.refl _ _⟩
 case round =>
  obtain ⟨k, hk, rfl, hall, hnx⟩ := hrel
  have HALL := hide hall
  clear hall
  have hsz := hnx.size
  have hsx := lt_of_heap HX.out
  have BWR : Below w.heap.size w wr := BX.trans (hnx.mono (by omega))
  by_cases hlt : k < ps.length
  ·obtain ⟨p, hp⟩ : ∃ p, ps[k]? = some p := ⟨ps[k], List.getElem?_eq_getElem hlt⟩
   have hat := HV.out.at
   obtain ⟨b, off, cap', hve, hbb, c0, c1, c2, c3, c4, c5, c6, c7, _⟩ := hat.cells k p hp
   cases hve
   rw [← BWR.cell (p := ⟨b, off + k * 8, none⟩) (Nat.lt_of_lt_of_le hbb hhi)] at c0
   rw [← BWR.cell (p := ⟨b, off + k * 8 + 1, none⟩) (Nat.lt_of_lt_of_le hbb hhi)] at c1
   rw [← BWR.cell (p := ⟨b, off + k * 8 + 2, none⟩) (Nat.lt_of_lt_of_le hbb hhi)] at c2
   rw [← BWR.cell (p := ⟨b, off + k * 8 + 3, none⟩) (Nat.lt_of_lt_of_le hbb hhi)] at c3
   rw [← BWR.cell (p := ⟨b, off + k * 8 + 4, none⟩) (Nat.lt_of_lt_of_le hbb hhi)] at c4
   rw [← BWR.cell (p := ⟨b, off + k * 8 + 5, none⟩) (Nat.lt_of_lt_of_le hbb hhi)] at c5
   rw [← BWR.cell (p := ⟨b, off + k * 8 + 6, none⟩) (Nat.lt_of_lt_of_le hbb hhi)] at c6
   rw [← BWR.cell (p := ⟨b, off + k * 8 + 7, none⟩) (Nat.lt_of_lt_of_le hbb hhi)] at c7
   have hxx := (hnx.block _ hsx).trans HX.out
   have d0 := cells_at hxx 0
   have d1 := cells_at hxx 1
   have d2 := cells_at hxx 2
   have d3 := cells_at hxx 3
   have d4 := cells_at hxx 4
   have d5 := cells_at hxx 5
   have d6 := cells_at hxx 6
   have d7 := cells_at hxx 7
   simp at d0 d1 d2 d3 d4 d5 d6 d7
   have hb1 : b < wr.heap.size := by omega
   have hb2 : w.heap.size < wr.heap.size := by omega
   have hki : (0 : Int) ≤ (k : Int) := by omega
   have hkj : (k : Int) < (ps.length : Int) := by omega
   have hq := fun W => ssameKey_any p.2 r.2 p.1 r.1 W
   unfold recC at hq
   obtain ⟨q, hqq⟩ : ∃ q, q = sameKeyB p.1 r.1 := ⟨_, rfl⟩
   rw [← hqq] at hq
   have HK := hide hq
   have HQQ := hide hqq
   have HPP := hide (fsts_at hp)
   clear hq hqq hp hat hxx
   cases q
   ·go_wp2
    go_region_held3 (fun W => W.cell? ⟨b, off + k * 8, none⟩ = some (.int .i64 p.1.area) ∧ W.cell? ⟨b, off + k * 8 + 1, none⟩ = some (.int .i64 p.1.kind) ∧ W.cell? ⟨b, off + k * 8 + 2, none⟩ = some (.int .i64 p.1.owner) ∧ W.cell? ⟨b, off + k * 8 + 3, none⟩ = some (.int .i64 p.1.key) ∧ W.cell? ⟨b, off + k * 8 + 4, none⟩ = some (.int .i64 p.1.seq) ∧ W.cell? ⟨b, off + k * 8 + 5, none⟩ = some (p.2) ∧ W.cell? ⟨b, off + k * 8 + 6, none⟩ = some (.int .i64 p.1.cost) ∧ W.cell? ⟨b, off + k * 8 + 7, none⟩ = some (.bool p.1.far) ∧ W.cell? ⟨w.heap.size, 0, none⟩ = some (.int .i64 r.1.area) ∧ W.cell? ⟨w.heap.size, 1, none⟩ = some (.int .i64 r.1.kind) ∧ W.cell? ⟨w.heap.size, 2, none⟩ = some (.int .i64 r.1.owner) ∧ W.cell? ⟨w.heap.size, 3, none⟩ = some (.int .i64 r.1.key) ∧ W.cell? ⟨w.heap.size, 4, none⟩ = some (.int .i64 r.1.seq) ∧ W.cell? ⟨w.heap.size, 5, none⟩ = some (r.2) ∧ W.cell? ⟨w.heap.size, 6, none⟩ = some (.int .i64 r.1.cost) ∧ W.cell? ⟨w.heap.size, 7, none⟩ = some (.bool r.1.far)) (first | go_keep | (refine ⟨?_, ?_, ?_, ?_, ?_, ?_, ?_, ?_, ?_, ?_, ?_, ?_, ?_, ?_, ?_, ?_⟩ <;> (rw [hbc.cell (by assumption)]; assumption))) (first | (go_at_call 67; refine (HK.out _).mono ?_; rintro e w1 ⟨rfl, hbc⟩))
    go_wp2
    go_roundw
    case rel => exact ⟨k + 1, by omega, by go_num, (fun j hj y hy => by
     by_cases e : j = k
     ·subst e; rw [HPP.out] at hy; cases hy; exact HQQ.out.symm
     ·exact HALL.out j (by omega) y hy), hnx.trans ((Below.refl _ _).drew.trans (hbc.mono hsz))⟩
    case measure => simp [intOf]; omega
   ·go_wp2
    go_region_held3 (fun W => W.cell? ⟨b, off + k * 8, none⟩ = some (.int .i64 p.1.area) ∧ W.cell? ⟨b, off + k * 8 + 1, none⟩ = some (.int .i64 p.1.kind) ∧ W.cell? ⟨b, off + k * 8 + 2, none⟩ = some (.int .i64 p.1.owner) ∧ W.cell? ⟨b, off + k * 8 + 3, none⟩ = some (.int .i64 p.1.key) ∧ W.cell? ⟨b, off + k * 8 + 4, none⟩ = some (.int .i64 p.1.seq) ∧ W.cell? ⟨b, off + k * 8 + 5, none⟩ = some (p.2) ∧ W.cell? ⟨b, off + k * 8 + 6, none⟩ = some (.int .i64 p.1.cost) ∧ W.cell? ⟨b, off + k * 8 + 7, none⟩ = some (.bool p.1.far) ∧ W.cell? ⟨w.heap.size, 0, none⟩ = some (.int .i64 r.1.area) ∧ W.cell? ⟨w.heap.size, 1, none⟩ = some (.int .i64 r.1.kind) ∧ W.cell? ⟨w.heap.size, 2, none⟩ = some (.int .i64 r.1.owner) ∧ W.cell? ⟨w.heap.size, 3, none⟩ = some (.int .i64 r.1.key) ∧ W.cell? ⟨w.heap.size, 4, none⟩ = some (.int .i64 r.1.seq) ∧ W.cell? ⟨w.heap.size, 5, none⟩ = some (r.2) ∧ W.cell? ⟨w.heap.size, 6, none⟩ = some (.int .i64 r.1.cost) ∧ W.cell? ⟨w.heap.size, 7, none⟩ = some (.bool r.1.far)) (first | go_keep | (refine ⟨?_, ?_, ?_, ?_, ?_, ?_, ?_, ?_, ?_, ?_, ?_, ?_, ?_, ?_, ?_, ?_⟩ <;> (rw [hbc.cell (by assumption)]; assumption))) (first | (go_at_call 67; refine (HK.out _).mono ?_; rintro e w1 ⟨rfl, hbc⟩))
    go_wp2
    go_ret
    exact ⟨ret_int1 (by rw [atZ_found HPP.out HQQ.out.symm HALL.out]), BWR.trans ((Below.refl _ _).drew.trans (hbc.mono (show w.heap.size ≤ wr.heap.size by omega)))⟩
  ·have hkn : k = ps.length := by omega
   have KN := hide hkn
   clear hkn
   go_wp2
   go_ret
   exact ⟨ret_int1 (by rw [atZ_none (by have h := HALL.out; rw [KN.out] at h; simpa [fsts] using h)]), BWR⟩
theorem placeI_any (v : Value) (ps : List RP) (hi : Nat) (r : RecD) (w : World) (hv : RecsIn w hi v ps) (hhi : hi ≤ w.heap.size) (hn : tot ps ≤ 1048576) :
  Calls Tryz.prog 191 #[v, .agg (keyV r)] w fun e w' => e = .returned (plV (atZ (fsts ps) r)) ∧ Below w.heap.size w w' := by
 have hnl := tot_len ps
 obtain ⟨a1, c1, rfl⟩ := owns_lenS hv.row
 have HV := hide hv
 clear hv
 have BX := (Below.refl w.heap.size w).alloc (Nat.le_refl _) (.cells (keyV r) 217)
 have hx := heap_alloc_new w (.cells (keyV r) 217)
 obtain ⟨wx, hwx⟩ : ∃ wx, wx = w.alloc (.cells (keyV r) 217) := ⟨_, rfl⟩
 rw [← hwx] at BX hx
 unfold keyV at *
 go_enter Tryz.func191, Tryz.ntmps191
 go_wp2
 rw [← hwx]
 have HX := hide hx
 clear hwx hx
 go_loopw [10] (fun i wr => ∃ (k : Nat), k ≤ ps.length ∧ i = .int .i64 k ∧ (∀ j, j < k → ∀ y, (fsts ps)[j]? = some y → sameKeyB y r = false) ∧ Below wx.heap.size wx wr) (fun i _ => ps.length - (intOf i).toNat)
 case atStart => exact ⟨0, by omega, rfl, by omega, Below.refl _ _⟩
 case round =>
  obtain ⟨k, hk, rfl, hall, hnx⟩ := hrel
  have HALL := hide hall
  clear hall
  have hsz := hnx.size
  have hsx := lt_of_heap HX.out
  have BWR : Below w.heap.size w wr := BX.trans (hnx.mono (by omega))
  by_cases hlt : k < ps.length
  ·obtain ⟨p, hp⟩ : ∃ p, ps[k]? = some p := ⟨ps[k], List.getElem?_eq_getElem hlt⟩
   have hat := HV.out.at
   obtain ⟨b, off, cap', hve, hbb, c0, c1, c2, c3, c4, c5, c6, c7, hnr⟩ := hat.cells k p hp
   cases hve
   rw [← BWR.cell (p := ⟨b, off + k * 8, none⟩) (Nat.lt_of_lt_of_le hbb hhi)] at c0
   rw [← BWR.cell (p := ⟨b, off + k * 8 + 1, none⟩) (Nat.lt_of_lt_of_le hbb hhi)] at c1
   rw [← BWR.cell (p := ⟨b, off + k * 8 + 2, none⟩) (Nat.lt_of_lt_of_le hbb hhi)] at c2
   rw [← BWR.cell (p := ⟨b, off + k * 8 + 3, none⟩) (Nat.lt_of_lt_of_le hbb hhi)] at c3
   rw [← BWR.cell (p := ⟨b, off + k * 8 + 4, none⟩) (Nat.lt_of_lt_of_le hbb hhi)] at c4
   rw [← BWR.cell (p := ⟨b, off + k * 8 + 5, none⟩) (Nat.lt_of_lt_of_le hbb hhi)] at c5
   rw [← BWR.cell (p := ⟨b, off + k * 8 + 6, none⟩) (Nat.lt_of_lt_of_le hbb hhi)] at c6
   rw [← BWR.cell (p := ⟨b, off + k * 8 + 7, none⟩) (Nat.lt_of_lt_of_le hbb hhi)] at c7
   obtain ⟨pa, pc, hpn⟩ := hnr.shape
   rw [hpn] at c5
   have hxx := (hnx.block _ hsx).trans HX.out
   have hki : (0 : Int) ≤ (k : Int) := by omega
   have hkj : (k : Int) < (ps.length : Int) := by omega
   have HK := hide (fun W => keyOf_raw p.1.area p.1.kind p.1.owner p.1.key p.1.seq (.slice pa p.1.near.length pc) p.1.cost p.1.far W)
   have e0 := fun W => key_eql W p.1.area p.1.kind p.1.owner p.1.key r.area r.kind r.owner r.key
   obtain ⟨q, hqq⟩ : ∃ q, q = sameKeyB p.1 r := ⟨_, rfl⟩
   rw [show (p.1.area == r.area && p.1.kind == r.kind && p.1.owner == r.owner && p.1.key == r.key) = q by rw [hqq]; rfl] at e0
   have HQQ := hide hqq
   have HPP := hide (fsts_at hp)
   clear hqq hp hat hnr hpn
   obtain ⟨o, ho⟩ : ∃ o, o = (.cells #[.int .i64 p.1.area, .int .i64 p.1.kind, .int .i64 p.1.owner, .int .i64 p.1.key, .int .i64 p.1.seq, .slice pa p.1.near.length pc, .int .i64 p.1.cost, .bool p.1.far] 39 : Obj) := ⟨_, rfl⟩
   have hz := heap_alloc_new wr o
   have hxz := (Below.heap_alloc wr o w.heap.size (by omega)).trans hxx
   have BZ : Below wr.heap.size wr (wr.alloc o) := (Below.refl _ _).alloc (Nat.le_refl _) _
   obtain ⟨wz, hwz⟩ : ∃ wz, wz = wr.alloc o := ⟨_, rfl⟩
   rw [← hwz] at hz hxz BZ
   rw [ho] at hwz hz
   have hbz := BZ.size
   clear ho hxx
   cases q
   ·go_wp2
    rw [← hwz]
    obtain ⟨z, hzz⟩ : ∃ z, z = wr.heap.size := ⟨_, rfl⟩
    rw [← hzz] at hz ⊢
    have d0 := cells_at hz 0
    have d1 := cells_at hz 1
    have d2 := cells_at hz 2
    have d3 := cells_at hz 3
    have d4 := cells_at hz 4
    have d5 := cells_at hz 5
    have d6 := cells_at hz 6
    have d7 := cells_at hz 7
    have k0 := cells_at hxz 0
    have k1 := cells_at hxz 1
    have k2 := cells_at hxz 2
    have k3 := cells_at hxz 3
    simp at d0 d1 d2 d3 d4 d5 d6 d7 k0 k1 k2 k3
    have hb1 := lt_of_heap hz
    have hb2 := lt_of_heap hxz
    clear hzz hwz hz hxz c0 c1 c2 c3 c4 c5 c6 c7
    go_region_held3 (fun W => W.cell? ⟨z, 0, none⟩ = some (.int .i64 p.1.area) ∧ W.cell? ⟨z, 1, none⟩ = some (.int .i64 p.1.kind) ∧ W.cell? ⟨z, 2, none⟩ = some (.int .i64 p.1.owner) ∧ W.cell? ⟨z, 3, none⟩ = some (.int .i64 p.1.key) ∧ W.cell? ⟨z, 4, none⟩ = some (.int .i64 p.1.seq) ∧ W.cell? ⟨z, 5, none⟩ = some (.slice pa p.1.near.length pc) ∧ W.cell? ⟨z, 6, none⟩ = some (.int .i64 p.1.cost) ∧ W.cell? ⟨z, 7, none⟩ = some (.bool p.1.far) ∧ W.cell? ⟨w.heap.size, 0, none⟩ = some (.int .i64 r.area) ∧ W.cell? ⟨w.heap.size, 1, none⟩ = some (.int .i64 r.kind) ∧ W.cell? ⟨w.heap.size, 2, none⟩ = some (.int .i64 r.owner) ∧ W.cell? ⟨w.heap.size, 3, none⟩ = some (.int .i64 r.key)) (first | go_keep | (refine ⟨?_, ?_, ?_, ?_, ?_, ?_, ?_, ?_, ?_, ?_, ?_, ?_⟩ <;> (rw [hbc.cell (by assumption)]; assumption))) (first | (refine (HK.out _).mono ?_; rintro e w1 ⟨rfl, hbc⟩))
    go_wp2
    go_roundw
    case rel => exact ⟨k + 1, by omega, by go_num, (fun j hj y hy => by
     by_cases e : j = k
     ·subst e; rw [HPP.out] at hy; cases hy; exact HQQ.out.symm
     ·exact HALL.out j (by omega) y hy), hnx.trans ((BZ.mono hsz).trans ((Below.refl _ _).drew.trans (hbc.mono (show wx.heap.size ≤ wz.heap.size by omega))))⟩
    case measure => simp [intOf]; omega
   ·go_wp2
    rw [← hwz]
    obtain ⟨z, hzz⟩ : ∃ z, z = wr.heap.size := ⟨_, rfl⟩
    rw [← hzz] at hz ⊢
    have d0 := cells_at hz 0
    have d1 := cells_at hz 1
    have d2 := cells_at hz 2
    have d3 := cells_at hz 3
    have d4 := cells_at hz 4
    have d5 := cells_at hz 5
    have d6 := cells_at hz 6
    have d7 := cells_at hz 7
    have k0 := cells_at hxz 0
    have k1 := cells_at hxz 1
    have k2 := cells_at hxz 2
    have k3 := cells_at hxz 3
    simp at d0 d1 d2 d3 d4 d5 d6 d7 k0 k1 k2 k3
    have hb1 := lt_of_heap hz
    have hb2 := lt_of_heap hxz
    clear hzz hwz hz hxz c0 c1 c2 c3 c4 c5 c6 c7
    go_region_held3 (fun W => W.cell? ⟨z, 0, none⟩ = some (.int .i64 p.1.area) ∧ W.cell? ⟨z, 1, none⟩ = some (.int .i64 p.1.kind) ∧ W.cell? ⟨z, 2, none⟩ = some (.int .i64 p.1.owner) ∧ W.cell? ⟨z, 3, none⟩ = some (.int .i64 p.1.key) ∧ W.cell? ⟨z, 4, none⟩ = some (.int .i64 p.1.seq) ∧ W.cell? ⟨z, 5, none⟩ = some (.slice pa p.1.near.length pc) ∧ W.cell? ⟨z, 6, none⟩ = some (.int .i64 p.1.cost) ∧ W.cell? ⟨z, 7, none⟩ = some (.bool p.1.far) ∧ W.cell? ⟨w.heap.size, 0, none⟩ = some (.int .i64 r.area) ∧ W.cell? ⟨w.heap.size, 1, none⟩ = some (.int .i64 r.kind) ∧ W.cell? ⟨w.heap.size, 2, none⟩ = some (.int .i64 r.owner) ∧ W.cell? ⟨w.heap.size, 3, none⟩ = some (.int .i64 r.key)) (first | go_keep | (refine ⟨?_, ?_, ?_, ?_, ?_, ?_, ?_, ?_, ?_, ?_, ?_, ?_⟩ <;> (rw [hbc.cell (by assumption)]; assumption))) (first | (refine (HK.out _).mono ?_; rintro e w1 ⟨rfl, hbc⟩))
    go_wp2
    go_returns
    refine ⟨?_, BWR.trans ((BZ.mono (by omega)).trans ((Below.refl _ _).drew.trans (hbc.mono (show w.heap.size ≤ wz.heap.size by omega))))⟩
    rw [atZ_found HPP.out HQQ.out.symm HALL.out]
    unfold plV
    rw [if_neg (by omega)]
    rfl
  ·have hkn : k = ps.length := by omega
   have KN := hide hkn
   clear hkn
   go_wp2
   go_returns
   refine ⟨?_, BWR⟩
   rw [atZ_none (by have h := HALL.out; rw [KN.out] at h; simpa [fsts] using h)]
   rfl
def putL (ps : List RP) (r : RP) : List RP := ps.filter (fun p => beforeB p.1 r.1) ++ [r] ++ ps.filter (fun p => beforeB r.1 p.1)
theorem filt_take {ps : List RP} {k : Nat} {p : RP} (f : RP → Bool) (h : ps[k]? = some p) : (ps.take (k + 1)).filter f = (ps.take k).filter f ++ (if f p then [p] else []) := by
 obtain ⟨hk, e⟩ := List.getElem?_eq_some_iff.1 h
 rw [List.take_succ_eq_append_getElem hk, List.filter_append, e]
 congr 1
 by_cases hf : f p <;> simp [hf]
theorem put_fine (v : Value) (ps : List RP) (hi : Nat) (r : RP) (w : World) (hv : RecsIn w hi v ps) (hhi : hi ≤ w.heap.size) (hn : tot ps ≤ 1048576) (hr : NearOwn w 0 hi r) :
  Calls Tryz.prog 58 #[v, .agg (recC r.1 r.2)] w fun e w' => ∃ x, e = .returned x ∧ RecsIn w' w'.heap.size x (putL ps r) ∧ Below w.heap.size w w' ∧ ∀ k, x.ownBlock = some k → w.heap.size ≤ k := by
 unfold putL
 have hnl := tot_len ps
 obtain ⟨a1, c1, rfl⟩ := owns_lenS hv.row
 obtain ⟨ra, rc, hrn⟩ := owns_lenS hr.1
 have HRN := hide hrn
 have HR := hide hr
 have HV := hide hv
 unfold recC
 rw [hrn]
 clear hv hr hrn
 have BX : Below w.heap.size w (w.alloc (.cells #[.int .i64 r.1.area, .int .i64 r.1.kind, .int .i64 r.1.owner, .int .i64 r.1.key, .int .i64 r.1.seq, .slice ra r.1.near.length rc, .int .i64 r.1.cost, .bool r.1.far] 39)) := (Below.refl _ _).alloc (Nat.le_refl _) _
 have hx := heap_alloc_new w (.cells #[.int .i64 r.1.area, .int .i64 r.1.kind, .int .i64 r.1.owner, .int .i64 r.1.key, .int .i64 r.1.seq, .slice ra r.1.near.length rc, .int .i64 r.1.cost, .bool r.1.far] 39)
 obtain ⟨w0, hw0⟩ : ∃ w0, w0 = w.alloc (.cells #[.int .i64 r.1.area, .int .i64 r.1.kind, .int .i64 r.1.owner, .int .i64 r.1.key, .int .i64 r.1.seq, .slice ra r.1.near.length rc, .int .i64 r.1.cost, .bool r.1.far] 39) := ⟨_, rfl⟩
 have hs0 : w0.heap.size = w.heap.size + 1 := by rw [hw0]; simp
 rw [← hw0] at BX hx
 have R0 := hide (World.ownsRow_lit (e := 39) (size := 8) w0 #[] 0 (show w.heap.size + 1 ≤ w0.heap.size by omega) (by unfold maxLen; omega) (by simp))
 have B0 := hide (show Below w0.heap.size w0 (w0.alloc (.cells #[] 39)) from (Below.refl _ _).alloc (Nat.le_refl _) _)
 have HX := hide hx
 clear hx
 go_enter Tryz.func58, Tryz.ntmps58
 go_wp2
 rw [← hw0]
 rw [hs0] at R0
 have hs0l : w.heap.size + 1 ≤ w0.heap.size := by omega
 have hs0r : w0.heap.size ≤ w.heap.size + 1 := by omega
 clear hs0 hw0
 generalize w0.alloc (.cells #[] 39) = wL at *
 go_loopw [6, 5] (fun i o wr => ∃ (k : Nat) (u : Value) (l : List RP), k ≤ ps.length ∧ i = .int .i64 k ∧ o = u ∧ Hid (l = (ps.take k).filter (fun p => beforeB p.1 r.1)) ∧ wr.ownsRow (w.heap.size + 1) 39 8 u l.length (flat encP l) ∧ Below w0.heap.size w0 wr) (fun i _ _ => ps.length - (intOf i).toNat)
 case atStart => exact ⟨0, _, [], by omega, rfl, rfl, rfl, by simpa [flat] using R0.out, B0.out⟩
 case round =>
  obtain ⟨k, u, l, hk, rfl, rfl, HL, hown, hnx⟩ := hrel
  obtain ⟨ua, uc, rfl⟩ := owns_lenS hown
  have hsz := hnx.size
  have BWR : Below w.heap.size w wr := BX.trans (hnx.mono (by omega))
  have HQL := hide (show l.length ≤ 2097153 by rw [(HL).out]; have h2 := List.length_filter_le (fun p : RP => beforeB p.1 r.1) (ps.take k); simp at h2 ⊢; omega)
  by_cases hlt : k < ps.length
  ·obtain ⟨p, hp⟩ : ∃ p, ps[k]? = some p := ⟨ps[k], List.getElem?_eq_getElem hlt⟩
   have hat := HV.out.at
   obtain ⟨b, off, cap', hve, hbb, c0, c1, c2, c3, c4, c5, c6, c7, hnr⟩ := hat.cells k p hp
   cases hve
   obtain ⟨pa, pc, hpn⟩ := NearsAt.shape hnr
   rw [hpn] at c5
   rw [← BWR.cell (p := ⟨b, off + k * 8, none⟩) (Nat.lt_of_lt_of_le hbb hhi)] at c0
   rw [← BWR.cell (p := ⟨b, off + k * 8 + 1, none⟩) (Nat.lt_of_lt_of_le hbb hhi)] at c1
   rw [← BWR.cell (p := ⟨b, off + k * 8 + 2, none⟩) (Nat.lt_of_lt_of_le hbb hhi)] at c2
   rw [← BWR.cell (p := ⟨b, off + k * 8 + 3, none⟩) (Nat.lt_of_lt_of_le hbb hhi)] at c3
   rw [← BWR.cell (p := ⟨b, off + k * 8 + 4, none⟩) (Nat.lt_of_lt_of_le hbb hhi)] at c4
   rw [← BWR.cell (p := ⟨b, off + k * 8 + 5, none⟩) (Nat.lt_of_lt_of_le hbb hhi)] at c5
   rw [← BWR.cell (p := ⟨b, off + k * 8 + 6, none⟩) (Nat.lt_of_lt_of_le hbb hhi)] at c6
   rw [← BWR.cell (p := ⟨b, off + k * 8 + 7, none⟩) (Nat.lt_of_lt_of_le hbb hhi)] at c7
   have hxx := (hnx.block _ (lt_of_heap HX.out)).trans HX.out
   have d0 := cells_at hxx 0
   have d1 := cells_at hxx 1
   have d2 := cells_at hxx 2
   have d3 := cells_at hxx 3
   have d4 := cells_at hxx 4
   have d5 := cells_at hxx 5
   have d6 := cells_at hxx 6
   have d7 := cells_at hxx 7
   simp at d0 d1 d2 d3 d4 d5 d6 d7
   have hb1 : b < wr.heap.size := by omega
   have hb2 : w.heap.size < wr.heap.size := by omega
   have hki : (0 : Int) ≤ (k : Int) := by omega
   have hkj : (k : Int) < (ps.length : Int) := by omega
   have hq := fun W => sbefore_any p.2 r.2 p.1 r.1 W
   unfold recC at hq
   rw [hpn, HRN.out] at hq
   have hpe : p = (p.1, .slice pa p.1.near.length pc) := Prod.ext rfl hpn
   obtain ⟨q, hqq⟩ : ∃ q, q = beforeB p.1 r.1 := ⟨_, rfl⟩
   rw [← hqq] at hq
   have HK := hide hq
   have hft := filt_take (fun p => beforeB p.1 r.1) hp
   rw [← hqq] at hft
   have HFT := hide hft
   have HPE := hide hpe
   have OW := hide hown
   clear hq hqq hp hat hxx hnr hpn hft hpe hown
   cases q
   ·go_wp2
    go_region_held3 (fun W => W.cell? ⟨b, off + k * 8, none⟩ = some (.int .i64 p.1.area) ∧ W.cell? ⟨b, off + k * 8 + 1, none⟩ = some (.int .i64 p.1.kind) ∧ W.cell? ⟨b, off + k * 8 + 2, none⟩ = some (.int .i64 p.1.owner) ∧ W.cell? ⟨b, off + k * 8 + 3, none⟩ = some (.int .i64 p.1.key) ∧ W.cell? ⟨b, off + k * 8 + 4, none⟩ = some (.int .i64 p.1.seq) ∧ W.cell? ⟨b, off + k * 8 + 5, none⟩ = some (.slice pa p.1.near.length pc) ∧ W.cell? ⟨b, off + k * 8 + 6, none⟩ = some (.int .i64 p.1.cost) ∧ W.cell? ⟨b, off + k * 8 + 7, none⟩ = some (.bool p.1.far) ∧ W.cell? ⟨w.heap.size, 0, none⟩ = some (.int .i64 r.1.area) ∧ W.cell? ⟨w.heap.size, 1, none⟩ = some (.int .i64 r.1.kind) ∧ W.cell? ⟨w.heap.size, 2, none⟩ = some (.int .i64 r.1.owner) ∧ W.cell? ⟨w.heap.size, 3, none⟩ = some (.int .i64 r.1.key) ∧ W.cell? ⟨w.heap.size, 4, none⟩ = some (.int .i64 r.1.seq) ∧ W.cell? ⟨w.heap.size, 5, none⟩ = some (.slice ra r.1.near.length rc) ∧ W.cell? ⟨w.heap.size, 6, none⟩ = some (.int .i64 r.1.cost) ∧ W.cell? ⟨w.heap.size, 7, none⟩ = some (.bool r.1.far)) (first | go_keep | (refine ⟨?_, ?_, ?_, ?_, ?_, ?_, ?_, ?_, ?_, ?_, ?_, ?_, ?_, ?_, ?_, ?_⟩ <;> (rw [hbc.cell (by assumption)]; assumption))) (first | (go_at_call 134; refine (HK.out _).mono ?_; rintro e w1 ⟨rfl, hbc⟩))
    have B1 : Below w0.heap.size w0 w1 := hnx.trans ((Below.refl _ _).drew.trans (hbc.mono hsz))
    have OW1 := hide (owns_below OW.out ((Below.refl wr.heap.size wr).drew.trans hbc) (Nat.le_refl _))
    have HFT2 := hide (show l = (ps.take (k + 1)).filter (fun p => beforeB p.1 r.1) by rw [(HL).out, HFT.out]; simp)
    go_wp2
    go_roundw
    case rel => exact ⟨k + 1, _, _, by omega, by go_num, rfl, HFT2, OW1.out, B1⟩
    case measure => simp [intOf]; omega
   ·go_wp2
    go_region_held3 (fun W => W.cell? ⟨b, off + k * 8, none⟩ = some (.int .i64 p.1.area) ∧ W.cell? ⟨b, off + k * 8 + 1, none⟩ = some (.int .i64 p.1.kind) ∧ W.cell? ⟨b, off + k * 8 + 2, none⟩ = some (.int .i64 p.1.owner) ∧ W.cell? ⟨b, off + k * 8 + 3, none⟩ = some (.int .i64 p.1.key) ∧ W.cell? ⟨b, off + k * 8 + 4, none⟩ = some (.int .i64 p.1.seq) ∧ W.cell? ⟨b, off + k * 8 + 5, none⟩ = some (.slice pa p.1.near.length pc) ∧ W.cell? ⟨b, off + k * 8 + 6, none⟩ = some (.int .i64 p.1.cost) ∧ W.cell? ⟨b, off + k * 8 + 7, none⟩ = some (.bool p.1.far) ∧ W.cell? ⟨w.heap.size, 0, none⟩ = some (.int .i64 r.1.area) ∧ W.cell? ⟨w.heap.size, 1, none⟩ = some (.int .i64 r.1.kind) ∧ W.cell? ⟨w.heap.size, 2, none⟩ = some (.int .i64 r.1.owner) ∧ W.cell? ⟨w.heap.size, 3, none⟩ = some (.int .i64 r.1.key) ∧ W.cell? ⟨w.heap.size, 4, none⟩ = some (.int .i64 r.1.seq) ∧ W.cell? ⟨w.heap.size, 5, none⟩ = some (.slice ra r.1.near.length rc) ∧ W.cell? ⟨w.heap.size, 6, none⟩ = some (.int .i64 r.1.cost) ∧ W.cell? ⟨w.heap.size, 7, none⟩ = some (.bool r.1.far)) (first | go_keep | (refine ⟨?_, ?_, ?_, ?_, ?_, ?_, ?_, ?_, ?_, ?_, ?_, ?_, ?_, ?_, ?_, ?_⟩ <;> (rw [hbc.cell (by assumption)]; assumption))) (first | (go_at_call 134; refine (HK.out _).mono ?_; rintro e w1 ⟨rfl, hbc⟩))
    have B1 : Below w0.heap.size w0 w1 := hnx.trans ((Below.refl _ _).drew.trans (hbc.mono hsz))
    have OW1 := hide (owns_below OW.out ((Below.refl wr.heap.size wr).drew.trans hbc) (Nat.le_refl _))
    have b1s := B1.size
    have m0 := (hbc.cell (p := ⟨b, off + k * 8, none⟩) hb1).trans c0
    have m1 := (hbc.cell (p := ⟨b, off + k * 8 + 1, none⟩) hb1).trans c1
    have m2 := (hbc.cell (p := ⟨b, off + k * 8 + 2, none⟩) hb1).trans c2
    have m3 := (hbc.cell (p := ⟨b, off + k * 8 + 3, none⟩) hb1).trans c3
    have m4 := (hbc.cell (p := ⟨b, off + k * 8 + 4, none⟩) hb1).trans c4
    have m5 := (hbc.cell (p := ⟨b, off + k * 8 + 5, none⟩) hb1).trans c5
    have m6 := (hbc.cell (p := ⟨b, off + k * 8 + 6, none⟩) hb1).trans c6
    have m7 := (hbc.cell (p := ⟨b, off + k * 8 + 7, none⟩) hb1).trans c7
    have HFT2 := hide (show l ++ [(p.1, .slice pa p.1.near.length pc)] = (ps.take (k + 1)).filter (fun p => beforeB p.1 r.1) by rw [(HL).out, HFT.out, ← HPE.out]; simp)
    go_wp2_with (first
     | (at_builtin; refine append_struct5 encP_len (by omega) (by omega) _ rfl _ _ 29 rfl (w.heap.size + 1) 39 Tryz.underlying29 (.agg (recC zeroRD (.slice none 0 0))) rfl Tryz.infoRec _ (l) (p.1, .slice pa p.1.near.length pc) (encP_one _ _ _ _) rfl (OW1.out.alloc _) ⟨w1.heap.size, 0, none⟩ 1 rfl (news_struct (cs := encP (p.1, .slice pa p.1.near.length pc))) (by have := HQL.out; omega) (by simp; omega) ?_))
    intro v' w4 hown' hgrow
    obtain ⟨va, vc, rfl⟩ := owns_lenS hown'
    have B4 : Below w0.heap.size w0 w4 := (B1.alloc b1s _).grown hgrow (by simp; omega) (fun j hj => by have := (OW1.out.lt j hj).1; omega)
    have OW4 := hide hown'
    clear hown' hgrow
    go_wp2
    go_roundw
    case rel => exact ⟨k + 1, _, _, by omega, by go_num, rfl, HFT2, by simpa using OW4.out, B4⟩
    case measure => simp [intOf]; omega
  ·have hkn : k = ps.length := by omega
   have htk : ps.take k = ps := by rw [hkn, List.take_length]
   rw [htk] at HL
   have OW := hide hown
   clear hown hkn htk
   have hxx := (hnx.block _ (lt_of_heap HX.out)).trans HX.out
   have d0 := cells_at hxx 0
   have d1 := cells_at hxx 1
   have d2 := cells_at hxx 2
   have d3 := cells_at hxx 3
   have d4 := cells_at hxx 4
   have d5 := cells_at hxx 5
   have d6 := cells_at hxx 6
   have d7 := cells_at hxx 7
   simp at d0 d1 d2 d3 d4 d5 d6 d7
   clear hxx
   go_wp2_with (first
    | (at_builtin; refine append_struct5 encP_len (by omega) (by omega) _ rfl _ _ 29 rfl (w.heap.size + 1) 39 Tryz.underlying29 (.agg (recC zeroRD (.slice none 0 0))) rfl Tryz.infoRec _ (l) (r.1, .slice ra r.1.near.length rc) (encP_one _ _ _ _) rfl (OW.out.alloc _) ⟨wr.heap.size, 0, none⟩ 1 rfl (news_struct (cs := encP (r.1, .slice ra r.1.near.length rc))) (by have := HQL.out; omega) (by simp; omega) ?_))
   intro v' w4 hown' hgrow
   obtain ⟨va, vc, rfl⟩ := owns_lenS hown'
   have B2 := hide ((hnx.alloc hsz _).grown hgrow (by simp; omega) (fun j hj => by have := (OW.out.lt j hj).1; omega))
   have HRE := hide (show r = (r.1, .slice ra r.1.near.length rc) from Prod.ext rfl HRN.out)
   have R2 := hide hown'
   clear hown' hgrow HQL d0 d1 d2 d3 d4 d5 d6 d7 OW hnx hsz BWR
   go_wp2
   go_loopw [7, 5] (fun i o wr => ∃ (k : Nat) (u : Value) (l : List RP), k ≤ ps.length ∧ i = .int .i64 k ∧ o = u ∧ Hid (l = ps.filter (fun p => beforeB p.1 r.1) ++ [r] ++ (ps.take k).filter (fun p => beforeB r.1 p.1)) ∧ wr.ownsRow (w.heap.size + 1) 39 8 u l.length (flat encP l) ∧ Below w0.heap.size w0 wr) (fun i _ _ => ps.length - (intOf i).toNat)
   case atStart => exact ⟨0, _, l ++ [(r.1, .slice ra r.1.near.length rc)], by omega, rfl, rfl, (hide (by rw [HL.out, ← HRE.out]; simp)), by simpa using R2.out, B2.out⟩
   case round =>
    obtain ⟨k, u, m, hk, rfl, rfl, HM, hown, hnx⟩ := hrel
    obtain ⟨ua, uc, rfl⟩ := owns_lenS hown
    have hsz := hnx.size
    have BWR : Below w.heap.size w wr := BX.trans (hnx.mono (by omega))
    have HQL := hide (show m.length ≤ 2097153 by rw [(HM).out]; have h1 := List.length_filter_le (fun p : RP => beforeB p.1 r.1) ps; have h2 := List.length_filter_le (fun p : RP => beforeB r.1 p.1) (ps.take k); simp at h1 h2 ⊢; omega)
    by_cases hlt : k < ps.length
    ·obtain ⟨p, hp⟩ : ∃ p, ps[k]? = some p := ⟨ps[k], List.getElem?_eq_getElem hlt⟩
     have hat := HV.out.at
     obtain ⟨b, off, cap', hve, hbb, c0, c1, c2, c3, c4, c5, c6, c7, hnr⟩ := hat.cells k p hp
     cases hve
     obtain ⟨pa, pc, hpn⟩ := NearsAt.shape hnr
     rw [hpn] at c5
     rw [← BWR.cell (p := ⟨b, off + k * 8, none⟩) (Nat.lt_of_lt_of_le hbb hhi)] at c0
     rw [← BWR.cell (p := ⟨b, off + k * 8 + 1, none⟩) (Nat.lt_of_lt_of_le hbb hhi)] at c1
     rw [← BWR.cell (p := ⟨b, off + k * 8 + 2, none⟩) (Nat.lt_of_lt_of_le hbb hhi)] at c2
     rw [← BWR.cell (p := ⟨b, off + k * 8 + 3, none⟩) (Nat.lt_of_lt_of_le hbb hhi)] at c3
     rw [← BWR.cell (p := ⟨b, off + k * 8 + 4, none⟩) (Nat.lt_of_lt_of_le hbb hhi)] at c4
     rw [← BWR.cell (p := ⟨b, off + k * 8 + 5, none⟩) (Nat.lt_of_lt_of_le hbb hhi)] at c5
     rw [← BWR.cell (p := ⟨b, off + k * 8 + 6, none⟩) (Nat.lt_of_lt_of_le hbb hhi)] at c6
     rw [← BWR.cell (p := ⟨b, off + k * 8 + 7, none⟩) (Nat.lt_of_lt_of_le hbb hhi)] at c7
     have hxx := (hnx.block _ (lt_of_heap HX.out)).trans HX.out
     have d0 := cells_at hxx 0
     have d1 := cells_at hxx 1
     have d2 := cells_at hxx 2
     have d3 := cells_at hxx 3
     have d4 := cells_at hxx 4
     have d5 := cells_at hxx 5
     have d6 := cells_at hxx 6
     have d7 := cells_at hxx 7
     simp at d0 d1 d2 d3 d4 d5 d6 d7
     have hb1 : b < wr.heap.size := by omega
     have hb2 : w.heap.size < wr.heap.size := by omega
     have hki : (0 : Int) ≤ (k : Int) := by omega
     have hkj : (k : Int) < (ps.length : Int) := by omega
     have hq := fun W => sbefore_any r.2 p.2 r.1 p.1 W
     unfold recC at hq
     rw [hpn, HRN.out] at hq
     have hpe : p = (p.1, .slice pa p.1.near.length pc) := Prod.ext rfl hpn
     obtain ⟨q, hqq⟩ : ∃ q, q = beforeB r.1 p.1 := ⟨_, rfl⟩
     rw [← hqq] at hq
     have HK := hide hq
     have hft := filt_take (fun p => beforeB r.1 p.1) hp
     rw [← hqq] at hft
     have HFT := hide hft
     have HPE := hide hpe
     have OW := hide hown
     clear hq hqq hp hat hxx hnr hpn hft hpe hown
     cases q
     ·go_wp2
      go_region_held3 (fun W => W.cell? ⟨b, off + k * 8, none⟩ = some (.int .i64 p.1.area) ∧ W.cell? ⟨b, off + k * 8 + 1, none⟩ = some (.int .i64 p.1.kind) ∧ W.cell? ⟨b, off + k * 8 + 2, none⟩ = some (.int .i64 p.1.owner) ∧ W.cell? ⟨b, off + k * 8 + 3, none⟩ = some (.int .i64 p.1.key) ∧ W.cell? ⟨b, off + k * 8 + 4, none⟩ = some (.int .i64 p.1.seq) ∧ W.cell? ⟨b, off + k * 8 + 5, none⟩ = some (.slice pa p.1.near.length pc) ∧ W.cell? ⟨b, off + k * 8 + 6, none⟩ = some (.int .i64 p.1.cost) ∧ W.cell? ⟨b, off + k * 8 + 7, none⟩ = some (.bool p.1.far) ∧ W.cell? ⟨w.heap.size, 0, none⟩ = some (.int .i64 r.1.area) ∧ W.cell? ⟨w.heap.size, 1, none⟩ = some (.int .i64 r.1.kind) ∧ W.cell? ⟨w.heap.size, 2, none⟩ = some (.int .i64 r.1.owner) ∧ W.cell? ⟨w.heap.size, 3, none⟩ = some (.int .i64 r.1.key) ∧ W.cell? ⟨w.heap.size, 4, none⟩ = some (.int .i64 r.1.seq) ∧ W.cell? ⟨w.heap.size, 5, none⟩ = some (.slice ra r.1.near.length rc) ∧ W.cell? ⟨w.heap.size, 6, none⟩ = some (.int .i64 r.1.cost) ∧ W.cell? ⟨w.heap.size, 7, none⟩ = some (.bool r.1.far)) (first | go_keep | (refine ⟨?_, ?_, ?_, ?_, ?_, ?_, ?_, ?_, ?_, ?_, ?_, ?_, ?_, ?_, ?_, ?_⟩ <;> (rw [hbc.cell (by assumption)]; assumption))) (first | (go_at_call 134; refine (HK.out _).mono ?_; rintro e w1 ⟨rfl, hbc⟩))
      have B1 : Below w0.heap.size w0 w1 := hnx.trans ((Below.refl _ _).drew.trans (hbc.mono hsz))
      have OW1 := hide (owns_below OW.out ((Below.refl wr.heap.size wr).drew.trans hbc) (Nat.le_refl _))
      have HFT2 := hide (show m = ps.filter (fun p => beforeB p.1 r.1) ++ [r] ++ (ps.take (k + 1)).filter (fun p => beforeB r.1 p.1) by rw [(HM).out, HFT.out]; simp)
      go_wp2
      go_roundw
      case rel => exact ⟨k + 1, _, _, by omega, by go_num, rfl, HFT2, OW1.out, B1⟩
      case measure => simp [intOf]; omega
     ·go_wp2
      go_region_held3 (fun W => W.cell? ⟨b, off + k * 8, none⟩ = some (.int .i64 p.1.area) ∧ W.cell? ⟨b, off + k * 8 + 1, none⟩ = some (.int .i64 p.1.kind) ∧ W.cell? ⟨b, off + k * 8 + 2, none⟩ = some (.int .i64 p.1.owner) ∧ W.cell? ⟨b, off + k * 8 + 3, none⟩ = some (.int .i64 p.1.key) ∧ W.cell? ⟨b, off + k * 8 + 4, none⟩ = some (.int .i64 p.1.seq) ∧ W.cell? ⟨b, off + k * 8 + 5, none⟩ = some (.slice pa p.1.near.length pc) ∧ W.cell? ⟨b, off + k * 8 + 6, none⟩ = some (.int .i64 p.1.cost) ∧ W.cell? ⟨b, off + k * 8 + 7, none⟩ = some (.bool p.1.far) ∧ W.cell? ⟨w.heap.size, 0, none⟩ = some (.int .i64 r.1.area) ∧ W.cell? ⟨w.heap.size, 1, none⟩ = some (.int .i64 r.1.kind) ∧ W.cell? ⟨w.heap.size, 2, none⟩ = some (.int .i64 r.1.owner) ∧ W.cell? ⟨w.heap.size, 3, none⟩ = some (.int .i64 r.1.key) ∧ W.cell? ⟨w.heap.size, 4, none⟩ = some (.int .i64 r.1.seq) ∧ W.cell? ⟨w.heap.size, 5, none⟩ = some (.slice ra r.1.near.length rc) ∧ W.cell? ⟨w.heap.size, 6, none⟩ = some (.int .i64 r.1.cost) ∧ W.cell? ⟨w.heap.size, 7, none⟩ = some (.bool r.1.far)) (first | go_keep | (refine ⟨?_, ?_, ?_, ?_, ?_, ?_, ?_, ?_, ?_, ?_, ?_, ?_, ?_, ?_, ?_, ?_⟩ <;> (rw [hbc.cell (by assumption)]; assumption))) (first | (go_at_call 134; refine (HK.out _).mono ?_; rintro e w1 ⟨rfl, hbc⟩))
      have B1 : Below w0.heap.size w0 w1 := hnx.trans ((Below.refl _ _).drew.trans (hbc.mono hsz))
      have OW1 := hide (owns_below OW.out ((Below.refl wr.heap.size wr).drew.trans hbc) (Nat.le_refl _))
      have b1s := B1.size
      have m0 := (hbc.cell (p := ⟨b, off + k * 8, none⟩) hb1).trans c0
      have m1 := (hbc.cell (p := ⟨b, off + k * 8 + 1, none⟩) hb1).trans c1
      have m2 := (hbc.cell (p := ⟨b, off + k * 8 + 2, none⟩) hb1).trans c2
      have m3 := (hbc.cell (p := ⟨b, off + k * 8 + 3, none⟩) hb1).trans c3
      have m4 := (hbc.cell (p := ⟨b, off + k * 8 + 4, none⟩) hb1).trans c4
      have m5 := (hbc.cell (p := ⟨b, off + k * 8 + 5, none⟩) hb1).trans c5
      have m6 := (hbc.cell (p := ⟨b, off + k * 8 + 6, none⟩) hb1).trans c6
      have m7 := (hbc.cell (p := ⟨b, off + k * 8 + 7, none⟩) hb1).trans c7
      have HFT2 := hide (show m ++ [(p.1, .slice pa p.1.near.length pc)] = ps.filter (fun p => beforeB p.1 r.1) ++ [r] ++ (ps.take (k + 1)).filter (fun p => beforeB r.1 p.1) by rw [(HM).out, HFT.out, ← HPE.out]; simp)
      go_wp2_with (first
       | (at_builtin; refine append_struct5 encP_len (by omega) (by omega) _ rfl _ _ 29 rfl (w.heap.size + 1) 39 Tryz.underlying29 (.agg (recC zeroRD (.slice none 0 0))) rfl Tryz.infoRec _ (m) (p.1, .slice pa p.1.near.length pc) (encP_one _ _ _ _) rfl (OW1.out.alloc _) ⟨w1.heap.size, 0, none⟩ 1 rfl (news_struct (cs := encP (p.1, .slice pa p.1.near.length pc))) (by have := HQL.out; omega) (by simp; omega) ?_))
      intro v' w4 hown' hgrow
      obtain ⟨va, vc, rfl⟩ := owns_lenS hown'
      have B4 : Below w0.heap.size w0 w4 := (B1.alloc b1s _).grown hgrow (by simp; omega) (fun j hj => by have := (OW1.out.lt j hj).1; omega)
      have OW4 := hide hown'
      clear hown' hgrow
      go_wp2
      go_roundw
      case rel => exact ⟨k + 1, _, _, by omega, by go_num, rfl, HFT2, by simpa using OW4.out, B4⟩
      case measure => simp [intOf]; omega
    ·have hkn : k = ps.length := by omega
     have htk : ps.take k = ps := by rw [hkn, List.take_length]
     rw [htk] at HM
     have OW := hide hown
     clear hown hkn htk
     go_wp2
     go_ret
     refine ⟨_, rfl, ⟨?_, fun j hj => (OW.out.lt j hj).2, ?_⟩, BWR, fun j hj => by have := (OW.out.lt j hj).1; omega⟩
     ·rw [← HM.out]; exact owns_baseS OW.out (Nat.zero_le _)
     intro q hq
     have hmem : q ∈ ps ∨ q = r := by
      rcases List.mem_append.1 hq with h | h
      ·rcases List.mem_append.1 h with h | h
       ·exact .inl ((List.mem_filter.1 h).1)
       ·exact .inr (by simpa using h)
      ·exact .inl ((List.mem_filter.1 h).1)
     have hno : NearOwn w 0 hi q := by
      rcases hmem with h | h
      ·exact HV.out.nears q h
      ·rw [h]; exact HR.out
     exact (hno.keep (W' := wr) (fun j _ h2 _ => BWR.block j (by omega))).wide (Nat.le_refl _) (by omega)
theorem put_any (v : Value) (ps : List RP) (hi : Nat) (r : RP) (w : World) (hv : RecsIn w hi v ps) (hhi : hi ≤ w.heap.size) (hn : tot ps ≤ 1048576) (hr : NearOwn w 0 hi r) :
  Calls Tryz.prog 58 #[v, .agg (recC r.1 r.2)] w fun e w' => ∃ x, e = .returned x ∧ RecsIn w' w'.heap.size x (putL ps r) ∧ Below w.heap.size w w' := by
 refine (put_fine v ps hi r w hv hhi hn hr).mono ?_
 rintro e w' ⟨x, h1, h2, h3, _⟩
 exact ⟨x, h1, h2, h3⟩
end Go.Proofs.YtmijnjnihhemgaaGreat
