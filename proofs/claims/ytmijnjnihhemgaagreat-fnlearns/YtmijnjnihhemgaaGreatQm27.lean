/-
  impl.heardOk: its contract.
  impl.SelfOk: its contract.
  What is merged is not taken again: the plain mathematics.
  The region of spec.l08Self that draws one more record into the store, in every order.
-/
import Derived.Test.YtmijnjnihhemgaaGreatQm5
import Derived.Test.YtmijnjnihhemgaaGreatQm26
import Derived.Test.YtmijnjnihhemgaaGreatQm6
import Derived.Deep.RegionHeld3
import Derived.Test.YtmijnjnihhemgaaGreatQm3
import Derived.Test.YtmijnjnihhemgaaGreatQm15
import Derived.Test.YtmijnjnihhemgaaGreatQm7
import Derived.Test.YtmijnjnihhemgaaGreatQm18
import Derived.Test.YtmijnjnihhemgaaGreatQm13
namespace Go.Proofs.YtmijnjnihhemgaaGreat
open Go.RowKit
set_option linter.unusedSimpArgs false
set_option linter.unusedVariables false
set_option maxRecDepth 100000
set_option maxHeartbeats 8000000
def heV (p : Int × Int) : Value := .agg #[.int .i64 p.1, .int .i64 p.2]
def heE (p : Int × Int) : List Value := [.int .i64 p.1, .int .i64 p.2]
theorem heE_len (p : Int × Int) : (heE p).length = 2 := rfl
theorem heE_one (p : Int × Int) : ∀ u ∈ heE p, u.oneCell' = true := by
 intro u hu
 simp only [heE, List.mem_cons, List.not_mem_nil, or_false] at hu
 rcases hu with rfl | rfl <;> rfl
def EndsAt (W : World) (v : Value) (ls : List (Int × Int)) (B : Nat) : Prop := StructsAt heE 2 W v ls B
instance : Inhabited (Int × Int) := ⟨(0, 0)⟩
theorem EndsAt.shape {W : World} {v : Value} {ls : List (Int × Int)} {B : Nat} (h : EndsAt W v ls B) : ∃ a cap, v = .slice a ls.length cap := by
 obtain ⟨a, cap, h, _⟩ := h
 exact ⟨a, cap, h⟩
theorem EndsAt.cells {W : World} {v : Value} {ls : List (Int × Int)} {B : Nat} (h : EndsAt W v ls B) (i : Nat) (p : Int × Int) (hp : ls[i]? = some p) :
  ∃ b off cap, v = .slice (some ⟨b, off, none⟩) ls.length cap ∧ b < B ∧ W.cell? ⟨b, off + i * 2, none⟩ = some (.int .i64 p.1) ∧ W.cell? ⟨b, off + i * 2 + 1, none⟩ = some (.int .i64 p.2) := by
 obtain ⟨b, off, cap, hv, hb, hc⟩ := StructsAt.cell h heE_len i p hp
 exact ⟨b, off, cap, hv, hb, hc 0 _ rfl, hc 1 _ rfl⟩
theorem Tryz.infoEnd : (Tryz.prog.info? 159).map (fun i => (i.zero, i.size, i.bytes)) = some (some (.agg #[.int .i64 0, .int .i64 0]), 2, 16) := by kernel_rfl
theorem step_append_struct {α : Type} {enc : α → List Value} {sz bytes : Nat} (hlen : ∀ a, (enc a).length = sz) (hpos : 0 < sz) (hbb : bytes ≤ 100) {P : Program} {ops : Array Oper} {o : Oper} {a : Act} {w : World} {K : Act → World → Prop} {Q : Exit → Act → World → Prop} {E : Prop} (hgd : o.guard = none) (s x : Operand) (t : TypeId)
  (ho : o.op = .call { callee := .builtin .append, args := #[s, x], argTypes := #[t, t] }) (base : Nat) (e : TypeId) (ht : P.underlying t = some (.slice e)) (zv : Value) (hzv : zv.cells.size = sz)
  (hinfo : (P.info? e).map (fun i => (i.zero, i.size, i.bytes)) = some (some zv, sz, bytes))
  (v : Value) (l : List α) (y : α) (hone : ∀ u ∈ enc y, u.oneCell' = true) (hs : a.eval s = v) (hown : w.ownsRow base e sz v l.length (flat enc l))
  (ad : Addr) (c : Nat) (hx : a.eval x = .slice (some ad) 1 c) (hnews : ∀ j u, (enc y)[j]? = some u → w.cell? (ad.add j) = some u)
  (hl : l.length + 1 ≤ 1000000000) (hbase : base ≤ w.heap.size)
  (h : ∀ v' w', w'.ownsRow base e sz v' (l ++ [y]).length (flat enc (l ++ [y])) → w.grownBy w' v.ownBlock → K (a.put o.dst v') w') :
  if Region.wanted o (yielded ops a.tmps) = true then Oper.wp P o a w K Q else E := by
 have hw : Region.wanted o (yielded ops a.tmps) = true := by simp [Region.wanted, hgd]
 rw [if_pos hw]
 obtain ⟨i0, hi, hz0, hz1, hz2⟩ := info_parts hinfo
 refine wp_append_own w s x t ho base e i0 zv sz bytes ht hi hz0 hz1 hz2 hzv hpos v l.length (flat enc l) hs hown ad 1 c (enc y) hx (by rw [hlen]; omega) hnews hone (by unfold maxLen; omega) ?_ hbase ?_
 ·have : (l.length + 1) * bytes ≤ 1000000000 * 100 := Nat.mul_le_mul hl hbb
  omega
 ·intro v' w' h1 h2 _
  have e1 : flat enc l ++ enc y = flat enc (l ++ [y]) := by rw [flat_append]; simp [flat]
  rw [e1] at h1
  exact h v' w' (by simpa using h1) h2
theorem ordH_any (l m : Int × Int) (w : World) : Calls Tryz.prog 140 #[heV l, heV m] w fun e w' => e = .returned (.int .i64 (ordH l m)) ∧ Below w.heap.size w w' := by
 obtain ⟨o, k⟩ := l
 obtain ⟨o', k'⟩ := m
 unfold heV ordH
 simp only []
 go_enter Tryz.func140, Tryz.ntmps140
 go_wp2
 obtain ⟨w1, hw1⟩ : ∃ w1, w1 = (w.alloc (.cells #[.int .i64 o, .int .i64 k] 159)).alloc (.cells #[.int .i64 o', .int .i64 k'] 159) := ⟨_, rfl⟩
 have B1 : Below w.heap.size w w1 := by rw [hw1]; exact below_two _ _
 have p0 : w1.heap[w.heap.size]? = some (.cells #[.int .i64 o, .int .i64 k] 159) := by rw [hw1, Below.heap_alloc _ _ _ (by simp), heap_alloc_new]
 have q0 : w1.heap[w.heap.size + 1]? = some (.cells #[.int .i64 o', .int .i64 k'] 159) := by
  rw [hw1]
  have := heap_alloc_new (w.alloc (.cells #[.int .i64 o, .int .i64 k] 159)) (.cells #[.int .i64 o', .int .i64 k'] 159)
  simpa using this
 rw [← hw1]
 clear hw1
 have s0 := cells_at p0 0
 have s1 := cells_at p0 1
 have t0 := cells_at q0 0
 have t1 := cells_at q0 1
 have hz0 := lt_of_heap p0
 have hz1 := lt_of_heap q0
 simp at s0 s1 t0 t1
 clear p0 q0
 have hz2 := B1.size
 go_region_held3 (fun W => W.cell? ⟨w.heap.size, 0, none⟩ = some (.int .i64 o) ∧ W.cell? ⟨w.heap.size, 1, none⟩ = some (.int .i64 k) ∧ W.cell? ⟨w.heap.size + 1, 0, none⟩ = some (.int .i64 o') ∧ W.cell? ⟨w.heap.size + 1, 1, none⟩ = some (.int .i64 k')) (first | go_keep | assumption) (first | (go_at_call 206; refine (compare_any _ _ _).mono ?_; rintro e w' ⟨rfl, rfl⟩) | (go_at_call 205; refine (or_two _ (cmpN o o') (cmpN k k') _ ?_ ?_).mono ?_; (exact new_cell _ _ _ _ _ rfl); (exact new_cell _ _ _ _ _ rfl); rintro e w' ⟨rfl, rfl⟩))
 go_wp2
 go_ret
 exact ⟨rfl, B1.drew.alloc B1.size _⟩
theorem ascH_any (v : Value) (ls : List (Int × Int)) (w : World) (hls : ls.length ≤ 1048576) (hv : EndsAt w v ls w.heap.size) :
  Calls Tryz.prog 139 #[v, .func (.func 140) #[] #[]] w fun e w' => e = .returned (.bool (ascB ordH ls)) ∧ Below w.heap.size w w' := by
 obtain ⟨a, cap, rfl⟩ := EndsAt.shape hv
 have HV := hide hv
 clear hv
 go_enter Tryz.func139, Tryz.ntmps139
 go_wp2
 go_loopw [5] (fun i wr => ∃ k : Nat, 1 ≤ k ∧ (k ≤ ls.length ∨ k = 1) ∧ i = .int .i64 k ∧ (∀ j, j < k → ascAt ordH ls j = true) ∧ Below w.heap.size w wr) (fun i _ => ls.length + 1 - (intOf i).toNat)
 case atStart => exact ⟨1, by omega, by omega, rfl, fun j hj => by (obtain rfl : j = 0 := by omega); rfl, Below.refl _ _⟩
 case round =>
  obtain ⟨k, hk1, hk, rfl, hno, hb⟩ := hrel
  have HNO := hide hno
  clear hno
  by_cases hlt : k < ls.length
  ·obtain ⟨l, hl⟩ : ∃ l, ls[k]? = some l := ⟨ls[k], List.getElem?_eq_getElem hlt⟩
   obtain ⟨j, hj⟩ : ∃ j, k = j + 1 := ⟨k - 1, by omega⟩
   obtain ⟨p, hp⟩ : ∃ p, ls[j]? = some p := ⟨ls[j], List.getElem?_eq_getElem (by omega)⟩
   obtain ⟨b, off, cap', hve, hbb, c0, c1⟩ := EndsAt.cells HV.out k l hl
   cases hve
   obtain ⟨b', off', cap2, hve2, hbb2, d0, d1⟩ := EndsAt.cells HV.out j p hp
   cases hve2
   rw [← hb.cell (p := ⟨b, off + k * 2, none⟩) hbb] at c0
   rw [← hb.cell (p := ⟨b, off + k * 2 + 1, none⟩) hbb] at c1
   rw [← hb.cell (p := ⟨b, off + j * 2, none⟩) hbb] at d0
   rw [← hb.cell (p := ⟨b, off + j * 2 + 1, none⟩) hbb] at d1
   have hat : ascAt ordH ls k = decide (ordH p l < 0) := by rw [hj]; exact ascAt_eq hp (by rw [← hj]; exact hl)
   have hzr := hb.size
   have hbr : b < wr.heap.size := by omega
   have hki : (0 : Int) ≤ (k : Int) := by omega
   have hkj : (k : Int) < (ls.length : Int) := by omega
   have hj1 : (k : Int) - 1 = (j : Int) := by omega
   have hj2 : (0 : Int) ≤ (j : Int) := by omega
   have hj3 : (j : Int) < (ls.length : Int) := by omega
   have hj5 : IntKind.i64.wrap (j : Int) = (j : Int) := wrap_fit _ (by omega) (by omega)
   have HORD := hide (ordH_any p l)
   have HAT := hide hat
   have HJ := hide hj
   clear hl hp hat hj
   obtain ⟨x, hx⟩ : ∃ x, x = ordH p l := ⟨_, rfl⟩
   rw [← hx] at HORD HAT
   clear hx
   unfold heV at HORD
   by_cases hx0 : x < 0
   ·have hx1 : ¬ (0 : Int) ≤ x := by omega
    rw [decide_eq_true hx0] at HAT
    go_wp2
    go_region_held3 (fun W => W.cell? ⟨b, off + k * 2, none⟩ = some (.int .i64 l.1) ∧ W.cell? ⟨b, off + k * 2 + 1, none⟩ = some (.int .i64 l.2) ∧ W.cell? ⟨b, off + j * 2, none⟩ = some (.int .i64 p.1) ∧ W.cell? ⟨b, off + j * 2 + 1, none⟩ = some (.int .i64 p.2)) (first | go_keep | (refine ⟨?_, ?_, ?_, ?_⟩ <;> (rw [hbc.cell (by assumption)]; assumption))) (first | (go_at_call 140; refine (HORD.out _).mono ?_; rintro e w2 ⟨rfl, hbc⟩))
    go_wp2
    exact ⟨⟨k + 1, by omega, by omega, by go_num, next_true HNO.out HAT.out, hb.drew.trans (hbc.mono hb.size)⟩, by simp [intOf]; omega⟩
   ·have hx1 : (0 : Int) ≤ x := by omega
    rw [decide_eq_false hx0] at HAT
    have hf : ascB ordH ls = false := all_false hlt HAT.out
    have HF := hide hf
    clear hf
    go_wp2
    go_region_held3 (fun W => W.cell? ⟨b, off + k * 2, none⟩ = some (.int .i64 l.1) ∧ W.cell? ⟨b, off + k * 2 + 1, none⟩ = some (.int .i64 l.2) ∧ W.cell? ⟨b, off + j * 2, none⟩ = some (.int .i64 p.1) ∧ W.cell? ⟨b, off + j * 2 + 1, none⟩ = some (.int .i64 p.2)) (first | go_keep | (refine ⟨?_, ?_, ?_, ?_⟩ <;> (rw [hbc.cell (by assumption)]; assumption))) (first | (go_at_call 140; refine (HORD.out _).mono ?_; rintro e w2 ⟨rfl, hbc⟩))
    go_wp2
    go_ret
    exact ⟨ret_bool HF.out, hb.drew.trans (hbc.mono hb.size)⟩
  ·have hall : ascB ordH ls = true := all_true fun i hi => HNO.out i (by omega)
   have HA := hide hall
   clear hall
   go_wp2
   go_ret
   exact ⟨ret_bool HA.out, hb⟩
theorem heardEnds_any (v : Value) (h : List Int) (w : World) (hn : h.length ≤ 1048576) (hv : HopsAt w v h w.heap.size) :
  Calls Tryz.prog 137 #[v] w fun e w' => ∃ u, e = .returned u ∧ w'.ownsRow w.heap.size 159 2 u (pairsOf h).length (flat heE (pairsOf h)) ∧ Below w.heap.size w w' := by
 obtain ⟨a, cap, rfl⟩ := hv.shape
 have HV := hide hv
 have hpl := pairs_len h
 have HPL := hide hpl
 clear hv hpl
 go_enter Tryz.func137, Tryz.ntmps137
 go_wp2
 go_loopw [4, 3] (fun i o wr => ∃ (k : Nat) (u : Value), 2 * k ≤ h.length ∧ i = .int .i64 (2 * (k : Int) + 1) ∧ o = u ∧ wr.ownsRow w.heap.size 159 2 u ((pairsOf h).take k).length (flat heE ((pairsOf h).take k)) ∧ Below w.heap.size w wr) (fun i _ _ => h.length + 2 - (intOf i).toNat)
 case atStart => exact ⟨0, _, by omega, by simp, rfl, World.ownsRow_nil _ _ _ _, Below.refl _ _⟩
 case round =>
  obtain ⟨k, u, hk, rfl, rfl, hown, hb⟩ := hrel
  have hsz := hb.size
  obtain ⟨ua, uc, hue⟩ := owns_lenS hown
  have htl : ((pairsOf h).take k).length = k := by rw [List.length_take, HPL.out]; omega
  by_cases hlt : 2 * k + 1 < h.length
  ·have hj0 : (2 * (k : Int) + 1) < (h.length : Int) := by omega
   obtain ⟨x, hx⟩ : ∃ x, h[2 * k]? = some x := ⟨h[2 * k], List.getElem?_eq_getElem (by omega)⟩
   obtain ⟨y, hy⟩ : ∃ y, h[2 * k + 1]? = some y := ⟨h[2 * k + 1], List.getElem?_eq_getElem hlt⟩
   obtain ⟨b, off, cap', hve, hbb, c0⟩ := HV.out.cell (2 * k) x hx
   cases hve
   obtain ⟨b', off', cap2, hve2, hbb2, d0⟩ := HV.out.cell (2 * k + 1) y hy
   cases hve2
   rw [← hb.cell (p := ⟨b, off + 2 * k, none⟩) hbb] at c0
   rw [← hb.cell (p := ⟨b, off + (2 * k + 1), none⟩) hbb] at d0
   have HST := hide (pairs_take h k x y hx hy)
   have hbr : b < wr.heap.size := by omega
   have e1 : (2 * (k : Int) + 1) - 1 = ((2 * k : Nat) : Int) := by omega
   have e2 : (2 * (k : Int) + 1) = ((2 * k + 1 : Nat) : Int) := by omega
   have hw1 : IntKind.i64.wrap (2 * (k : Int) + 1 - 1) = 2 * (k : Int) + 1 - 1 := wrap_fit _ (by omega) (by omega)
   subst hue
   clear hx hy
   have HOW := hide hown
   have HVV := hide HV
   clear hown HV
   have q1 : (0 : Int) ≤ 2 * (k : Int) := by omega
   have q2 : 2 * (k : Int) < (h.length : Int) := by omega
   have q3 : (0 : Int) ≤ 2 * (k : Int) + 1 := by omega
   have q4 : (2 * (k : Int)).toNat = 2 * k := by omega
   have q5 : (2 * (k : Int) + 1).toNat = 2 * k + 1 := by omega
   have q6 : 2 * (k : Int) + 1 - 1 = 2 * (k : Int) := by omega
   rw [q6] at hw1
   rw [htl] at HOW ⊢
   clear e1 e2
   have HNE : some b ≠ (Value.slice ua k uc).ownBlock := fun e => by have := (HOW.out.lt b e.symm).1; omega
   go_wp2
   go_region_held3 (fun W => W.cell? ⟨b, off + 2 * k, none⟩ = some (.int .i64 x) ∧ W.cell? ⟨b, off + (2 * k + 1), none⟩ = some (.int .i64 y)) (first | go_keep | exact ⟨hgrow.cell ((((Below.refl wr.heap.size wr).alloc (Nat.le_refl _) _).drew.cell hbr).trans c0) HNE, hgrow.cell ((((Below.refl wr.heap.size wr).alloc (Nat.le_refl _) _).drew.cell hbr).trans d0) HNE⟩) (first | (refine step_append_struct heE_len (by omega) (by omega) rfl _ _ 156 rfl w.heap.size 159 Tryz.underlying156 (.agg #[.int .i64 0, .int .i64 0]) rfl Tryz.infoEnd (.slice ua k uc) ((pairsOf h).take k) (x, y) (heE_one _) rfl ?_ ⟨wr.heap.size, 0, none⟩ 1 rfl ?_ ?_ ?_ ?_; (rw [htl]; exact (HOW.out.alloc _).drew); (exact news_struct (cs := heE (x, y))); (omega); (simp; omega); intro v' w1 hown' hgrow))
   have hgs := hgrow.size
   simp at hgs
   have BF : Below w.heap.size w w1 := (hb.alloc hsz _).drew.grown hgrow (by simp; omega) (fun k hk => (HOW.out.lt k hk).1)
   have HO := hide hown'
   clear hown' hgrow
   go_wp2
   go_roundw
   case rel => exact ⟨k + 1, v', by omega, by go_num, rfl, by rw [HST.out]; exact HO.out, BF⟩
   case measure => simp [intOf]; omega
  ·have hj0 : ¬ (2 * (k : Int) + 1) < (h.length : Int) := by omega
   have KN := hide (show (pairsOf h).take k = pairsOf h by rw [List.take_of_length_le]; rw [HPL.out]; omega)
   subst hue
   have OW := hide hown
   clear hown
   go_wp2
   go_ret
   have h1 := OW.out
   rw [KN.out] at h1
   exact ⟨_, by rw [← KN.out, htl]; rfl, h1, hb⟩
theorem heardOk_any (v1 v2 v3 v4 : Value) (x : SelfD) (ps : List RP) (w : World) (hl : x.net.ls.length ≤ 1048576) (hh : x.heard.length ≤ 1048576) (hv : SelfIn w v1 v2 v3 v4 x ps w.heap.size) :
  Calls Tryz.prog 66 #[selfV x v1 v2 v3 v4] w fun e w' => e = .returned (.bool (heardB x.net.ls x.id x.heard)) ∧ Below w.heap.size w w' := by
 obtain ⟨a1, c1, rfl⟩ := hv.links.shape
 obtain ⟨a2, c2, rfl⟩ := hv.things.shape
 obtain ⟨a3, c3, rfl⟩ := hv.heard.shape
 obtain ⟨a4, c4, rfl⟩ := hv.store.shape
 have HX := hide hv
 have HPL := hide (pairs_len x.heard)
 clear hv
 obtain ⟨H, hH⟩ : ∃ H, H = heardB x.net.ls x.id x.heard := ⟨_, rfl⟩
 rw [← hH]
 have HH := hide hH
 clear hH
 go_enter Tryz.func66, Tryz.ntmps66
 have BA : Below w.heap.size w (w.alloc (.cells #[.int .i64 x.id, .int .i64 x.boot, .int .i64 x.net.n, .slice a1 x.net.ls.length c1, .slice a2 x.net.ts.length c2, .slice a3 x.heard.length c3, .slice a4 ps.length c4] 31)) := (Below.refl _ _).alloc (Nat.le_refl _) _
 have HE := hide (heardEnds_any (.slice a3 x.heard.length c3) x.heard _ hh (HX.out.heard.then BA))
 go_wp2_with fail
 refine HE.out.mono ?_
 rintro e w1 ⟨u, rfl, ho, b1⟩
 have g1 : w1.heap[w.heap.size]? = some (.cells #[.int .i64 x.id, .int .i64 x.boot, .int .i64 x.net.n, .slice a1 x.net.ls.length c1, .slice a2 x.net.ts.length c2, .slice a3 x.heard.length c3, .slice a4 ps.length c4] 31) := by rw [b1.block _ (by simp)]; exact heap_alloc_new w _
 have B1 : Below w.heap.size w w1 := BA.trans (b1.mono BA.size)
 obtain ⟨ua, uc, rfl⟩ := owns_lenS ho
 obtain ⟨L, hL⟩ : ∃ L, L = pairsOf x.heard := ⟨_, rfl⟩
 rw [← hL] at ho ⊢
 have EA := hide (show EndsAt w1 (.slice ua L.length uc) L w1.heap.size from owns_rowAt ho)
 have hLl : L.length ≤ 1048576 := by rw [hL, HPL.out]; omega
 have HL := hide hL
 have G1 := hide g1
 clear hL ho b1 BA HE g1
 go_wp2
 go_loopw [11] (fun i wr => ∃ k : Nat, k ≤ L.length ∧ i = .int .i64 k ∧ Hid (∀ j, j < k → okAt (hitP x.net.ls x.id) L j = true) ∧ Below w1.heap.size w1 wr) (fun i _ => L.length + 1 - (intOf i).toNat)
 case atStart => exact ⟨0, by omega, rfl, hide (by omega), Below.refl _ _⟩
 case round =>
  obtain ⟨k, hk, rfl, HNO, hb⟩ := hrel
  have gr := (hb.block _ (lt_of_heap G1.out)).trans G1.out
  have B2 : Below w.heap.size w wr := B1.trans (hb.mono B1.size)
  have t0 := cells_at gr 0
  have t2 := cells_at gr 2
  have t3 := cells_at gr 3
  have t4 := cells_at gr 4
  have t5 := cells_at gr 5
  simp at t0 t2 t3 t4 t5
  have hgl := lt_of_heap gr
  by_cases hlt : k < L.length
  ·obtain ⟨p, hp⟩ : ∃ p, L[k]? = some p := ⟨L[k], List.getElem?_eq_getElem hlt⟩
   obtain ⟨b, off, cap', hve, hbb, c0, c1'⟩ := EndsAt.cells EA.out k p hp
   cases hve
   rw [← hb.cell (p := ⟨b, off + k * 2, none⟩) hbb] at c0
   rw [← hb.cell (p := ⟨b, off + k * 2 + 1, none⟩) hbb] at c1'
   have hki : (0 : Int) ≤ (k : Int) := by omega
   have hkj : (k : Int) < (L.length : Int) := by omega
   have BC : Below wr.heap.size wr (wr.alloc (.cells #[.int .i64 p.1, .int .i64 p.2] 159)) := (Below.refl _ _).alloc (Nat.le_refl _) _
   have HC := hide (icost_any (.int .i64 x.net.n) (.slice a1 x.net.ls.length c1) (.slice a2 x.net.ts.length c2) x.net.ls x.id p.1 p.2 _ hl (RowAt.then (RowAt.then HX.out.links B2) BC))
   obtain ⟨C, hC⟩ : ∃ C, C = costN x.net.ls x.id p.1 p.2 := ⟨_, rfl⟩
   rw [← hC] at HC
   have HAT := hide (show okAt (hitP x.net.ls x.id) L k = !(C == 0) by rw [okAt_eq hp, hC]; rfl)
   clear hC hp gr
   go_wp2_with fail
   refine HC.out.mono ?_
   rintro e w3 ⟨rfl, b3⟩
   have B3 : Below w1.heap.size w1 w3 := (hb.trans (BC.mono hb.size)).trans (b3.mono (by have := BC.size; have := hb.size; omega))
   have B4 : Below w.heap.size w w3 := B1.trans (B3.mono B1.size)
   clear b3 HC c0 c1' t0 t2 t3 t4 t5
   by_cases hc0 : C = 0
   ·have HF := hide (show H = false by
     rw [HH.out]
     unfold heardB
     rw [← HL.out]
     have : L.all (hitP x.net.ls x.id) = false := by
      rw [List.all_eq_false]
      refine ⟨L[k], List.getElem_mem hlt, ?_⟩
      have h := HAT.out
      rw [okAt_eq (List.getElem?_eq_getElem hlt), hc0] at h
      rw [h]
      simp
     rw [this, Bool.false_and])
    subst hc0
    go_wp2
    go_ret
    exact ⟨ret_bool HF.out, B4⟩
   ·have HT := hide (show okAt (hitP x.net.ls x.id) L k = true by rw [HAT.out]; simpa using hc0)
    go_wp2
    go_roundw
    case rel => exact ⟨k + 1, by omega, by go_num, hide (next_true HNO.out HT.out), B3⟩
    case measure => simp [intOf]; omega
  ·have hkj : ¬ (k : Int) < (L.length : Int) := by omega
   have HALL := hide (show L.all (hitP x.net.ls x.id) = true by
    rw [List.all_eq_true]
    intro q hq
    obtain ⟨i, hi, e⟩ := List.mem_iff_getElem.1 hq
    have h := HNO.out i (by omega)
    rw [okAt_eq (List.getElem?_eq_getElem hi), e] at h
    exact h)
   have HAS := hide (ascH_any (.slice ua L.length uc) L _ hLl (RowAt.then EA.out hb))
   have HFIN := hide (show H = (decide (x.heard.length % 2 = 0) && ascB ordH L) by
    rw [HH.out]
    unfold heardB
    rw [← HL.out, HALL.out, Bool.true_and])
   clear HNO gr
   by_cases hpar : x.heard.length % 2 = 0
   ·have hp1 : (x.heard.length : Int) % 2 = 0 := by omega
    rw [decide_eq_true hpar, Bool.true_and] at HFIN
    clear hpar
    go_wp2_with fail
    refine HAS.out.mono ?_
    rintro e w3 ⟨rfl, b3⟩
    have B4 : Below w.heap.size w w3 := B2.trans (b3.mono B2.size)
    clear b3 t0 t2 t3 t4 t5
    go_wp2
    go_ret
    exact ⟨ret_bool HFIN.out, B4⟩
   ·have hp1 : ¬ (x.heard.length : Int) % 2 = 0 := by omega
    rw [decide_eq_false hpar, Bool.false_and] at HFIN
    clear hpar
    go_wp2
    go_ret
    exact ⟨ret_bool HFIN.out, B2⟩
def selfB (x : SelfD) (ps : List RP) : Bool := netOkI x.net && (inB x.id 1 x.net.n && (inB x.boot 0 90 && (heardB x.net.ls x.id x.heard && storeB (fsts ps))))
theorem iselfOk_any (v1 v2 v3 v4 : Value) (x : SelfD) (ps : List RP) (w : World) (ht : totS x ps ≤ 1048576) (hv : SelfIn w v1 v2 v3 v4 x ps w.heap.size) :
  Calls Tryz.prog 12 #[selfV x v1 v2 v3 v4] w fun e w' => e = .returned (.bool (selfB x ps)) ∧ Below w.heap.size w w' := by
 obtain ⟨⟨a1, c1, rfl⟩, ⟨a2, c2, rfl⟩, ⟨a3, c3, rfl⟩, ⟨a4, c4, rfl⟩⟩ := hv.shapes
 have hlL : x.net.ls.length ≤ 1048576 := by unfold totS at ht; omega
 have hlT : x.net.ts.length ≤ 1048576 := by unfold totS at ht; omega
 have hlH : x.heard.length ≤ 1048576 := by unfold totS at ht; omega
 have hlR : tot ps ≤ 1048576 := by unfold totS at ht; omega
 have HX := hide hv
 clear hv ht
 have BA : Below w.heap.size w (w.alloc (.cells #[.int .i64 x.id, .int .i64 x.boot, .int .i64 x.net.n, .slice a1 x.net.ls.length c1, .slice a2 x.net.ts.length c2, .slice a3 x.heard.length c3, .slice a4 ps.length c4] 31)) := (Below.refl _ _).alloc (Nat.le_refl _) _
 have g0 := heap_alloc_new w (.cells #[.int .i64 x.id, .int .i64 x.boot, .int .i64 x.net.n, .slice a1 x.net.ls.length c1, .slice a2 x.net.ts.length c2, .slice a3 x.heard.length c3, .slice a4 ps.length c4] 31)
 obtain ⟨r1, h1⟩ : ∃ r, r = netOkI x.net := ⟨_, rfl⟩
 obtain ⟨r2, h2⟩ : ∃ r, r = inB x.id 1 x.net.n := ⟨_, rfl⟩
 obtain ⟨r3, h3⟩ : ∃ r, r = inB x.boot 0 90 := ⟨_, rfl⟩
 obtain ⟨r4, h4⟩ : ∃ r, r = heardB x.net.ls x.id x.heard := ⟨_, rfl⟩
 obtain ⟨r5, h5⟩ : ∃ r, r = storeB (fsts ps) := ⟨_, rfl⟩
 have HS := hide (show selfB x ps = (r1 && (r2 && (r3 && (r4 && r5)))) by unfold selfB; rw [h1, h2, h3, h4, h5])
 rw [HS.out]
 have HN := hide (inetOk_any _ x.net (w.alloc (.cells #[.int .i64 x.id, .int .i64 x.boot, .int .i64 x.net.n, .slice a1 x.net.ls.length c1, .slice a2 x.net.ts.length c2, .slice a3 x.heard.length c3, .slice a4 ps.length c4] 31)) hlL hlT (HX.out.then BA).net)
 have HI1 := hide (isIn_any x.id 1 x.net.n)
 have HI2 := hide (isIn_any x.boot 0 90)
 have HHD := hide (fun W (hb : Below w.heap.size w W)  => heardOk_any _ _ _ _ x ps W hlL hlH (HX.out.then hb))
 have HST := hide (fun W (hb : Below w.heap.size w W) => istoreOk_any _ ps W hlR (HX.out.then hb).store)
 rw [← h1] at HN
 rw [← h2] at HI1
 rw [← h3] at HI2
 rw [← h4] at HHD
 rw [← h5] at HST
 have G0 := hide g0
 clear h1 h2 h3 h4 h5 HS g0
 go_enter Tryz.func12, Tryz.ntmps12
 go_wp2_with fail
 obtain ⟨w0, hw0⟩ : ∃ W, W = w.alloc (.cells #[.int .i64 x.id, .int .i64 x.boot, .int .i64 x.net.n, .slice a1 x.net.ls.length c1, .slice a2 x.net.ts.length c2, .slice a3 x.heard.length c3, .slice a4 ps.length c4] 31) := ⟨_, rfl⟩
 rw [← hw0] at BA G0 HN ⊢
 clear hw0
 refine HN.out.mono ?_
 rintro e w1 ⟨rfl, b1⟩
 have g1 := (b1.block _ (lt_of_heap G0.out)).trans G0.out
 have B1 : Below w.heap.size w w1 := BA.trans (b1.mono BA.size)
 cases r1
 ·go_wp2
  go_ret
  exact ⟨rfl, B1⟩
 have s0 := cells_at g1 0
 have s1 := cells_at g1 1
 have s2 := cells_at g1 2
 have s3 := cells_at g1 3
 have s4 := cells_at g1 4
 have s5 := cells_at g1 5
 have s6 := cells_at g1 6
 simp at s0 s1 s2 s3 s4 s5 s6
 have G1 := hide g1
 clear g1 b1 HN
 go_wp2_with fail
 refine (HI1.out _).mono ?_
 rintro e w2 ⟨rfl, rfl⟩
 cases r2
 ·go_wp2
  go_ret
  exact ⟨rfl, B1⟩
 go_wp2_with fail
 refine (HI2.out _).mono ?_
 rintro e w2 ⟨rfl, rfl⟩
 cases r3
 ·go_wp2
  go_ret
  exact ⟨rfl, B1⟩
 go_wp2_with fail
 refine (HHD.out _ B1).mono ?_
 rintro e w3 ⟨rfl, b3⟩
 skip
 have g3 := (b3.block _ (lt_of_heap G1.out)).trans G1.out
 have B3 : Below w.heap.size w w3 := B1.trans (b3.mono B1.size)
 cases r4
 ·clear s0 s1 s2 s3 s4 s5 s6
  go_wp2
  go_ret
  exact ⟨rfl, B3⟩
 clear s0 s1 s2 s3 s4 s5 s6
 have s6 := cells_at g3 6
 simp at s6
 clear g3 b3
 go_wp2_with fail
 refine (HST.out _ B3).mono ?_
 rintro e w4 ⟨rfl, b4⟩
 have B4 : Below w.heap.size w w4 := B3.trans (b4.mono B3.size)
 clear b4
 go_wp2
 go_ret
 exact ⟨by simp, B4⟩
theorem takes_iff {M : List RecD} {r : RecD} (hM : Asc M) : takesB M r = true ↔ recOkB r = true ∧ ((∃ y ∈ M, sameKeyB y r = true ∧ y.seq < r.seq) ∨ ((∀ y ∈ M, sameKeyB y r = false) ∧ M.length < 150)) := by
 constructor
 ·intro h
  have hr := takes_ok h
  refine ⟨hr, ?_⟩
  rcases atZ_cases M r with hz | ⟨j, y, hz, hy, hys⟩
  ·rw [takes_none hr hz] at h
   exact .inr ⟨atZ_neg hz, by simpa using h⟩
  ·exact .inl ⟨y, List.mem_of_getElem? hy, hys, takes_seq hM h (List.mem_of_getElem? hy) hys⟩
 ·rintro ⟨hr, h⟩
  rcases atZ_cases M r with hz | ⟨j, y, hz, hy, hys⟩
  ·rw [takes_none hr hz]
   rcases h with ⟨x, hx, hs, _⟩ | ⟨_, hl⟩
   ·rw [atZ_neg hz x hx] at hs; cases hs
   ·simpa using hl
  ·rw [takes_at hr hz hy]
   rcases h with ⟨x, hx, hs, hq⟩ | ⟨hn, _⟩
   ·have e : x = y := asc_uniq hM hx (List.mem_of_getElem? hy) (same_trans hs (same_symm hys))
    rw [← e]
    simpa using hq
   ·rw [hn y (List.mem_of_getElem? hy)] at hys; cases hys
theorem same_few {r : RecD} : ∀ {M : List RecD}, Asc M → (M.filter (fun x => sameKeyB x r)).length ≤ 1 := by
 intro M hM
 have ha : Asc (M.filter (fun x => sameKeyB x r)) := asc_filter hM _
 cases h : M.filter (fun x => sameKeyB x r) with
 | nil => simp
 | cons x l =>
  cases l with
  | nil => simp
  | cons y l =>
   exfalso
   have hx : x ∈ M.filter (fun x => sameKeyB x r) := by rw [h]; simp
   have hy : y ∈ M.filter (fun x => sameKeyB x r) := by rw [h]; simp
   have sx := (List.mem_filter.1 hx).2
   have sy := (List.mem_filter.1 hy).2
   rw [h] at ha
   have hb : beforeB x y = true := (List.pairwise_cons.1 ha).1 y (by simp)
   have := bef_not_same hb
   rw [same_trans sx (same_symm sy)] at this
   cases this
theorem three_parts (r : RecD) : ∀ M : List RecD, (M.filter (fun x => beforeB x r)).length + (M.filter (fun x => sameKeyB x r)).length + (M.filter (fun x => beforeB r x)).length = M.length
 | [] => rfl
 | x :: M => by
  have ih := three_parts r M
  simp only [List.filter_cons, List.length_cons]
  rcases bef_tri x r with h | h | h
  ·have h2 := bef_not_same h
   have h3 := before_asym h
   rw [h, h2, h3]
   simp
   omega
  ·have h2 := bef_irrefl_same h
   rw [h, h2.1, h2.2]
   simp
   omega
  ·have h2 := before_asym h
   have h3 : sameKeyB x r = false := by
    cases e : sameKeyB x r with
    | false => rfl
    | true => have := bef_not_same h; rw [same_symm e] at this; cases this
   rw [h, h2, h3]
   simp
   omega
theorem putD_len (M : List RecD) (r : RecD) : (putD M r).length = (M.filter (fun x => beforeB x r)).length + 1 + (M.filter (fun x => beforeB r x)).length := by
 unfold putD
 simp
 omega
theorem putD_more {M : List RecD} (hM : Asc M) (r : RecD) : M.length ≤ (putD M r).length := by
 have h1 := three_parts r M
 have h2 := same_few (r := r) hM
 rw [putD_len]
 omega
theorem putD_same {M : List RecD} {r y : RecD} (hy : y ∈ M) (hs : sameKeyB y r = true) : (putD M r).length ≤ M.length := by
 have h1 := three_parts r M
 have h2 : 0 < (M.filter (fun x => sameKeyB x r)).length := List.length_pos_of_mem (List.mem_filter.2 ⟨hy, hs⟩)
 rw [putD_len]
 omega
theorem put_keeps {M : List RecD} {r y : RecD} (hM : Asc M) (ht : takesB M r = true) (hy : y ∈ M) : ∃ z ∈ putD M r, sameKeyB z y = true ∧ y.seq ≤ z.seq := by
 rcases bef_tri y r with h2 | h2 | h2
 ·exact ⟨y, mem_putD.2 (.inl ⟨hy, h2⟩), same_refl y, Int.le_refl _⟩
 ·have h3 := takes_seq hM ht hy h2
  exact ⟨r, mem_putD.2 (.inr (.inl rfl)), same_symm h2, by omega⟩
 ·exact ⟨y, mem_putD.2 (.inr (.inr ⟨hy, h2⟩)), same_refl y, Int.le_refl _⟩
theorem stale_keeps {M : List RecD} {x r : RecD} (hM : Asc M) (h : takesB M x = false) : takesB (instD M r) x = false := by
 cases ht : takesB M r with
 | false =>
  have e : instD M r = M := by unfold instD; rw [ht]; rfl
  rw [e]; exact h
 | true =>
  have e : instD M r = putD M r := by unfold instD; rw [ht]; rfl
  rw [e]
  cases hx : takesB (putD M r) x with
  | false => rfl
  | true =>
   exfalso
   obtain ⟨hok, hc⟩ := (takes_iff (asc_putD hM r)).1 hx
   have no : ¬ ((∃ y ∈ M, sameKeyB y x = true ∧ y.seq < x.seq) ∨ ((∀ y ∈ M, sameKeyB y x = false) ∧ M.length < 150)) := fun hh => by
    have := (takes_iff hM).2 ⟨hok, hh⟩
    rw [h] at this; cases this
   rcases hc with ⟨y, hy, hs, hq⟩ | ⟨hn, hl⟩
   ·rcases mem_putD.1 hy with h1 | h1 | h1
    ·exact no (.inl ⟨y, h1.1, hs, hq⟩)
    ·subst h1
     obtain ⟨_, hr⟩ := (takes_iff hM).1 ht
     rcases hr with ⟨z, hz, hzs, hzq⟩ | ⟨hz, hzl⟩
     ·exact no (.inl ⟨z, hz, same_trans hzs hs, by omega⟩)
     ·refine no (.inr ⟨fun z hz2 => ?_, hzl⟩)
      cases e2 : sameKeyB z x with
      | false => rfl
      | true => have := hz z hz2; rw [same_trans e2 (same_symm hs)] at this; cases this
    ·exact no (.inl ⟨y, h1.1, hs, hq⟩)
   ·refine no (.inr ⟨fun y hy => ?_, by have := putD_more hM r; omega⟩)
    cases e2 : sameKeyB y x with
    | false => rfl
    | true =>
     obtain ⟨z, hz, hzs, _⟩ := put_keeps hM ht hy
     have := hn z hz
     rw [same_trans hzs e2] at this
     cases this
theorem stale_fold : ∀ {B M : List RecD} {x : RecD}, Asc M → takesB M x = false → takesB (B.foldl instD M) x = false
 | [], _, _, _, h => h
 | _ :: B, _, _, hM, h => stale_fold (B := B) (asc_instD hM _) (stale_keeps hM h)
theorem taken_stale {M : List RecD} (hM : Asc M) (b : RecD) : takesB (instD M b) b = false := by
 cases ht : takesB M b with
 | false =>
  have e : instD M b = M := by unfold instD; rw [ht]; rfl
  rw [e]; exact ht
 | true =>
  have e : instD M b = putD M b := by unfold instD; rw [ht]; rfl
  rw [e]
  cases h : takesB (putD M b) b with
  | false => rfl
  | true => have := takes_seq (asc_putD hM b) h (mem_putD.2 (.inr (.inl rfl))) (same_refl b); omega
theorem fold_stale : ∀ {B A : List RecD}, Asc A → ∀ x ∈ B, takesB (B.foldl instD A) x = false
 | [], _, _, x, hx => by cases hx
 | b :: B, A, hA, x, hx => by
  rcases List.mem_cons.1 hx with h | h
  ·subst h
   exact stale_fold (B := B) (asc_instD hA x) (taken_stale hA x)
  ·exact fold_stale (B := B) (asc_instD hA b) x h
theorem news_none : ∀ {B M : List RecD}, (∀ x ∈ B, takesB M x = false) → newsD M B = []
 | [], _, _ => rfl
 | b :: B, M, h => by
  unfold newsD
  rw [h b (by simp)]
  exact news_none (B := B) (fun x hx => h x (List.mem_cons_of_mem _ hx))
theorem news_again {A : List RecD} (hA : Asc A) (B : List RecD) : newsD (B.foldl instD A) B = [] := news_none (fold_stale hA)
theorem news_newer : ∀ {B A : List RecD}, Asc A → ∀ x ∈ newsD A B, recOkB x = true ∧ ∀ y ∈ A, sameKeyB y x = true → y.seq < x.seq
 | [], _, _, x, hx => by cases hx
 | b :: B, A, hA, x, hx => by
  unfold newsD at hx
  cases ht : takesB A b with
  | false => rw [ht] at hx; exact news_newer (B := B) hA x hx
  | true =>
   rw [ht] at hx
   rcases List.mem_cons.1 hx with h | h
   ·subst h
    exact ⟨takes_ok ht, fun y hy hs => takes_seq hA ht hy hs⟩
   ·obtain ⟨h1, h2⟩ := news_newer (B := B) (asc_putD hA b) x h
    refine ⟨h1, fun y hy hs => ?_⟩
    obtain ⟨z, hz, hzs, hzq⟩ := put_keeps hA ht hy
    have := h2 z hz (same_trans hzs hs)
    omega
theorem news_newest {A B : List RecD} (hA : Asc A) {x : RecD} (hx : x ∈ newsD A B) : newestD A x < x.seq := by
 obtain ⟨h1, h2⟩ := news_newer hA x hx
 have h3 := ok_seq h1
 obtain ⟨_, _, h4⟩ := newest_gen x A 0
 rcases h4 with h4 | ⟨y, hy, hs, e⟩
 ·unfold newestD; omega
 ·have := h2 y hy hs
  unfold newestD
  omega
theorem store_instD8 {M : List RecD} (h : storeB M = true) (r : RecD) : storeB (instD M r) = true := by
 have h3 := store_ok h
 cases ht : takesB M r with
 | false =>
  have e : instD M r = M := by unfold instD; rw [ht]; rfl
  rw [e]; exact h
 | true =>
  have e : instD M r = putD M r := by unfold instD; rw [ht]; rfl
  rw [e]
  obtain ⟨hr, hc⟩ := (takes_iff h3.2.2).1 ht
  have hlen : (putD M r).length ≤ 150 := by
   rcases hc with ⟨y, hy, hs, _⟩ | ⟨_, hl⟩
   ·have := putD_same hy hs
    have := h3.1
    omega
   ·have := len_instD M r
    rw [e] at this
    omega
  unfold storeB
  rw [decide_eq_true hlen, asc_back (asc_putD h3.2.2 r)]
  have e : allOk recOkB (putD M r) = true := all_true fun j hj => by
   unfold okAt
   rw [List.getElem?_eq_getElem hj]
   have hm := List.getElem_mem hj
   rcases mem_putD.1 hm with h1 | h1 | h1
   ·exact h3.2.1 _ h1.1
   ·rw [h1]; exact hr
   ·exact h3.2.1 _ h1.1
  rw [e]
  rfl
theorem store_fold8 : ∀ {B M : List RecD}, storeB M = true → storeB (B.foldl instD M) = true
 | [], _, h => h
 | b :: B, _, h => store_fold8 (B := B) (store_instD8 h b)
def sfOps : Array Oper := #[{ dst := some 111, op := Go.Op.fieldAddr 31 (Go.Operand.tmp 3) 4, type := 0, pos := "l08_tell.go:180", after := #[], guard := none }, { dst := some 112, op := Go.Op.load 29 (Go.Operand.tmp 111), type := 29, pos := "l08_tell.go:180", after := #[{ on := 0, ground := Go.Ground.data }], guard := none }, { dst := some 113, op := Go.Op.move (Go.Operand.tmp 0), type := 89, pos := "l08_tell.go:180", after := #[], guard := none }, { dst := some 114, op := Go.Op.call { callee := Go.Callee.value (Go.Operand.func 73), args := #[Go.Operand.tmp 113], argTypes := #[89] }, type := 39, pos := "l08_tell.go:180", after := #[{ on := 2, ground := Go.Ground.data }], guard := none }, { dst := some 115, op := Go.Op.call { callee := Go.Callee.value (Go.Operand.func 75), args := #[Go.Operand.tmp 112, Go.Operand.tmp 114], argTypes := #[29, 39] }, type := 65, pos := "l08_tell.go:180", after := #[{ on := 1, ground := Go.Ground.data }, { on := 3, ground := Go.Ground.data }, { on := 3, ground := Go.Ground.chain }], guard := none }, { dst := some 110, op := Go.Op.move (Go.Operand.tmp 115), type := 65, pos := "l08_tell.go:180", after := #[{ on := 4, ground := Go.Ground.data }], guard := none }, { dst := some 116, op := Go.Op.extract (Go.Operand.tmp 110) 0, type := 29, pos := "l08_tell.go:180", after := #[{ on := 5, ground := Go.Ground.data }], guard := none }, { dst := some 117, op := Go.Op.extract (Go.Operand.tmp 110) 1, type := 4, pos := "l08_tell.go:180", after := #[{ on := 5, ground := Go.Ground.data }, { on := 9, ground := Go.Ground.gcOnly Go.Departure.lateStores }], guard := none }, { dst := some 118, op := Go.Op.fieldAddr 31 (Go.Operand.tmp 3) 4, type := 0, pos := "l08_tell.go:180", after := #[{ on := 0, ground := Go.Ground.phase }, { on := 1, ground := Go.Ground.phase }, { on := 2, ground := Go.Ground.phase }, { on := 3, ground := Go.Ground.phase }, { on := 4, ground := Go.Ground.phase }, { on := 5, ground := Go.Ground.phase }, { on := 6, ground := Go.Ground.phase }, { on := 7, ground := Go.Ground.textOnly Go.Departure.lateStores }], guard := none }, { dst := none, op := Go.Op.store 29 (Go.Operand.tmp 118) (Go.Operand.tmp 116), type := 0, pos := "l08_tell.go:180", after := #[{ on := 8, ground := Go.Ground.data }, { on := 6, ground := Go.Ground.data }, { on := 4, ground := Go.Ground.chain }, { on := 0, ground := Go.Ground.phase }, { on := 1, ground := Go.Ground.phase }, { on := 2, ground := Go.Ground.phase }, { on := 3, ground := Go.Ground.phase }, { on := 4, ground := Go.Ground.phase }, { on := 5, ground := Go.Ground.phase }, { on := 6, ground := Go.Ground.phase }, { on := 7, ground := Go.Ground.textOnly Go.Departure.lateStores }], guard := none }]
theorem sf_dag {t1 t2 t4 t5 t6 t7 t8 t9 t10 t11 t12 t13 t14 t15 t16 t17 t18 t19 t20 t21 t22 t23 t24 t25 t26 t27 t28 t29 t30 t31 t32 t33 t34 t35 t36 t37 t38 t39 t40 t41 t42 t43 t44 t45 t46 t47 t48 t49 t50 t51 t52 t53 t54 t55 t56 t57 t58 t59 t60 t61 t62 t63 t64 t65 t66 t67 t68 t69 t70 t71 t72 t73 t74 t75 t76 t77 t78 t79 t80 t81 t82 t83 t84 t85 t86 t87 t88 t89 t90 t91 t92 t93 t94 t95 t96 t97 t98 t99 t100 t101 t102 t103 t104 t105 t106 t107 t108 t109 t110 t112 t114 t115 t116 t117 t118 t119 : Value} (p z : Nat) (a : Option Addr) (len cap : Nat) (b0 b1 b2 b3 b4 b5 : Value) (a4 : Option Addr) (d4 : Nat) (ps : List RP) (w1 : World) (Q : Exit → Act → World → Prop) (ops : Array Oper) (hops : Hid (ops = sfOps)) (hp : p < w1.heap.size) (hz : z < w1.heap.size) (hpz : z ≠ p) (hc : Cur w1 p a len cap)
  (HB : w1.heap[z]? = some (.cells #[b0, b1, b2, b3, b4, b5, (.slice a4 ps.length d4)] 31)) (rin : RecsIn w1 w1.heap.size (.slice a4 ps.length d4) ps) (hsp : storeB (fsts ps) = true) (htt : tot ps ≤ 1048576)
  (hend : ∀ (W w2 : World) (x : RecD) (na : Option Addr) (nc : Nat) (xa : Option Addr) (xc : Nat) (qn : List RP) (TT : Bool), w1.grownBy W (some p) → Cur W p a len cap → Below W.heap.size W w2 → RecsIn w2 w2.heap.size (.slice xa qn.length xc) qn → storeB (fsts qn) = true → Q .normal { tmps := #[.pointer (some ⟨p, 0, none⟩), t1, t2, .pointer (some ⟨z, 0, none⟩), t4, t5, t6, t7, t8, t9, t10, t11, t12, t13, t14, t15, t16, t17, t18, t19, t20, t21, t22, t23, t24, t25, t26, t27, t28, t29, t30, t31, t32, t33, t34, t35, t36, t37, t38, t39, t40, t41, t42, t43, t44, t45, t46, t47, t48, t49, t50, t51, t52, t53, t54, t55, t56, t57, t58, t59, t60, t61, t62, t63, t64, t65, t66, t67, t68, t69, t70, t71, t72, t73, t74, t75, t76, t77, t78, t79, t80, t81, t82, t83, t84, t85, t86, t87, t88, t89, t90, t91, t92, t93, t94, t95, t96, t97, t98, t99, t100, t101, t102, t103, t104, t105, t106, t107, t108, t109, .tuple #[(.slice xa qn.length xc), .bool TT], .pointer (some ⟨z, 6, none⟩), (.slice a4 ps.length d4), .pointer (some ⟨p, 0, none⟩), (.agg #[.int .i64 x.area, .int .i64 x.kind, .int .i64 x.owner, .int .i64 x.key, .int .i64 x.seq, .slice na x.near.length nc, .int .i64 x.cost, .bool x.far]), .tuple #[(.slice xa qn.length xc), .bool TT], (.slice xa qn.length xc), .bool TT, .pointer (some ⟨z, 6, none⟩), t119], defers := [] } (w2.setCell ⟨z, 6, none⟩ (.slice xa qn.length xc))) :
  wpAnyH Tryz.prog .any ops (NoPanic Q) (fun _ => True) 8 #[true, false, true, false, false, false, false, false, false, false] { tmps := #[.pointer (some ⟨p, 0, none⟩), t1, t2, .pointer (some ⟨z, 0, none⟩), t4, t5, t6, t7, t8, t9, t10, t11, t12, t13, t14, t15, t16, t17, t18, t19, t20, t21, t22, t23, t24, t25, t26, t27, t28, t29, t30, t31, t32, t33, t34, t35, t36, t37, t38, t39, t40, t41, t42, t43, t44, t45, t46, t47, t48, t49, t50, t51, t52, t53, t54, t55, t56, t57, t58, t59, t60, t61, t62, t63, t64, t65, t66, t67, t68, t69, t70, t71, t72, t73, t74, t75, t76, t77, t78, t79, t80, t81, t82, t83, t84, t85, t86, t87, t88, t89, t90, t91, t92, t93, t94, t95, t96, t97, t98, t99, t100, t101, t102, t103, t104, t105, t106, t107, t108, t109, t110, .pointer (some ⟨z, 6, none⟩), t112, .pointer (some ⟨p, 0, none⟩), t114, t115, t116, t117, t118, t119], defers := [] } w1 := by
 have h11 : ∀ (W : World) (x : RecD) (na : Option Addr) (nc : Nat), w1.grownBy W (some p) → Cur W p a len cap → W.ownsRow 0 107 2 (.slice na x.near.length nc) x.near.length (flat nrE x.near) → x.near.length ≤ 6 → wpAnyH Tryz.prog .any ops (NoPanic Q) (fun _ => True) 6 #[true, true, true, true, false, false, false, false, false, false] { tmps := #[.pointer (some ⟨p, 0, none⟩), t1, t2, .pointer (some ⟨z, 0, none⟩), t4, t5, t6, t7, t8, t9, t10, t11, t12, t13, t14, t15, t16, t17, t18, t19, t20, t21, t22, t23, t24, t25, t26, t27, t28, t29, t30, t31, t32, t33, t34, t35, t36, t37, t38, t39, t40, t41, t42, t43, t44, t45, t46, t47, t48, t49, t50, t51, t52, t53, t54, t55, t56, t57, t58, t59, t60, t61, t62, t63, t64, t65, t66, t67, t68, t69, t70, t71, t72, t73, t74, t75, t76, t77, t78, t79, t80, t81, t82, t83, t84, t85, t86, t87, t88, t89, t90, t91, t92, t93, t94, t95, t96, t97, t98, t99, t100, t101, t102, t103, t104, t105, t106, t107, t108, t109, t110, .pointer (some ⟨z, 6, none⟩), (.slice a4 ps.length d4), .pointer (some ⟨p, 0, none⟩), (.agg #[.int .i64 x.area, .int .i64 x.kind, .int .i64 x.owner, .int .i64 x.key, .int .i64 x.seq, .slice na x.near.length nc, .int .i64 x.cost, .bool x.far]), t115, t116, t117, t118, t119], defers := [] } W := by
  intro W x na nc g cu hn hl
  have gs := g.size
  refine wpAnyH_ready (rs := [4]) (by rw [hops.out]; kernel_rfl) (by simp) ?_
  refine AllReadyH.cons (o := ?_) ?_ (fun K hK => ?_) ?_
  rotate_left 1
  ·rw [hops.out]; unfold sfOps; simp only [getS]; rfl
  ·rw [if_pos (by rfl)]
   have rin2 := (rin.cur hc g).wide gs
   have hin := sinst_any _ ps W.heap.size (x, .slice na x.near.length nc) W rin2 (Nat.le_refl _) htt ⟨hn, fun k hk => (hn.lt k hk).2⟩ (by show x.near.length ≤ 1048576; omega)
   have hsq : storeB (fsts (instL ps (x, Value.slice na x.near.length nc))) = true := by rw [instL_fsts]; exact store_instD8 hsp _
   generalize instL ps (x, Value.slice na x.near.length nc) = qn at *
   obtain ⟨TT, hTT⟩ : ∃ T, T = takesB (fsts ps) (x, Value.slice na x.near.length nc).1 := ⟨_, rfl⟩
   rw [← hTT] at hin
   clear hTT
   unfold recC at hin
   simp only [] at hin
   go_simp
   refine hin.mono ?_
   rintro e w2 ⟨x5, rfl, o5, b5⟩
   obtain ⟨xa, xc, rfl⟩ := owns_lenS o5.row
   have hE := hend W w2 x na nc xa xc qn TT g cu b5 o5 hsq
   have hb := (b5.block z (by omega)).trans ((g.block z hz (by simp; omega)).trans HB)
   have y6 := cells_at hb 6
   simp at y6
   have f6 := frozen_at hb 6
   refine hK.out _ _ trivial (fun _ => ?_)
   refine take_d 5 ?_ ?_ ?_ (by rw [hops.out]; kernel_rfl) ?_ ?_ trivial ?_
   rotate_left 2
   ·rw [hops.out]; unfold sfOps; simp only [getS]; rfl
   ·intro W hW; (try dsimp only at hW); go_simp <;> with_reducible rfl
   ·exact fun _ _ _ => id
   try simp only [putS]
   refine take_d 6 ?_ ?_ ?_ (by rw [hops.out]; kernel_rfl) ?_ ?_ trivial ?_
   rotate_left 2
   ·rw [hops.out]; unfold sfOps; simp only [getS]; rfl
   ·intro W hW; (try dsimp only at hW); go_simp <;> with_reducible rfl
   ·exact fun _ _ _ => id
   try simp only [putS]
   refine take_d 7 ?_ ?_ ?_ (by rw [hops.out]; kernel_rfl) ?_ ?_ trivial ?_
   rotate_left 2
   ·rw [hops.out]; unfold sfOps; simp only [getS]; rfl
   ·intro W hW; (try dsimp only at hW); go_simp <;> with_reducible rfl
   ·exact fun _ _ _ => id
   try simp only [putS]
   refine take_d 8 ?_ ?_ ?_ (by rw [hops.out]; kernel_rfl) ?_ ?_ trivial ?_
   rotate_left 2
   ·rw [hops.out]; unfold sfOps; simp only [getS]; rfl
   ·intro W hW; (try dsimp only at hW); go_simp <;> with_reducible rfl
   ·exact fun _ _ _ => id
   try simp only [putS]
   refine wpAnyH_ready (rs := [9]) (by rw [hops.out]; kernel_rfl) (by simp) ?_
   refine AllReadyH.cons (o := ?_) ?_ (fun K hK => ?_) ?_
   rotate_left 1
   ·rw [hops.out]; unfold sfOps; simp only [getS]; rfl
   ·rw [if_pos (by rfl)]
    go_simp
    refine hK.out _ _ trivial (fun _ => ?_)
    refine wpAnyH_done (by rw [hops.out]; kernel_rfl) ?_ _
    dsimp only at hE
    exact NoPanic.normal hE
   exact AllReadyH.nil
  exact AllReadyH.nil
 have h01 : ∀ (W : World) (x : RecD) (na : Option Addr) (nc : Nat), w1.grownBy W (some p) → Cur W p a len cap → W.ownsRow 0 107 2 (.slice na x.near.length nc) x.near.length (flat nrE x.near) → x.near.length ≤ 6 → wpAnyH Tryz.prog .any ops (NoPanic Q) (fun _ => True) 7 #[true, false, true, true, false, false, false, false, false, false] { tmps := #[.pointer (some ⟨p, 0, none⟩), t1, t2, .pointer (some ⟨z, 0, none⟩), t4, t5, t6, t7, t8, t9, t10, t11, t12, t13, t14, t15, t16, t17, t18, t19, t20, t21, t22, t23, t24, t25, t26, t27, t28, t29, t30, t31, t32, t33, t34, t35, t36, t37, t38, t39, t40, t41, t42, t43, t44, t45, t46, t47, t48, t49, t50, t51, t52, t53, t54, t55, t56, t57, t58, t59, t60, t61, t62, t63, t64, t65, t66, t67, t68, t69, t70, t71, t72, t73, t74, t75, t76, t77, t78, t79, t80, t81, t82, t83, t84, t85, t86, t87, t88, t89, t90, t91, t92, t93, t94, t95, t96, t97, t98, t99, t100, t101, t102, t103, t104, t105, t106, t107, t108, t109, t110, .pointer (some ⟨z, 6, none⟩), t112, .pointer (some ⟨p, 0, none⟩), (.agg #[.int .i64 x.area, .int .i64 x.kind, .int .i64 x.owner, .int .i64 x.key, .int .i64 x.seq, .slice na x.near.length nc, .int .i64 x.cost, .bool x.far]), t115, t116, t117, t118, t119], defers := [] } W := by
  intro W x na nc g cu hn hl
  have gs := g.size
  refine wpAnyH_ready (rs := [1]) (by rw [hops.out]; kernel_rfl) (by simp) ?_
  refine AllReadyH.cons (o := ?_) ?_ (fun K hK => ?_) ?_
  rotate_left 1
  ·rw [hops.out]; unfold sfOps; simp only [getS]; rfl
  ·rw [if_pos (by rfl)]
   have hb := (g.block z hz (by simp; omega)).trans HB
   have q := cells_at hb 6
   simp at q
   go_simp
   refine hK.out _ _ trivial (fun _ => ?_)
   exact h11 W x na nc g cu hn hl
  exact AllReadyH.nil
 have h10 : ∀ (W : World) (x : RecD) (na : Option Addr) (nc : Nat), w1.grownBy W (some p) → Cur W p a len cap → wpAnyH Tryz.prog .any ops (NoPanic Q) (fun _ => True) 7 #[true, true, true, false, false, false, false, false, false, false] { tmps := #[.pointer (some ⟨p, 0, none⟩), t1, t2, .pointer (some ⟨z, 0, none⟩), t4, t5, t6, t7, t8, t9, t10, t11, t12, t13, t14, t15, t16, t17, t18, t19, t20, t21, t22, t23, t24, t25, t26, t27, t28, t29, t30, t31, t32, t33, t34, t35, t36, t37, t38, t39, t40, t41, t42, t43, t44, t45, t46, t47, t48, t49, t50, t51, t52, t53, t54, t55, t56, t57, t58, t59, t60, t61, t62, t63, t64, t65, t66, t67, t68, t69, t70, t71, t72, t73, t74, t75, t76, t77, t78, t79, t80, t81, t82, t83, t84, t85, t86, t87, t88, t89, t90, t91, t92, t93, t94, t95, t96, t97, t98, t99, t100, t101, t102, t103, t104, t105, t106, t107, t108, t109, t110, .pointer (some ⟨z, 6, none⟩), (.slice a4 ps.length d4), .pointer (some ⟨p, 0, none⟩), t114, t115, t116, t117, t118, t119], defers := [] } W := by
  intro W x na nc g cu
  have gs := g.size
  refine wpAnyH_ready (rs := [3]) (by rw [hops.out]; kernel_rfl) (by simp) ?_
  refine AllReadyH.cons (o := ?_) ?_ (fun K hK => ?_) ?_
  rotate_left 1
  ·rw [hops.out]; unfold sfOps; simp only [getS]; rfl
  ·rw [if_pos (by rfl)]
   have hrc := recR_any p a len cap W cu
   unfold recC at hrc
   go_simp
   refine hrc.mono ?_
   rintro e w2 ⟨x2, v2, rfl, ho2, hl2, _, cu2, gr2⟩
   obtain ⟨na2, nc2, rfl⟩ := owns_lenS ho2
   refine hK.out _ _ trivial (fun _ => ?_)
   exact h11 w2 x2 na2 nc2 (grown_trans g gr2) cu2 (owns_baseS ho2 (Nat.zero_le _)) hl2
  exact AllReadyH.nil
 have h00 : ∀ (W : World) (x : RecD) (na : Option Addr) (nc : Nat), w1.grownBy W (some p) → Cur W p a len cap → wpAnyH Tryz.prog .any ops (NoPanic Q) (fun _ => True) 8 #[true, false, true, false, false, false, false, false, false, false] { tmps := #[.pointer (some ⟨p, 0, none⟩), t1, t2, .pointer (some ⟨z, 0, none⟩), t4, t5, t6, t7, t8, t9, t10, t11, t12, t13, t14, t15, t16, t17, t18, t19, t20, t21, t22, t23, t24, t25, t26, t27, t28, t29, t30, t31, t32, t33, t34, t35, t36, t37, t38, t39, t40, t41, t42, t43, t44, t45, t46, t47, t48, t49, t50, t51, t52, t53, t54, t55, t56, t57, t58, t59, t60, t61, t62, t63, t64, t65, t66, t67, t68, t69, t70, t71, t72, t73, t74, t75, t76, t77, t78, t79, t80, t81, t82, t83, t84, t85, t86, t87, t88, t89, t90, t91, t92, t93, t94, t95, t96, t97, t98, t99, t100, t101, t102, t103, t104, t105, t106, t107, t108, t109, t110, .pointer (some ⟨z, 6, none⟩), t112, .pointer (some ⟨p, 0, none⟩), t114, t115, t116, t117, t118, t119], defers := [] } W := by
  intro W x na nc g cu
  have gs := g.size
  refine wpAnyH_ready (rs := [1, 3]) (by rw [hops.out]; kernel_rfl) (by simp) ?_
  refine AllReadyH.cons (o := ?_) ?_ (fun K hK => ?_) ?_
  rotate_left 1
  ·rw [hops.out]; unfold sfOps; simp only [getS]; rfl
  ·rw [if_pos (by rfl)]
   have hb := (g.block z hz (by simp; omega)).trans HB
   have q := cells_at hb 6
   simp at q
   go_simp
   refine hK.out _ _ trivial (fun _ => ?_)
   exact h10 W x na nc g cu
  refine AllReadyH.cons (o := ?_) ?_ (fun K hK => ?_) ?_
  rotate_left 1
  ·rw [hops.out]; unfold sfOps; simp only [getS]; rfl
  ·rw [if_pos (by rfl)]
   have hrc := recR_any p a len cap W cu
   unfold recC at hrc
   go_simp
   refine hrc.mono ?_
   rintro e w2 ⟨x2, v2, rfl, ho2, hl2, _, cu2, gr2⟩
   obtain ⟨na2, nc2, rfl⟩ := owns_lenS ho2
   refine hK.out _ _ trivial (fun _ => ?_)
   exact h01 w2 x2 na2 nc2 (grown_trans g gr2) cu2 (owns_baseS ho2 (Nat.zero_le _)) hl2
  exact AllReadyH.nil
 exact h00 w1 zeroRD none 0 (grown_refl _ _) hc
end Go.Proofs.YtmijnjnihhemgaaGreat
