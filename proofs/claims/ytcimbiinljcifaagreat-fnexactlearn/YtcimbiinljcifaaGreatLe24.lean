/-
  impl.heardOk: its contract.
  impl.SelfOk: its contract.
  spec.Find, impl.Find: their contracts.
  An empty list made: its block under a name.
-/
import Derived.Test.YtcimbiinljcifaaGreatLe23
import Derived.Test.YtcimbiinljcifaaGreatLe7
import Derived.Deep.RegionHeld3
import Derived.Test.YtcimbiinljcifaaGreatLe18
import Derived.Test.YtcimbiinljcifaaGreatLe8
import Derived.Test.YtcimbiinljcifaaGreatLe6
namespace Go.Proofs.YtcimbiinljcifaaGreat
open Go.RowKit

set_option linter.unusedSimpArgs false

def heV (p : Int × Int) : Value := .agg #[.int .i64 p.1, .int .i64 p.2]

def heE (p : Int × Int) : List Value := [.int .i64 p.1, .int .i64 p.2]

theorem heE_len (p : Int × Int) : (heE p).length = 2 := rfl

theorem heE_one (p : Int × Int) : ∀ u ∈ heE p, u.oneCell' = true := by
  intro u hu
  simp only [heE, List.mem_cons, List.not_mem_nil, or_false] at hu
  rcases hu with rfl | rfl <;> rfl

def EndsAt (W : World) (v : Value) (ls : List (Int × Int)) (B : Nat) : Prop := StructsAt heE 2 W v ls B

instance : Inhabited (Int × Int) := ⟨(0, 0)⟩

theorem EndsAt.shape {W : World} {v : Value} {ls : List (Int × Int)} {B : Nat} (h : EndsAt W v ls B) : ∃ a cap, v = .slice a ls.length cap := by
  obtain ⟨a, cap, h, _⟩ := h
  exact ⟨a, cap, h⟩

theorem EndsAt.cells {W : World} {v : Value} {ls : List (Int × Int)} {B : Nat} (h : EndsAt W v ls B) (i : Nat) (p : Int × Int) (hp : ls[i]? = some p) :
    ∃ b off cap, v = .slice (some ⟨b, off, none⟩) ls.length cap ∧ b < B ∧ W.cell? ⟨b, off + i * 2, none⟩ = some (.int .i64 p.1) ∧ W.cell? ⟨b, off + i * 2 + 1, none⟩ = some (.int .i64 p.2) := by
  obtain ⟨b, off, cap, hv, hb, hc⟩ := StructsAt.cell h heE_len i p hp
  exact ⟨b, off, cap, hv, hb, hc 0 _ rfl, hc 1 _ rfl⟩

theorem Tryz.infoEnd : (Tryz.prog.info? 111).map (fun i => (i.zero, i.size, i.bytes)) = some (some (.agg #[.int .i64 0, .int .i64 0]), 2, 16) := by kernel_rfl

/-- an append as one step of a region that draws its order -/
theorem step_append_struct {α : Type} {enc : α → List Value} {sz bytes : Nat} (hlen : ∀ a, (enc a).length = sz) (hpos : 0 < sz) (hbb : bytes ≤ 100) {P : Program} {ops : Array Oper} {o : Oper} {a : Act} {w : World} {K : Act → World → Prop} {Q : Exit → Act → World → Prop} {E : Prop} (hgd : o.guard = none) (s x : Operand) (t : TypeId)
    (ho : o.op = .call { callee := .builtin .append, args := #[s, x], argTypes := #[t, t] }) (base : Nat) (e : TypeId) (ht : P.underlying t = some (.slice e)) (zv : Value) (hzv : zv.cells.size = sz)
    (hinfo : (P.info? e).map (fun i => (i.zero, i.size, i.bytes)) = some (some zv, sz, bytes))
    (v : Value) (l : List α) (y : α) (hone : ∀ u ∈ enc y, u.oneCell' = true) (hs : a.eval s = v) (hown : w.ownsRow base e sz v l.length (flat enc l))
    (ad : Addr) (c : Nat) (hx : a.eval x = .slice (some ad) 1 c) (hnews : ∀ j u, (enc y)[j]? = some u → w.cell? (ad.add j) = some u)
    (hl : l.length + 1 ≤ 1000000000) (hbase : base ≤ w.heap.size)
    (h : ∀ v' w', w'.ownsRow base e sz v' (l ++ [y]).length (flat enc (l ++ [y])) → w.grownBy w' v.ownBlock → K (a.put o.dst v') w') :
    if Region.wanted o (yielded ops a.tmps) = true then Oper.wp P o a w K Q else E := by
  have hw : Region.wanted o (yielded ops a.tmps) = true := by simp [Region.wanted, hgd]
  rw [if_pos hw]
  obtain ⟨i0, hi, hz0, hz1, hz2⟩ := info_parts hinfo
  refine wp_append_own w s x t ho base e i0 zv sz bytes ht hi hz0 hz1 hz2 hzv hpos v l.length (flat enc l) hs hown ad 1 c (enc y) hx (by rw [hlen]; omega) hnews hone (by unfold maxLen; omega) ?_ hbase ?_
  · have : (l.length + 1) * bytes ≤ 1000000000 * 100 := Nat.mul_le_mul hl hbb
    omega
  · intro v' w' h1 h2 _
    have e1 : flat enc l ++ enc y = flat enc (l ++ [y]) := by rw [flat_append]; simp [flat]
    rw [e1] at h1
    exact h v' w' (by simpa using h1) h2

set_option maxRecDepth 100000 in
set_option maxHeartbeats 4000000 in
theorem ordH_any (l m : Int × Int) (w : World) : Calls Tryz.prog 80 #[heV l, heV m] w fun e w' => e = .returned (.int .i64 (ordH l m)) ∧ Below w.heap.size w w' := by
  obtain ⟨o, k⟩ := l
  obtain ⟨o', k'⟩ := m
  unfold heV ordH
  simp only []
  go_enter Tryz.func80, Tryz.ntmps80
  go_wp2
  obtain ⟨w1, hw1⟩ : ∃ w1, w1 = (w.alloc (.cells #[.int .i64 o, .int .i64 k] 111)).alloc (.cells #[.int .i64 o', .int .i64 k'] 111) := ⟨_, rfl⟩
  have B1 : Below w.heap.size w w1 := by rw [hw1]; exact below_two _ _
  have p0 : w1.heap[w.heap.size]? = some (.cells #[.int .i64 o, .int .i64 k] 111) := by rw [hw1, Below.heap_alloc _ _ _ (by simp), heap_alloc_new]
  have q0 : w1.heap[w.heap.size + 1]? = some (.cells #[.int .i64 o', .int .i64 k'] 111) := by
    rw [hw1]
    have := heap_alloc_new (w.alloc (.cells #[.int .i64 o, .int .i64 k] 111)) (.cells #[.int .i64 o', .int .i64 k'] 111)
    simpa using this
  rw [← hw1]
  clear hw1
  have s0 := cells_at p0 0
  have s1 := cells_at p0 1
  have t0 := cells_at q0 0
  have t1 := cells_at q0 1
  have hz0 := lt_of_heap p0
  have hz1 := lt_of_heap q0
  simp at s0 s1 t0 t1
  clear p0 q0
  have hz2 := B1.size
  go_region_held3 (fun W => W.cell? ⟨w.heap.size, 0, none⟩ = some (.int .i64 o) ∧ W.cell? ⟨w.heap.size, 1, none⟩ = some (.int .i64 k) ∧ W.cell? ⟨w.heap.size + 1, 0, none⟩ = some (.int .i64 o') ∧ W.cell? ⟨w.heap.size + 1, 1, none⟩ = some (.int .i64 k')) (first | go_keep | assumption) (first | (go_at_call 119; refine (compare_any _ _ _).mono ?_; rintro e w' ⟨rfl, rfl⟩) | (go_at_call 118; refine (or_two _ (cmpN o o') (cmpN k k') _ ?_ ?_).mono ?_; (exact new_cell _ _ _ _ _ rfl); (exact new_cell _ _ _ _ _ rfl); rintro e w' ⟨rfl, rfl⟩))
  go_wp2
  go_ret
  exact ⟨rfl, B1.drew.alloc B1.size _⟩

set_option maxRecDepth 100000 in
set_option maxHeartbeats 4000000 in
theorem ascH_any (v : Value) (ls : List (Int × Int)) (w : World) (hls : ls.length ≤ 1048576) (hv : EndsAt w v ls w.heap.size) :
    Calls Tryz.prog 79 #[v, .func (.func 80) #[] #[]] w fun e w' => e = .returned (.bool (ascB ordH ls)) ∧ Below w.heap.size w w' := by
  obtain ⟨a, cap, rfl⟩ := EndsAt.shape hv
  have HV := hide hv
  clear hv
  go_enter Tryz.func79, Tryz.ntmps79
  go_wp2
  go_loopw [5] (fun i wr => ∃ k : Nat, 1 ≤ k ∧ (k ≤ ls.length ∨ k = 1) ∧ i = .int .i64 k ∧ (∀ j, j < k → ascAt ordH ls j = true) ∧ Below w.heap.size w wr) (fun i _ => ls.length + 1 - (intOf i).toNat)
  case atStart => exact ⟨1, by omega, by omega, rfl, fun j hj => by obtain rfl : j = 0 := by omega
                                                                    rfl, Below.refl _ _⟩
  case round =>
    obtain ⟨k, hk1, hk, rfl, hno, hb⟩ := hrel
    have HNO := hide hno
    clear hno
    by_cases hlt : k < ls.length
    · obtain ⟨l, hl⟩ : ∃ l, ls[k]? = some l := ⟨ls[k], List.getElem?_eq_getElem hlt⟩
      obtain ⟨j, hj⟩ : ∃ j, k = j + 1 := ⟨k - 1, by omega⟩
      obtain ⟨p, hp⟩ : ∃ p, ls[j]? = some p := ⟨ls[j], List.getElem?_eq_getElem (by omega)⟩
      obtain ⟨b, off, cap', hve, hbb, c0, c1⟩ := EndsAt.cells HV.out k l hl
      cases hve
      obtain ⟨b', off', cap2, hve2, hbb2, d0, d1⟩ := EndsAt.cells HV.out j p hp
      cases hve2
      rw [← hb.cell (p := ⟨b, off + k * 2, none⟩) hbb] at c0
      rw [← hb.cell (p := ⟨b, off + k * 2 + 1, none⟩) hbb] at c1
      rw [← hb.cell (p := ⟨b, off + j * 2, none⟩) hbb] at d0
      rw [← hb.cell (p := ⟨b, off + j * 2 + 1, none⟩) hbb] at d1
      have hat : ascAt ordH ls k = decide (ordH p l < 0) := by rw [hj]; exact ascAt_eq hp (by rw [← hj]; exact hl)
      have hzr := hb.size
      have hbr : b < wr.heap.size := by omega
      have hki : (0 : Int) ≤ (k : Int) := by omega
      have hkj : (k : Int) < (ls.length : Int) := by omega
      have hj1 : (k : Int) - 1 = (j : Int) := by omega
      have hj2 : (0 : Int) ≤ (j : Int) := by omega
      have hj3 : (j : Int) < (ls.length : Int) := by omega
      have hj5 : IntKind.i64.wrap (j : Int) = (j : Int) := wrap_fit _ (by omega) (by omega)
      have HORD := hide (ordH_any p l)
      have HAT := hide hat
      have HJ := hide hj
      clear hl hp hat hj
      obtain ⟨x, hx⟩ : ∃ x, x = ordH p l := ⟨_, rfl⟩
      rw [← hx] at HORD HAT
      clear hx
      unfold heV at HORD
      by_cases hx0 : x < 0
      · have hx1 : ¬ (0 : Int) ≤ x := by omega
        rw [decide_eq_true hx0] at HAT
        go_wp2
        go_region_held3 (fun W => W.cell? ⟨b, off + k * 2, none⟩ = some (.int .i64 l.1) ∧ W.cell? ⟨b, off + k * 2 + 1, none⟩ = some (.int .i64 l.2) ∧ W.cell? ⟨b, off + j * 2, none⟩ = some (.int .i64 p.1) ∧ W.cell? ⟨b, off + j * 2 + 1, none⟩ = some (.int .i64 p.2)) (first | go_keep | (refine ⟨?_, ?_, ?_, ?_⟩ <;> (rw [hbc.cell (by assumption)]; assumption))) (first | (go_at_call 80; refine (HORD.out _).mono ?_; rintro e w2 ⟨rfl, hbc⟩))
        go_wp2
        exact ⟨⟨k + 1, by omega, by omega, by go_num, next_true HNO.out HAT.out, hb.drew.trans (hbc.mono hb.size)⟩, by simp [intOf]; omega⟩
      · have hx1 : (0 : Int) ≤ x := by omega
        rw [decide_eq_false hx0] at HAT
        have hf : ascB ordH ls = false := all_false hlt HAT.out
        have HF := hide hf
        clear hf
        go_wp2
        go_region_held3 (fun W => W.cell? ⟨b, off + k * 2, none⟩ = some (.int .i64 l.1) ∧ W.cell? ⟨b, off + k * 2 + 1, none⟩ = some (.int .i64 l.2) ∧ W.cell? ⟨b, off + j * 2, none⟩ = some (.int .i64 p.1) ∧ W.cell? ⟨b, off + j * 2 + 1, none⟩ = some (.int .i64 p.2)) (first | go_keep | (refine ⟨?_, ?_, ?_, ?_⟩ <;> (rw [hbc.cell (by assumption)]; assumption))) (first | (go_at_call 80; refine (HORD.out _).mono ?_; rintro e w2 ⟨rfl, hbc⟩))
        go_wp2
        go_ret
        exact ⟨ret_bool HF.out, hb.drew.trans (hbc.mono hb.size)⟩
    · have hall : ascB ordH ls = true := all_true fun i hi => HNO.out i (by omega)
      have HA := hide hall
      clear hall
      go_wp2
      go_ret
      exact ⟨ret_bool HA.out, hb⟩

set_option maxRecDepth 100000 in
set_option maxHeartbeats 4000000 in
theorem heardEnds_any (v : Value) (h : List Int) (w : World) (hn : h.length ≤ 1048576) (hv : HopsAt w v h w.heap.size) :
    Calls Tryz.prog 77 #[v] w fun e w' => ∃ u, e = .returned u ∧ w'.ownsRow w.heap.size 111 2 u (pairsOf h).length (flat heE (pairsOf h)) ∧ Below w.heap.size w w' := by
  obtain ⟨a, cap, rfl⟩ := hv.shape
  have HV := hide hv
  have hpl := pairs_len h
  have HPL := hide hpl
  clear hv hpl
  go_enter Tryz.func77, Tryz.ntmps77
  go_wp2
  go_loopw [4, 3] (fun i o wr => ∃ (k : Nat) (u : Value), 2 * k ≤ h.length ∧ i = .int .i64 (2 * (k : Int) + 1) ∧ o = u ∧ wr.ownsRow w.heap.size 111 2 u ((pairsOf h).take k).length (flat heE ((pairsOf h).take k)) ∧ Below w.heap.size w wr) (fun i _ _ => h.length + 2 - (intOf i).toNat)
  case atStart => exact ⟨0, _, by omega, by simp, rfl, World.ownsRow_nil _ _ _ _, Below.refl _ _⟩
  case round =>
    obtain ⟨k, u, hk, rfl, rfl, hown, hb⟩ := hrel
    have hsz := hb.size
    obtain ⟨ua, uc, hue⟩ := owns_lenS hown
    have htl : ((pairsOf h).take k).length = k := by rw [List.length_take, HPL.out]; omega
    by_cases hlt : 2 * k + 1 < h.length
    · have hj0 : (2 * (k : Int) + 1) < (h.length : Int) := by omega
      obtain ⟨x, hx⟩ : ∃ x, h[2 * k]? = some x := ⟨h[2 * k], List.getElem?_eq_getElem (by omega)⟩
      obtain ⟨y, hy⟩ : ∃ y, h[2 * k + 1]? = some y := ⟨h[2 * k + 1], List.getElem?_eq_getElem hlt⟩
      obtain ⟨b, off, cap', hve, hbb, c0⟩ := HV.out.cell (2 * k) x hx
      cases hve
      obtain ⟨b', off', cap2, hve2, hbb2, d0⟩ := HV.out.cell (2 * k + 1) y hy
      cases hve2
      rw [← hb.cell (p := ⟨b, off + 2 * k, none⟩) hbb] at c0
      rw [← hb.cell (p := ⟨b, off + (2 * k + 1), none⟩) hbb] at d0
      have HST := hide (pairs_take h k x y hx hy)
      have hbr : b < wr.heap.size := by omega
      have e1 : (2 * (k : Int) + 1) - 1 = ((2 * k : Nat) : Int) := by omega
      have e2 : (2 * (k : Int) + 1) = ((2 * k + 1 : Nat) : Int) := by omega
      have hw1 : IntKind.i64.wrap (2 * (k : Int) + 1 - 1) = 2 * (k : Int) + 1 - 1 := wrap_fit _ (by omega) (by omega)
      subst hue
      clear hx hy
      have HOW := hide hown
      have HVV := hide HV
      clear hown HV
      have q1 : (0 : Int) ≤ 2 * (k : Int) := by omega
      have q2 : 2 * (k : Int) < (h.length : Int) := by omega
      have q3 : (0 : Int) ≤ 2 * (k : Int) + 1 := by omega
      have q4 : (2 * (k : Int)).toNat = 2 * k := by omega
      have q5 : (2 * (k : Int) + 1).toNat = 2 * k + 1 := by omega
      have q6 : 2 * (k : Int) + 1 - 1 = 2 * (k : Int) := by omega
      rw [q6] at hw1
      rw [htl] at HOW ⊢
      clear e1 e2
      have HNE : some b ≠ (Value.slice ua k uc).ownBlock := fun e => by have := (HOW.out.lt b e.symm).1; omega
      go_wp2
      go_region_held3 (fun W => W.cell? ⟨b, off + 2 * k, none⟩ = some (.int .i64 x) ∧ W.cell? ⟨b, off + (2 * k + 1), none⟩ = some (.int .i64 y)) (first | go_keep | exact ⟨hgrow.cell ((((Below.refl wr.heap.size wr).alloc (Nat.le_refl _) _).drew.cell hbr).trans c0) HNE, hgrow.cell ((((Below.refl wr.heap.size wr).alloc (Nat.le_refl _) _).drew.cell hbr).trans d0) HNE⟩) (first | (refine step_append_struct heE_len (by omega) (by omega) rfl _ _ 108 rfl w.heap.size 111 Tryz.underlying108 (.agg #[.int .i64 0, .int .i64 0]) rfl Tryz.infoEnd (.slice ua k uc) ((pairsOf h).take k) (x, y) (heE_one _) rfl ?_ ⟨wr.heap.size, 0, none⟩ 1 rfl ?_ ?_ ?_ ?_; (rw [htl]; exact (HOW.out.alloc _).drew); (exact news_struct (cs := heE (x, y))); (omega); (simp; omega); intro v' w1 hown' hgrow))
      have hgs := hgrow.size
      simp at hgs
      have BF : Below w.heap.size w w1 := (hb.alloc hsz _).drew.grown hgrow (by simp; omega) (fun k hk => (HOW.out.lt k hk).1)
      have HO := hide hown'
      clear hown' hgrow
      go_wp2
      go_roundw
      case rel => exact ⟨k + 1, v', by omega, by go_num, rfl, by rw [HST.out]; exact HO.out, BF⟩
      case measure => simp [intOf]; omega
    · have hj0 : ¬ (2 * (k : Int) + 1) < (h.length : Int) := by omega
      have KN := hide (show (pairsOf h).take k = pairsOf h by rw [List.take_of_length_le]; rw [HPL.out]; omega)
      subst hue
      have OW := hide hown
      clear hown
      go_wp2
      go_ret
      have h1 := OW.out
      rw [KN.out] at h1
      exact ⟨_, by rw [← KN.out, htl]; rfl, h1, hb⟩

set_option maxRecDepth 100000 in
set_option maxHeartbeats 4000000 in
theorem heardOk_any (v1 v2 v3 v4 : Value) (x : SelfD) (ps : List RP) (w : World) (hl : x.net.ls.length ≤ 1048576) (hh : x.heard.length ≤ 1048576) (hv : SelfIn w v1 v2 v3 v4 x ps w.heap.size) :
    Calls Tryz.prog 38 #[selfV x v1 v2 v3 v4] w fun e w' => e = .returned (.bool (heardB x.net.ls x.id x.heard)) ∧ Below w.heap.size w w' := by
  obtain ⟨a1, c1, rfl⟩ := hv.links.shape
  obtain ⟨a2, c2, rfl⟩ := hv.things.shape
  obtain ⟨a3, c3, rfl⟩ := hv.heard.shape
  obtain ⟨a4, c4, rfl⟩ := hv.store.shape
  have HX := hide hv
  have HPL := hide (pairs_len x.heard)
  clear hv
  obtain ⟨H, hH⟩ : ∃ H, H = heardB x.net.ls x.id x.heard := ⟨_, rfl⟩
  rw [← hH]
  have HH := hide hH
  clear hH
  go_enter Tryz.func38, Tryz.ntmps38
  have BA : Below w.heap.size w (w.alloc (.cells #[.int .i64 x.id, .int .i64 x.boot, .int .i64 x.net.n, .slice a1 x.net.ls.length c1, .slice a2 x.net.ts.length c2, .slice a3 x.heard.length c3, .slice a4 ps.length c4] 31)) := (Below.refl _ _).alloc (Nat.le_refl _) _
  have HE := hide (heardEnds_any (.slice a3 x.heard.length c3) x.heard _ hh (HX.out.heard.then BA))
  go_wp2_with fail
  refine HE.out.mono ?_
  rintro e w1 ⟨u, rfl, ho, b1⟩
  have g1 : w1.heap[w.heap.size]? = some (.cells #[.int .i64 x.id, .int .i64 x.boot, .int .i64 x.net.n, .slice a1 x.net.ls.length c1, .slice a2 x.net.ts.length c2, .slice a3 x.heard.length c3, .slice a4 ps.length c4] 31) := by rw [b1.block _ (by simp)]; exact heap_alloc_new w _
  have B1 : Below w.heap.size w w1 := BA.trans (b1.mono BA.size)
  obtain ⟨ua, uc, rfl⟩ := owns_lenS ho
  obtain ⟨L, hL⟩ : ∃ L, L = pairsOf x.heard := ⟨_, rfl⟩
  rw [← hL] at ho ⊢
  have EA := hide (show EndsAt w1 (.slice ua L.length uc) L w1.heap.size from owns_rowAt ho)
  have hLl : L.length ≤ 1048576 := by rw [hL, HPL.out]; omega
  have HL := hide hL
  have G1 := hide g1
  clear hL ho b1 BA HE g1
  go_wp2
  go_loopw [11] (fun i wr => ∃ k : Nat, k ≤ L.length ∧ i = .int .i64 k ∧ Hid (∀ j, j < k → okAt (hitP x.net.ls x.id) L j = true) ∧ Below w1.heap.size w1 wr) (fun i _ => L.length + 1 - (intOf i).toNat)
  case atStart => exact ⟨0, by omega, rfl, hide (by omega), Below.refl _ _⟩
  case round =>
    obtain ⟨k, hk, rfl, HNO, hb⟩ := hrel
    have gr := (hb.block _ (lt_of_heap G1.out)).trans G1.out
    have B2 : Below w.heap.size w wr := B1.trans (hb.mono B1.size)
    have t0 := cells_at gr 0
    have t2 := cells_at gr 2
    have t3 := cells_at gr 3
    have t4 := cells_at gr 4
    have t5 := cells_at gr 5
    simp at t0 t2 t3 t4 t5
    have hgl := lt_of_heap gr
    by_cases hlt : k < L.length
    · obtain ⟨p, hp⟩ : ∃ p, L[k]? = some p := ⟨L[k], List.getElem?_eq_getElem hlt⟩
      obtain ⟨b, off, cap', hve, hbb, c0, c1'⟩ := EndsAt.cells EA.out k p hp
      cases hve
      rw [← hb.cell (p := ⟨b, off + k * 2, none⟩) hbb] at c0
      rw [← hb.cell (p := ⟨b, off + k * 2 + 1, none⟩) hbb] at c1'
      have hki : (0 : Int) ≤ (k : Int) := by omega
      have hkj : (k : Int) < (L.length : Int) := by omega
      have BC : Below wr.heap.size wr (wr.alloc (.cells #[.int .i64 p.1, .int .i64 p.2] 111)) := (Below.refl _ _).alloc (Nat.le_refl _) _
      have HC := hide (icost_any (.int .i64 x.net.n) (.slice a1 x.net.ls.length c1) (.slice a2 x.net.ts.length c2) x.net.ls x.id p.1 p.2 _ hl (RowAt.then (RowAt.then HX.out.links B2) BC))
      obtain ⟨C, hC⟩ : ∃ C, C = costN x.net.ls x.id p.1 p.2 := ⟨_, rfl⟩
      rw [← hC] at HC
      have HAT := hide (show okAt (hitP x.net.ls x.id) L k = !(C == 0) by rw [okAt_eq hp, hC]; rfl)
      clear hC hp gr
      go_wp2_with fail
      refine HC.out.mono ?_
      rintro e w3 ⟨rfl, b3⟩
      have B3 : Below w1.heap.size w1 w3 := (hb.trans (BC.mono hb.size)).trans (b3.mono (by have := BC.size; have := hb.size; omega))
      have B4 : Below w.heap.size w w3 := B1.trans (B3.mono B1.size)
      clear b3 HC c0 c1' t0 t2 t3 t4 t5
      by_cases hc0 : C = 0
      · have HF := hide (show H = false by
          rw [HH.out]
          unfold heardB
          rw [← HL.out]
          have : L.all (hitP x.net.ls x.id) = false := by
            rw [List.all_eq_false]
            refine ⟨L[k], List.getElem_mem hlt, ?_⟩
            have h := HAT.out
            rw [okAt_eq (List.getElem?_eq_getElem hlt), hc0] at h
            rw [h]
            simp
          rw [this, Bool.false_and])
        subst hc0
        go_wp2
        go_ret
        exact ⟨ret_bool HF.out, B4⟩
      · have HT := hide (show okAt (hitP x.net.ls x.id) L k = true by rw [HAT.out]; simpa using hc0)
        go_wp2
        go_roundw
        case rel => exact ⟨k + 1, by omega, by go_num, hide (next_true HNO.out HT.out), B3⟩
        case measure => simp [intOf]; omega
    · have hkj : ¬ (k : Int) < (L.length : Int) := by omega
      have HALL := hide (show L.all (hitP x.net.ls x.id) = true by
        rw [List.all_eq_true]
        intro q hq
        obtain ⟨i, hi, e⟩ := List.mem_iff_getElem.1 hq
        have h := HNO.out i (by omega)
        rw [okAt_eq (List.getElem?_eq_getElem hi), e] at h
        exact h)
      have HAS := hide (ascH_any (.slice ua L.length uc) L _ hLl (RowAt.then EA.out hb))
      have HFIN := hide (show H = (decide (x.heard.length % 2 = 0) && ascB ordH L) by
        rw [HH.out]
        unfold heardB
        rw [← HL.out, HALL.out, Bool.true_and])
      clear HNO gr
      by_cases hpar : x.heard.length % 2 = 0
      · have hp1 : (x.heard.length : Int) % 2 = 0 := by omega
        rw [decide_eq_true hpar, Bool.true_and] at HFIN
        clear hpar
        go_wp2_with fail
        refine HAS.out.mono ?_
        rintro e w3 ⟨rfl, b3⟩
        have B4 : Below w.heap.size w w3 := B2.trans (b3.mono B2.size)
        clear b3 t0 t2 t3 t4 t5
        go_wp2
        go_ret
        exact ⟨ret_bool HFIN.out, B4⟩
      · have hp1 : ¬ (x.heard.length : Int) % 2 = 0 := by omega
        rw [decide_eq_false hpar, Bool.false_and] at HFIN
        clear hpar
        go_wp2
        go_ret
        exact ⟨ret_bool HFIN.out, B2⟩
end Go.Proofs.YtcimbiinljcifaaGreat
namespace Go.Proofs.YtcimbiinljcifaaGreat
open Go.RowKit

set_option linter.unusedSimpArgs false

def selfB (x : SelfD) (ps : List RP) : Bool := netOkI x.net && (inB x.id 1 x.net.n && (inB x.boot 0 90 && (heardB x.net.ls x.id x.heard && storeB (fsts ps))))

set_option maxRecDepth 100000 in
set_option maxHeartbeats 4000000 in
theorem iselfOk_any (v1 v2 v3 v4 : Value) (x : SelfD) (ps : List RP) (w : World) (ht : totS x ps ≤ 1048576) (hv : SelfIn w v1 v2 v3 v4 x ps w.heap.size) :
    Calls Tryz.prog 11 #[selfV x v1 v2 v3 v4] w fun e w' => e = .returned (.bool (selfB x ps)) ∧ Below w.heap.size w w' := by
  obtain ⟨⟨a1, c1, rfl⟩, ⟨a2, c2, rfl⟩, ⟨a3, c3, rfl⟩, ⟨a4, c4, rfl⟩⟩ := hv.shapes
  have hlL : x.net.ls.length ≤ 1048576 := by unfold totS at ht; omega
  have hlT : x.net.ts.length ≤ 1048576 := by unfold totS at ht; omega
  have hlH : x.heard.length ≤ 1048576 := by unfold totS at ht; omega
  have hlR : tot ps ≤ 1048576 := by unfold totS at ht; omega
  have HX := hide hv
  clear hv ht
  have BA : Below w.heap.size w (w.alloc (.cells #[.int .i64 x.id, .int .i64 x.boot, .int .i64 x.net.n, .slice a1 x.net.ls.length c1, .slice a2 x.net.ts.length c2, .slice a3 x.heard.length c3, .slice a4 ps.length c4] 31)) := (Below.refl _ _).alloc (Nat.le_refl _) _
  have g0 := heap_alloc_new w (.cells #[.int .i64 x.id, .int .i64 x.boot, .int .i64 x.net.n, .slice a1 x.net.ls.length c1, .slice a2 x.net.ts.length c2, .slice a3 x.heard.length c3, .slice a4 ps.length c4] 31)
  obtain ⟨r1, h1⟩ : ∃ r, r = netOkI x.net := ⟨_, rfl⟩
  obtain ⟨r2, h2⟩ : ∃ r, r = inB x.id 1 x.net.n := ⟨_, rfl⟩
  obtain ⟨r3, h3⟩ : ∃ r, r = inB x.boot 0 90 := ⟨_, rfl⟩
  obtain ⟨r4, h4⟩ : ∃ r, r = heardB x.net.ls x.id x.heard := ⟨_, rfl⟩
  obtain ⟨r5, h5⟩ : ∃ r, r = storeB (fsts ps) := ⟨_, rfl⟩
  have HS := hide (show selfB x ps = (r1 && (r2 && (r3 && (r4 && r5)))) by unfold selfB; rw [h1, h2, h3, h4, h5])
  rw [HS.out]
  have HN := hide (inetOk_any _ x.net (w.alloc (.cells #[.int .i64 x.id, .int .i64 x.boot, .int .i64 x.net.n, .slice a1 x.net.ls.length c1, .slice a2 x.net.ts.length c2, .slice a3 x.heard.length c3, .slice a4 ps.length c4] 31)) hlL hlT (HX.out.then BA).net)
  have HI1 := hide (isIn_any x.id 1 x.net.n)
  have HI2 := hide (isIn_any x.boot 0 90)
  have HHD := hide (fun W (hb : Below w.heap.size w W)  => heardOk_any _ _ _ _ x ps W hlL hlH (HX.out.then hb))
  have HST := hide (fun W (hb : Below w.heap.size w W) => istoreOk_any _ ps W hlR (HX.out.then hb).store)

  rw [← h1] at HN
  rw [← h2] at HI1
  rw [← h3] at HI2
  rw [← h4] at HHD
  rw [← h5] at HST
  have G0 := hide g0
  clear h1 h2 h3 h4 h5 HS g0
  go_enter Tryz.func11, Tryz.ntmps11
  go_wp2_with fail
  obtain ⟨w0, hw0⟩ : ∃ W, W = w.alloc (.cells #[.int .i64 x.id, .int .i64 x.boot, .int .i64 x.net.n, .slice a1 x.net.ls.length c1, .slice a2 x.net.ts.length c2, .slice a3 x.heard.length c3, .slice a4 ps.length c4] 31) := ⟨_, rfl⟩
  rw [← hw0] at BA G0 HN ⊢
  clear hw0
  refine HN.out.mono ?_
  rintro e w1 ⟨rfl, b1⟩
  have g1 := (b1.block _ (lt_of_heap G0.out)).trans G0.out
  have B1 : Below w.heap.size w w1 := BA.trans (b1.mono BA.size)
  cases r1
  · go_wp2
    go_ret
    exact ⟨rfl, B1⟩
  have s0 := cells_at g1 0
  have s1 := cells_at g1 1
  have s2 := cells_at g1 2
  have s3 := cells_at g1 3
  have s4 := cells_at g1 4
  have s5 := cells_at g1 5
  have s6 := cells_at g1 6
  simp at s0 s1 s2 s3 s4 s5 s6
  have G1 := hide g1
  clear g1 b1 HN
  go_wp2_with fail
  refine (HI1.out _).mono ?_
  rintro e w2 ⟨rfl, rfl⟩
  cases r2
  · go_wp2
    go_ret
    exact ⟨rfl, B1⟩
  go_wp2_with fail
  refine (HI2.out _).mono ?_
  rintro e w2 ⟨rfl, rfl⟩
  cases r3
  · go_wp2
    go_ret
    exact ⟨rfl, B1⟩
  go_wp2_with fail
  refine (HHD.out _ B1).mono ?_
  rintro e w3 ⟨rfl, b3⟩
  skip
  have g3 := (b3.block _ (lt_of_heap G1.out)).trans G1.out
  have B3 : Below w.heap.size w w3 := B1.trans (b3.mono B1.size)
  cases r4
  · clear s0 s1 s2 s3 s4 s5 s6
    go_wp2
    go_ret
    exact ⟨rfl, B3⟩
  clear s0 s1 s2 s3 s4 s5 s6
  have s6 := cells_at g3 6
  simp at s6
  clear g3 b3
  go_wp2_with fail
  refine (HST.out _ B3).mono ?_
  rintro e w4 ⟨rfl, b4⟩
  have B4 : Below w.heap.size w w4 := B3.trans (b4.mono B3.size)
  clear b4
  go_wp2
  go_ret
  exact ⟨by simp, B4⟩
end Go.Proofs.YtcimbiinljcifaaGreat
namespace Go.Proofs.YtcimbiinljcifaaGreat
open Go.RowKit

set_option linter.unusedSimpArgs false

theorem results_cell_row_tmp5 {P : Program} {fn : Func} {p u : Tmp} {ty : TypeId} (h : fn.results = #[.cell p ty, .tmp u]) (tmps : Array Value) (w : World) (g : Nat) (t : TypeId) (cs : Array Value) (fr : Nat × Nat) (d : TypeDesc)
    (hp : tmps.getD p undef = .pointer (some ⟨g, 0, none⟩)) (hg : w.heap[g]? = some (.cells cs t fr))
    (hu : P.underlying ty = some d) (hd : (match d with | .struct _ | .array _ _ => true | _ => false) = true) (hi : (P.info? ty).map (·.size) = some cs.size) :
    (results fn tmps).run P w = .ok (.tuple #[.agg cs, tmps.getD u undef]) w := by
  have hp' : tmps[p]?.getD undef = .pointer (some ⟨g, 0, none⟩) := by simpa using hp
  rw [results_cell_tmp h]
  simp [hp', asAddr, run_loadVar_row w g t ty cs fr d hg hu hd hi]

end Go.Proofs.YtcimbiinljcifaaGreat
namespace Go.Proofs.YtcimbiinljcifaaGreat
open Go.RowKit

theorem wpList_build0 {w : World} {ops : Array Oper} {rest : List Oper} {o : Oper} {a : Act} {Q : Exit → Act → World → Prop} (hgd : o.guard = none)
    (ho : o.op = .buildSlice 29 0 #[]) (h : ∀ W, Hid (W = w.alloc (.cells #[] 40)) → wpList Tryz.prog ops Q rest (a.put o.dst (.slice (some ⟨w.heap.size, 0, none⟩) 0 0)) W) : wpList Tryz.prog ops Q (o :: rest) a w :=
  wpList_plain hgd fun _ hK => by
    unfold Oper.wp execOp
    rw [ho]
    have h2 := hK _ _ (h _ (hide rfl))
    go_simp
    exact h2
end Go.Proofs.YtcimbiinljcifaaGreat
