/-
  impl.heardOk: its contract.
  spec.l04Copy, impl.ownRecord: a record with a row of its own.
  A list of records to which one more is put.
  spec.SameKey, spec.SameBody: their contracts.
  impl.Record.key, impl.SameKey: their contracts.
-/
import Derived.Test.YtdaigojpeofmpaaPk3
import Derived.Test.YtdaigojpeofmpaaPk6
import Derived.Deep.RegionHeld3
import Derived.Test.YtdaigojpeofmpaaPk5
import Derived.Laws.AppendOwnNone
import Derived.Test.YtdaigojpeofmpaaPk4
import Derived.Laws.StructEq
import Derived.ChangeKeysEq
namespace Go.Proofs.Ytdaigojpeofmpaa
open Go.RowKit

set_option linter.unusedSimpArgs false

def heV (p : Int × Int) : Value := .agg #[.int .i64 p.1, .int .i64 p.2]

def heE (p : Int × Int) : List Value := [.int .i64 p.1, .int .i64 p.2]

theorem heE_len (p : Int × Int) : (heE p).length = 2 := rfl

theorem heE_one (p : Int × Int) : ∀ u ∈ heE p, u.oneCell' = true := by
  intro u hu
  simp only [heE, List.mem_cons, List.not_mem_nil, or_false] at hu
  rcases hu with rfl | rfl <;> rfl

def EndsAt (W : World) (v : Value) (ls : List (Int × Int)) (B : Nat) : Prop := StructsAt heE 2 W v ls B

instance : Inhabited (Int × Int) := ⟨(0, 0)⟩

theorem EndsAt.shape {W : World} {v : Value} {ls : List (Int × Int)} {B : Nat} (h : EndsAt W v ls B) : ∃ a cap, v = .slice a ls.length cap := by
  obtain ⟨a, cap, h, _⟩ := h
  exact ⟨a, cap, h⟩

theorem EndsAt.cells {W : World} {v : Value} {ls : List (Int × Int)} {B : Nat} (h : EndsAt W v ls B) (i : Nat) (p : Int × Int) (hp : ls[i]? = some p) :
    ∃ b off cap, v = .slice (some ⟨b, off, none⟩) ls.length cap ∧ b < B ∧ W.cell? ⟨b, off + i * 2, none⟩ = some (.int .i64 p.1) ∧ W.cell? ⟨b, off + i * 2 + 1, none⟩ = some (.int .i64 p.2) := by
  obtain ⟨b, off, cap, hv, hb, hc⟩ := StructsAt.cell h heE_len i p hp
  exact ⟨b, off, cap, hv, hb, hc 0 _ rfl, hc 1 _ rfl⟩

theorem Try.infoEnd : (Try.prog.info? 108).map (fun i => (i.zero, i.size, i.bytes)) = some (some (.agg #[.int .i64 0, .int .i64 0]), 2, 16) := by kernel_rfl

/-- an append as one step of a region that draws its order -/
theorem step_append_struct {α : Type} {enc : α → List Value} {sz bytes : Nat} (hlen : ∀ a, (enc a).length = sz) (hpos : 0 < sz) (hbb : bytes ≤ 100) {P : Program} {ops : Array Oper} {o : Oper} {a : Act} {w : World} {K : Act → World → Prop} {Q : Exit → Act → World → Prop} {E : Prop} (hgd : o.guard = none) (s x : Operand) (t : TypeId)
    (ho : o.op = .call { callee := .builtin .append, args := #[s, x], argTypes := #[t, t] }) (base : Nat) (e : TypeId) (ht : P.underlying t = some (.slice e)) (zv : Value) (hzv : zv.cells.size = sz)
    (hinfo : (P.info? e).map (fun i => (i.zero, i.size, i.bytes)) = some (some zv, sz, bytes))
    (v : Value) (l : List α) (y : α) (hone : ∀ u ∈ enc y, u.oneCell' = true) (hs : a.eval s = v) (hown : w.ownsRow base e sz v l.length (flat enc l))
    (ad : Addr) (c : Nat) (hx : a.eval x = .slice (some ad) 1 c) (hnews : ∀ j u, (enc y)[j]? = some u → w.cell? (ad.add j) = some u)
    (hl : l.length + 1 ≤ 1000000000) (hbase : base ≤ w.heap.size)
    (h : ∀ v' w', w'.ownsRow base e sz v' (l ++ [y]).length (flat enc (l ++ [y])) → w.grownBy w' v.ownBlock → K (a.put o.dst v') w') :
    if Region.wanted o (yielded ops a.tmps) = true then Oper.wp P o a w K Q else E := by
  have hw : Region.wanted o (yielded ops a.tmps) = true := by simp [Region.wanted, hgd]
  rw [if_pos hw]
  obtain ⟨i0, hi, hz0, hz1, hz2⟩ := info_parts hinfo
  refine wp_append_own w s x t ho base e i0 zv sz bytes ht hi hz0 hz1 hz2 hzv hpos v l.length (flat enc l) hs hown ad 1 c (enc y) hx (by rw [hlen]; omega) hnews hone (by unfold maxLen; omega) ?_ hbase ?_
  · have : (l.length + 1) * bytes ≤ 1000000000 * 100 := Nat.mul_le_mul hl hbb
    omega
  · intro v' w' h1 h2 _
    have e1 : flat enc l ++ enc y = flat enc (l ++ [y]) := by rw [flat_append]; simp [flat]
    rw [e1] at h1
    exact h v' w' (by simpa using h1) h2

set_option maxRecDepth 100000 in
set_option maxHeartbeats 4000000 in
theorem ordH_any (l m : Int × Int) (w : World) : Calls Try.prog 71 #[heV l, heV m] w fun e w' => e = .returned (.int .i64 (ordH l m)) ∧ Below w.heap.size w w' := by
  obtain ⟨o, k⟩ := l
  obtain ⟨o', k'⟩ := m
  unfold heV ordH
  simp only []
  go_enter Try.func71, Try.ntmps71
  go_wp2
  obtain ⟨w1, hw1⟩ : ∃ w1, w1 = (w.alloc (.cells #[.int .i64 o, .int .i64 k] 108)).alloc (.cells #[.int .i64 o', .int .i64 k'] 108) := ⟨_, rfl⟩
  have B1 : Below w.heap.size w w1 := by rw [hw1]; exact below_two _ _
  have p0 : w1.heap[w.heap.size]? = some (.cells #[.int .i64 o, .int .i64 k] 108) := by rw [hw1, Below.heap_alloc _ _ _ (by simp), heap_alloc_new]
  have q0 : w1.heap[w.heap.size + 1]? = some (.cells #[.int .i64 o', .int .i64 k'] 108) := by
    rw [hw1]
    have := heap_alloc_new (w.alloc (.cells #[.int .i64 o, .int .i64 k] 108)) (.cells #[.int .i64 o', .int .i64 k'] 108)
    simpa using this
  rw [← hw1]
  clear hw1
  have s0 := cells_at p0 0
  have s1 := cells_at p0 1
  have t0 := cells_at q0 0
  have t1 := cells_at q0 1
  have hz0 := lt_of_heap p0
  have hz1 := lt_of_heap q0
  simp at s0 s1 t0 t1
  clear p0 q0
  have hz2 := B1.size
  go_region_held3 (fun W => W.cell? ⟨w.heap.size, 0, none⟩ = some (.int .i64 o) ∧ W.cell? ⟨w.heap.size, 1, none⟩ = some (.int .i64 k) ∧ W.cell? ⟨w.heap.size + 1, 0, none⟩ = some (.int .i64 o') ∧ W.cell? ⟨w.heap.size + 1, 1, none⟩ = some (.int .i64 k')) (first | go_keep | assumption) (first | (go_at_call 98; refine (compare_any _ _ _).mono ?_; rintro e w' ⟨rfl, rfl⟩) | (go_at_call 97; refine (or_two _ (cmpN o o') (cmpN k k') _ ?_ ?_).mono ?_; (exact new_cell _ _ _ _ _ rfl); (exact new_cell _ _ _ _ _ rfl); rintro e w' ⟨rfl, rfl⟩))
  go_wp2
  go_ret
  exact ⟨rfl, B1.drew.alloc B1.size _⟩

set_option maxRecDepth 100000 in
set_option maxHeartbeats 4000000 in
theorem ascH_any (v : Value) (ls : List (Int × Int)) (w : World) (hls : ls.length ≤ 1048576) (hv : EndsAt w v ls w.heap.size) :
    Calls Try.prog 70 #[v, .func (.func 71) #[] #[]] w fun e w' => e = .returned (.bool (ascB ordH ls)) ∧ Below w.heap.size w w' := by
  obtain ⟨a, cap, rfl⟩ := EndsAt.shape hv
  have HV := hide hv
  clear hv
  go_enter Try.func70, Try.ntmps70
  go_wp2
  go_loopw [5] (fun i wr => ∃ k : Nat, 1 ≤ k ∧ (k ≤ ls.length ∨ k = 1) ∧ i = .int .i64 k ∧ (∀ j, j < k → ascAt ordH ls j = true) ∧ Below w.heap.size w wr) (fun i _ => ls.length + 1 - (intOf i).toNat)
  case atStart => exact ⟨1, by omega, by omega, rfl, fun j hj => by obtain rfl : j = 0 := by omega
                                                                    rfl, Below.refl _ _⟩
  case round =>
    obtain ⟨k, hk1, hk, rfl, hno, hb⟩ := hrel
    have HNO := hide hno
    clear hno
    by_cases hlt : k < ls.length
    · obtain ⟨l, hl⟩ : ∃ l, ls[k]? = some l := ⟨ls[k], List.getElem?_eq_getElem hlt⟩
      obtain ⟨j, hj⟩ : ∃ j, k = j + 1 := ⟨k - 1, by omega⟩
      obtain ⟨p, hp⟩ : ∃ p, ls[j]? = some p := ⟨ls[j], List.getElem?_eq_getElem (by omega)⟩
      obtain ⟨b, off, cap', hve, hbb, c0, c1⟩ := EndsAt.cells HV.out k l hl
      cases hve
      obtain ⟨b', off', cap2, hve2, hbb2, d0, d1⟩ := EndsAt.cells HV.out j p hp
      cases hve2
      rw [← hb.cell (p := ⟨b, off + k * 2, none⟩) hbb] at c0
      rw [← hb.cell (p := ⟨b, off + k * 2 + 1, none⟩) hbb] at c1
      rw [← hb.cell (p := ⟨b, off + j * 2, none⟩) hbb] at d0
      rw [← hb.cell (p := ⟨b, off + j * 2 + 1, none⟩) hbb] at d1
      have hat : ascAt ordH ls k = decide (ordH p l < 0) := by rw [hj]; exact ascAt_eq hp (by rw [← hj]; exact hl)
      have hzr := hb.size
      have hbr : b < wr.heap.size := by omega
      have hki : (0 : Int) ≤ (k : Int) := by omega
      have hkj : (k : Int) < (ls.length : Int) := by omega
      have hj1 : (k : Int) - 1 = (j : Int) := by omega
      have hj2 : (0 : Int) ≤ (j : Int) := by omega
      have hj3 : (j : Int) < (ls.length : Int) := by omega
      have hj5 : IntKind.i64.wrap (j : Int) = (j : Int) := wrap_fit _ (by omega) (by omega)
      have HORD := hide (ordH_any p l)
      have HAT := hide hat
      have HJ := hide hj
      clear hl hp hat hj
      obtain ⟨x, hx⟩ : ∃ x, x = ordH p l := ⟨_, rfl⟩
      rw [← hx] at HORD HAT
      clear hx
      unfold heV at HORD
      by_cases hx0 : x < 0
      · have hx1 : ¬ (0 : Int) ≤ x := by omega
        rw [decide_eq_true hx0] at HAT
        go_wp2
        go_region_held3 (fun W => W.cell? ⟨b, off + k * 2, none⟩ = some (.int .i64 l.1) ∧ W.cell? ⟨b, off + k * 2 + 1, none⟩ = some (.int .i64 l.2) ∧ W.cell? ⟨b, off + j * 2, none⟩ = some (.int .i64 p.1) ∧ W.cell? ⟨b, off + j * 2 + 1, none⟩ = some (.int .i64 p.2)) (first | go_keep | (refine ⟨?_, ?_, ?_, ?_⟩ <;> (rw [hbc.cell (by assumption)]; assumption))) (first | (go_at_call 71; refine (HORD.out _).mono ?_; rintro e w2 ⟨rfl, hbc⟩))
        go_wp2
        exact ⟨⟨k + 1, by omega, by omega, by go_num, next_true HNO.out HAT.out, hb.drew.trans (hbc.mono hb.size)⟩, by simp [intOf]; omega⟩
      · have hx1 : (0 : Int) ≤ x := by omega
        rw [decide_eq_false hx0] at HAT
        have hf : ascB ordH ls = false := all_false hlt HAT.out
        have HF := hide hf
        clear hf
        go_wp2
        go_region_held3 (fun W => W.cell? ⟨b, off + k * 2, none⟩ = some (.int .i64 l.1) ∧ W.cell? ⟨b, off + k * 2 + 1, none⟩ = some (.int .i64 l.2) ∧ W.cell? ⟨b, off + j * 2, none⟩ = some (.int .i64 p.1) ∧ W.cell? ⟨b, off + j * 2 + 1, none⟩ = some (.int .i64 p.2)) (first | go_keep | (refine ⟨?_, ?_, ?_, ?_⟩ <;> (rw [hbc.cell (by assumption)]; assumption))) (first | (go_at_call 71; refine (HORD.out _).mono ?_; rintro e w2 ⟨rfl, hbc⟩))
        go_wp2
        go_ret
        exact ⟨ret_bool HF.out, hb.drew.trans (hbc.mono hb.size)⟩
    · have hall : ascB ordH ls = true := all_true fun i hi => HNO.out i (by omega)
      have HA := hide hall
      clear hall
      go_wp2
      go_ret
      exact ⟨ret_bool HA.out, hb⟩

set_option maxRecDepth 100000 in
set_option maxHeartbeats 4000000 in
theorem heardEnds_any (v : Value) (h : List Int) (w : World) (hn : h.length ≤ 1048576) (hv : HopsAt w v h w.heap.size) :
    Calls Try.prog 68 #[v] w fun e w' => ∃ u, e = .returned u ∧ w'.ownsRow w.heap.size 108 2 u (pairsOf h).length (flat heE (pairsOf h)) ∧ Below w.heap.size w w' := by
  obtain ⟨a, cap, rfl⟩ := hv.shape
  have HV := hide hv
  have hpl := pairs_len h
  have HPL := hide hpl
  clear hv hpl
  go_enter Try.func68, Try.ntmps68
  go_wp2
  go_loopw [4, 3] (fun i o wr => ∃ (k : Nat) (u : Value), 2 * k ≤ h.length ∧ i = .int .i64 (2 * (k : Int) + 1) ∧ o = u ∧ wr.ownsRow w.heap.size 108 2 u ((pairsOf h).take k).length (flat heE ((pairsOf h).take k)) ∧ Below w.heap.size w wr) (fun i _ _ => h.length + 2 - (intOf i).toNat)
  case atStart => exact ⟨0, _, by omega, by simp, rfl, World.ownsRow_nil _ _ _ _, Below.refl _ _⟩
  case round =>
    obtain ⟨k, u, hk, rfl, rfl, hown, hb⟩ := hrel
    have hsz := hb.size
    obtain ⟨ua, uc, hue⟩ := owns_lenS hown
    have htl : ((pairsOf h).take k).length = k := by rw [List.length_take, HPL.out]; omega
    by_cases hlt : 2 * k + 1 < h.length
    · have hj0 : (2 * (k : Int) + 1) < (h.length : Int) := by omega
      obtain ⟨x, hx⟩ : ∃ x, h[2 * k]? = some x := ⟨h[2 * k], List.getElem?_eq_getElem (by omega)⟩
      obtain ⟨y, hy⟩ : ∃ y, h[2 * k + 1]? = some y := ⟨h[2 * k + 1], List.getElem?_eq_getElem hlt⟩
      obtain ⟨b, off, cap', hve, hbb, c0⟩ := HV.out.cell (2 * k) x hx
      cases hve
      obtain ⟨b', off', cap2, hve2, hbb2, d0⟩ := HV.out.cell (2 * k + 1) y hy
      cases hve2
      rw [← hb.cell (p := ⟨b, off + 2 * k, none⟩) hbb] at c0
      rw [← hb.cell (p := ⟨b, off + (2 * k + 1), none⟩) hbb] at d0
      have HST := hide (pairs_take h k x y hx hy)
      have hbr : b < wr.heap.size := by omega
      have e1 : (2 * (k : Int) + 1) - 1 = ((2 * k : Nat) : Int) := by omega
      have e2 : (2 * (k : Int) + 1) = ((2 * k + 1 : Nat) : Int) := by omega
      have hw1 : IntKind.i64.wrap (2 * (k : Int) + 1 - 1) = 2 * (k : Int) + 1 - 1 := wrap_fit _ (by omega) (by omega)
      subst hue
      clear hx hy
      have HOW := hide hown
      have HVV := hide HV
      clear hown HV
      have q1 : (0 : Int) ≤ 2 * (k : Int) := by omega
      have q2 : 2 * (k : Int) < (h.length : Int) := by omega
      have q3 : (0 : Int) ≤ 2 * (k : Int) + 1 := by omega
      have q4 : (2 * (k : Int)).toNat = 2 * k := by omega
      have q5 : (2 * (k : Int) + 1).toNat = 2 * k + 1 := by omega
      have q6 : 2 * (k : Int) + 1 - 1 = 2 * (k : Int) := by omega
      rw [q6] at hw1
      rw [htl] at HOW ⊢
      clear e1 e2
      have HNE : some b ≠ (Value.slice ua k uc).ownBlock := fun e => by have := (HOW.out.lt b e.symm).1; omega
      go_wp2
      go_region_held3 (fun W => W.cell? ⟨b, off + 2 * k, none⟩ = some (.int .i64 x) ∧ W.cell? ⟨b, off + (2 * k + 1), none⟩ = some (.int .i64 y)) (first | go_keep | exact ⟨hgrow.cell ((((Below.refl wr.heap.size wr).alloc (Nat.le_refl _) _).drew.cell hbr).trans c0) HNE, hgrow.cell ((((Below.refl wr.heap.size wr).alloc (Nat.le_refl _) _).drew.cell hbr).trans d0) HNE⟩) (first | (refine step_append_struct heE_len (by omega) (by omega) rfl _ _ 105 rfl w.heap.size 108 Try.underlying105 (.agg #[.int .i64 0, .int .i64 0]) rfl Try.infoEnd (.slice ua k uc) ((pairsOf h).take k) (x, y) (heE_one _) rfl ?_ ⟨wr.heap.size, 0, none⟩ 1 rfl ?_ ?_ ?_ ?_; (rw [htl]; exact (HOW.out.alloc _).drew); (exact news_struct (cs := heE (x, y))); (omega); (simp; omega); intro v' w1 hown' hgrow))
      have hgs := hgrow.size
      simp at hgs
      have BF : Below w.heap.size w w1 := (hb.alloc hsz _).drew.grown hgrow (by simp; omega) (fun k hk => (HOW.out.lt k hk).1)
      have HO := hide hown'
      clear hown' hgrow
      go_wp2
      go_roundw
      case rel => exact ⟨k + 1, v', by omega, by go_num, rfl, by rw [HST.out]; exact HO.out, BF⟩
      case measure => simp [intOf]; omega
    · have hj0 : ¬ (2 * (k : Int) + 1) < (h.length : Int) := by omega
      have KN := hide (show (pairsOf h).take k = pairsOf h by rw [List.take_of_length_le]; rw [HPL.out]; omega)
      subst hue
      have OW := hide hown
      clear hown
      go_wp2
      go_ret
      have h1 := OW.out
      rw [KN.out] at h1
      exact ⟨_, by rw [← KN.out, htl]; rfl, h1, hb⟩

set_option maxRecDepth 100000 in
set_option maxHeartbeats 4000000 in
theorem heardOk_any (v1 v2 v3 v4 : Value) (x : SelfD) (ps : List RP) (w : World) (hl : x.net.ls.length ≤ 1048576) (hh : x.heard.length ≤ 1048576) (hv : SelfIn w v1 v2 v3 v4 x ps w.heap.size) :
    Calls Try.prog 35 #[selfV x v1 v2 v3 v4] w fun e w' => e = .returned (.bool (heardB x.net.ls x.id x.heard)) ∧ Below w.heap.size w w' := by
  obtain ⟨a1, c1, rfl⟩ := hv.links.shape
  obtain ⟨a2, c2, rfl⟩ := hv.things.shape
  obtain ⟨a3, c3, rfl⟩ := hv.heard.shape
  obtain ⟨a4, c4, rfl⟩ := hv.store.shape
  have HX := hide hv
  have HPL := hide (pairs_len x.heard)
  clear hv
  obtain ⟨H, hH⟩ : ∃ H, H = heardB x.net.ls x.id x.heard := ⟨_, rfl⟩
  rw [← hH]
  have HH := hide hH
  clear hH
  go_enter Try.func35, Try.ntmps35
  have BA : Below w.heap.size w (w.alloc (.cells #[.int .i64 x.id, .int .i64 x.boot, .int .i64 x.net.n, .slice a1 x.net.ls.length c1, .slice a2 x.net.ts.length c2, .slice a3 x.heard.length c3, .slice a4 ps.length c4] 38)) := (Below.refl _ _).alloc (Nat.le_refl _) _
  have HE := hide (heardEnds_any (.slice a3 x.heard.length c3) x.heard _ hh (HX.out.heard.then BA))
  go_wp2_with fail
  refine HE.out.mono ?_
  rintro e w1 ⟨u, rfl, ho, b1⟩
  have g1 : w1.heap[w.heap.size]? = some (.cells #[.int .i64 x.id, .int .i64 x.boot, .int .i64 x.net.n, .slice a1 x.net.ls.length c1, .slice a2 x.net.ts.length c2, .slice a3 x.heard.length c3, .slice a4 ps.length c4] 38) := by rw [b1.block _ (by simp)]; exact heap_alloc_new w _
  have B1 : Below w.heap.size w w1 := BA.trans (b1.mono BA.size)
  obtain ⟨ua, uc, rfl⟩ := owns_lenS ho
  obtain ⟨L, hL⟩ : ∃ L, L = pairsOf x.heard := ⟨_, rfl⟩
  rw [← hL] at ho ⊢
  have EA := hide (show EndsAt w1 (.slice ua L.length uc) L w1.heap.size from owns_rowAt ho)
  have hLl : L.length ≤ 1048576 := by rw [hL, HPL.out]; omega
  have HL := hide hL
  have G1 := hide g1
  clear hL ho b1 BA HE g1
  go_wp2
  go_loopw [11] (fun i wr => ∃ k : Nat, k ≤ L.length ∧ i = .int .i64 k ∧ Hid (∀ j, j < k → okAt (hitP x.net.ls x.id) L j = true) ∧ Below w1.heap.size w1 wr) (fun i _ => L.length + 1 - (intOf i).toNat)
  case atStart => exact ⟨0, by omega, rfl, hide (by omega), Below.refl _ _⟩
  case round =>
    obtain ⟨k, hk, rfl, HNO, hb⟩ := hrel
    have gr := (hb.block _ (lt_of_heap G1.out)).trans G1.out
    have B2 : Below w.heap.size w wr := B1.trans (hb.mono B1.size)
    have t0 := cells_at gr 0
    have t2 := cells_at gr 2
    have t3 := cells_at gr 3
    have t4 := cells_at gr 4
    have t5 := cells_at gr 5
    simp at t0 t2 t3 t4 t5
    have hgl := lt_of_heap gr
    by_cases hlt : k < L.length
    · obtain ⟨p, hp⟩ : ∃ p, L[k]? = some p := ⟨L[k], List.getElem?_eq_getElem hlt⟩
      obtain ⟨b, off, cap', hve, hbb, c0, c1'⟩ := EndsAt.cells EA.out k p hp
      cases hve
      rw [← hb.cell (p := ⟨b, off + k * 2, none⟩) hbb] at c0
      rw [← hb.cell (p := ⟨b, off + k * 2 + 1, none⟩) hbb] at c1'
      have hki : (0 : Int) ≤ (k : Int) := by omega
      have hkj : (k : Int) < (L.length : Int) := by omega
      have BC : Below wr.heap.size wr (wr.alloc (.cells #[.int .i64 p.1, .int .i64 p.2] 108)) := (Below.refl _ _).alloc (Nat.le_refl _) _
      have HC := hide (icost_any (.int .i64 x.net.n) (.slice a1 x.net.ls.length c1) (.slice a2 x.net.ts.length c2) x.net.ls x.id p.1 p.2 _ hl (RowAt.then (RowAt.then HX.out.links B2) BC))
      obtain ⟨C, hC⟩ : ∃ C, C = costN x.net.ls x.id p.1 p.2 := ⟨_, rfl⟩
      rw [← hC] at HC
      have HAT := hide (show okAt (hitP x.net.ls x.id) L k = !(C == 0) by rw [okAt_eq hp, hC]; rfl)
      clear hC hp gr
      go_wp2_with fail
      refine HC.out.mono ?_
      rintro e w3 ⟨rfl, b3⟩
      have B3 : Below w1.heap.size w1 w3 := (hb.trans (BC.mono hb.size)).trans (b3.mono (by have := BC.size; have := hb.size; omega))
      have B4 : Below w.heap.size w w3 := B1.trans (B3.mono B1.size)
      clear b3 HC c0 c1' t0 t2 t3 t4 t5
      by_cases hc0 : C = 0
      · have HF := hide (show H = false by
          rw [HH.out]
          unfold heardB
          rw [← HL.out]
          have : L.all (hitP x.net.ls x.id) = false := by
            rw [List.all_eq_false]
            refine ⟨L[k], List.getElem_mem hlt, ?_⟩
            have h := HAT.out
            rw [okAt_eq (List.getElem?_eq_getElem hlt), hc0] at h
            rw [h]
            simp
          rw [this, Bool.false_and])
        subst hc0
        go_wp2
        go_ret
        exact ⟨ret_bool HF.out, B4⟩
      · have HT := hide (show okAt (hitP x.net.ls x.id) L k = true by rw [HAT.out]; simpa using hc0)
        go_wp2
        go_roundw
        case rel => exact ⟨k + 1, by omega, by go_num, hide (next_true HNO.out HT.out), B3⟩
        case measure => simp [intOf]; omega
    · have hkj : ¬ (k : Int) < (L.length : Int) := by omega
      have HALL := hide (show L.all (hitP x.net.ls x.id) = true by
        rw [List.all_eq_true]
        intro q hq
        obtain ⟨i, hi, e⟩ := List.mem_iff_getElem.1 hq
        have h := HNO.out i (by omega)
        rw [okAt_eq (List.getElem?_eq_getElem hi), e] at h
        exact h)
      have HAS := hide (ascH_any (.slice ua L.length uc) L _ hLl (RowAt.then EA.out hb))
      have HFIN := hide (show H = (decide (x.heard.length % 2 = 0) && ascB ordH L) by
        rw [HH.out]
        unfold heardB
        rw [← HL.out, HALL.out, Bool.true_and])
      clear HNO gr
      by_cases hpar : x.heard.length % 2 = 0
      · have hp1 : (x.heard.length : Int) % 2 = 0 := by omega
        rw [decide_eq_true hpar, Bool.true_and] at HFIN
        clear hpar
        go_wp2_with fail
        refine HAS.out.mono ?_
        rintro e w3 ⟨rfl, b3⟩
        have B4 : Below w.heap.size w w3 := B2.trans (b3.mono B2.size)
        clear b3 t0 t2 t3 t4 t5
        go_wp2
        go_ret
        exact ⟨ret_bool HFIN.out, B4⟩
      · have hp1 : ¬ (x.heard.length : Int) % 2 = 0 := by omega
        rw [decide_eq_false hpar, Bool.false_and] at HFIN
        clear hpar
        go_wp2
        go_ret
        exact ⟨ret_bool HFIN.out, B2⟩
end Go.Proofs.Ytdaigojpeofmpaa
namespace Go.Proofs.Ytdaigojpeofmpaa
open Go.RowKit

set_option linter.unusedSimpArgs false

theorem nrE_one5 (a : Nr) : ∀ u ∈ nrE a, u.oneCell' = true := by
  intro u hu
  simp [nrE] at hu
  rcases hu with rfl | rfl <;> rfl

/-- 'append(out, xs...)' of a row of structs, both the caller's own -/
theorem append_row5 {α : Type} {enc : α → List Value} {sz bytes : Nat} (hlen : ∀ l : List α, (flat enc l).length = l.length * sz) (hpos : 0 < sz) (hone : ∀ a, ∀ u ∈ enc a, u.oneCell' = true) (hbb : bytes ≤ 100) {P : Program} (w : World) {ops : Array Oper} {rest : List Oper} {o : Oper} {a : Act} {Q : Exit → Act → World → Prop} (hgd : o.guard = none) (s x : Operand) (t : TypeId)
    (ho : o.op = .call { callee := .builtin .append, args := #[s, x], argTypes := #[t, t] }) (base : Nat) (e : TypeId) (ht : P.underlying t = some (.slice e)) (zv : Value) (hzv : zv.cells.size = sz)
    (hinfo : (P.info? e).map (fun i => (i.zero, i.size, i.bytes)) = some (some zv, sz, bytes))
    (v : Value) (l : List α) (hs : a.eval s = v) (hown : w.ownsRow base e sz v l.length (flat enc l))
    (base2 : Nat) (v2 : Value) (l2 : List α) (hx : a.eval x = v2) (hown2 : w.ownsRow base2 e sz v2 l2.length (flat enc l2))
    (hl : l.length + l2.length ≤ 1000000000) (hbase : base ≤ w.heap.size)
    (h : ∀ v' w', w'.ownsRow base e sz v' (l ++ l2).length (flat enc (l ++ l2)) → w.grownBy w' v.ownBlock → wpList P ops Q rest (a.put o.dst v') w') : wpList P ops Q (o :: rest) a w := by
  obtain ⟨i0, hi, hz0, hz1, hz2⟩ := info_parts hinfo
  rcases hown2.2 with ⟨e1, e2⟩ | ⟨g, cap, cur, e1, _⟩
  · have e3 : l2 = [] := List.eq_nil_of_length_eq_zero e2
    subst e3
    refine wpList_append_own_none hgd s x t ho base e i0 sz ht hi v l.length (flat enc l) hs hown (hx.trans e1) ?_
    exact h v w (by simpa using hown) (grown_refl w _)
  · refine wpList_append_own w hgd s x t ho base e i0 zv sz bytes ht hi hz0 hz1 hz2 hzv hpos v l.length (flat enc l) hs hown ⟨g, 0, none⟩ l2.length cap (flat enc l2) (hx.trans e1) (hlen l2) (hown2.cells (by rw [e1]; rfl)) ?_ (by unfold maxLen; omega) ?_ hbase ?_
    · intro u hu
      simp only [flat, List.mem_flatMap] at hu
      obtain ⟨b, _, hb⟩ := hu
      exact hone b u hb
    · have : (l.length + l2.length) * bytes ≤ 1000000000 * 100 := Nat.mul_le_mul hl hbb
      omega
    · intro v' w' h1 h2 _
      have e1 : flat enc l ++ flat enc l2 = flat enc (l ++ l2) := by rw [flat_append]
      rw [e1] at h1
      exact h v' w' (by simpa using h1) h2

abbrev putR5 (W : World) (g : Nat) (x : RecD) (v : Value) : World := (((((((W.setCell ⟨g, 0, none⟩ (.int .i64 x.area)).setCell ⟨g, 1, none⟩ (.int .i64 x.kind)).setCell ⟨g, 2, none⟩ (.int .i64 x.owner)).setCell ⟨g, 3, none⟩ (.int .i64 x.key)).setCell ⟨g, 4, none⟩ (.int .i64 x.seq)).setCell ⟨g, 5, none⟩ v).setCell ⟨g, 6, none⟩ (.int .i64 x.cost)).setCell ⟨g, 7, none⟩ (.bool x.far)

set_option maxHeartbeats 1000000 in
theorem fin85 {W : World} {B0 : Nat} {c0 c1 c2 c3 c4 c5 c6 c7 : Value} (x : RecD) (v : Value) (hr : W.heap[B0]? = some (.cells #[c0, c1, c2, c3, c4, c5, c6, c7] 56)) :
    (putR5 W B0 x v).heap[B0]? = some (.cells (recC x v) 56) := by
  have k1 := heap_setCell_same _ _ 0 _ _ (.int .i64 x.area) hr
  have k2 := heap_setCell_same _ _ 1 _ _ (.int .i64 x.kind) k1
  have k3 := heap_setCell_same _ _ 2 _ _ (.int .i64 x.owner) k2
  have k4 := heap_setCell_same _ _ 3 _ _ (.int .i64 x.key) k3
  have k5 := heap_setCell_same _ _ 4 _ _ (.int .i64 x.seq) k4
  have k6 := heap_setCell_same _ _ 5 _ _ v k5
  have k7 := heap_setCell_same _ _ 6 _ _ (.int .i64 x.cost) k6
  have k8 := heap_setCell_same _ _ 7 _ _ (.bool x.far) k7
  simp only [List.setIfInBounds_toArray, List.set_cons_zero, List.set_cons_succ] at k8
  unfold putR5 recC
  exact k8

theorem grown85 (W : World) (g : Nat) (x : RecD) (v : Value) : W.grownBy (putR5 W g x v) (some g) :=
  grown_trans (grown_trans (grown_trans (grown_trans (grown_trans (grown_trans (grown_trans (grown_set W g _ _) (grown_set _ g _ _)) (grown_set _ g _ _)) (grown_set _ g _ _)) (grown_set _ g _ _)) (grown_set _ g _ _)) (grown_set _ g _ _)) (grown_set _ g _ _)

theorem nr_flat5 (l : List Nr) : (flat nrE l).length = l.length * 2 := flat_len nrE_len l

theorem own_lit05 (W : World) (g base : Nat) (hg : g = W.heap.size) (hb : base ≤ W.heap.size) : (W.alloc (.cells #[] 120)).ownsRow base 120 2 (.slice (some ⟨g, 0, none⟩) 0 0) 0 (flat nrE []) := by
  subst hg
  exact World.ownsRow_lit W #[] 0 hb (by unfold maxLen; omega) (by simp)

set_option maxRecDepth 100000 in
set_option maxHeartbeats 1000000 in
theorem copy5_any (x : RecD) (v : Value) (base : Nat) (w : World) (ho : w.ownsRow base 120 2 v x.near.length (flat nrE x.near)) (hn : x.near.length ≤ 1048576) :
    Calls Try.prog 77 #[.agg (recC x v)] w fun e w' => ∃ v', e = .returned (.agg (recC x v')) ∧ w'.ownsRow w.heap.size 120 2 v' x.near.length (flat nrE x.near) ∧ Below w.heap.size w w' := by
  obtain ⟨va, vc, rfl⟩ := owns_lenS ho
  have OW := hide ho
  clear ho
  go_enter Try.func77, Try.ntmps77
  unfold recC
  go_wp2_with (first
    | (at_builtin; refine append_row5 nr_flat5 (by omega) nrE_one5 (by omega) _ rfl _ _ 54 rfl (w.heap.size + 2) 120 Try.underlying54 (nrV nr0) rfl Try.infoNr _ [] rfl ?own0 base _ x.near rfl (((OW.out.alloc _).alloc _).alloc _) (by simp; omega) (by simp) ?_))
  case own0 =>
    exact own_lit05 _ _ _ (by simp) (by simp)
  intro v' w4 hown' hgrow
  obtain ⟨na, nc, rfl⟩ := owns_lenS hown'
  simp only [Value.ownBlock] at hgrow
  have hb4 : Below w.heap.size w w4 := ((((Below.refl w.heap.size w).alloc (by simp) _).alloc (by simp) _).alloc (by simp; omega) _).grown hgrow (by simp; omega) (fun k hk => by simp at hk; omega)
  have q0 : w4.heap[w.heap.size]? = some (.cells #[.int .i64 x.area, .int .i64 x.kind, .int .i64 x.owner, .int .i64 x.key, .int .i64 x.seq, .slice va x.near.length vc, .int .i64 x.cost, .bool x.far] 56) := by
    rw [hgrow.block w.heap.size (by simp; omega) (by simp; omega), Below.heap_alloc _ _ _ (by simp; omega), Below.heap_alloc _ _ _ (by simp), heap_alloc_new]
  have q1 : w4.heap[w.heap.size + 1]? = some (.cells #[.int .i64 0, .int .i64 0, .int .i64 0, .int .i64 0, .int .i64 0, .slice none 0 0, .int .i64 0, .bool false] 56) := by
    rw [hgrow.block (w.heap.size + 1) (by simp) (by simp), Below.heap_alloc _ _ _ (by simp)]
    have e := heap_alloc_new (w.alloc (.cells #[.int .i64 x.area, .int .i64 x.kind, .int .i64 x.owner, .int .i64 x.key, .int .i64 x.seq, .slice va x.near.length vc, .int .i64 x.cost, .bool x.far] 56)) (.cells #[.int .i64 0, .int .i64 0, .int .i64 0, .int .i64 0, .int .i64 0, .slice none 0 0, .int .i64 0, .bool false] 56)
    rw [show (w.alloc (.cells #[.int .i64 x.area, .int .i64 x.kind, .int .i64 x.owner, .int .i64 x.key, .int .i64 x.seq, .slice va x.near.length vc, .int .i64 x.cost, .bool x.far] 56)).heap.size = w.heap.size + 1 by simp] at e
    exact e
  have r5 := cells_at q0 5
  have f0 := frozen_at q0
  simp at r5
  have q2 := heap_setCell_same w4 w.heap.size 5 _ _ (.slice na x.near.length nc) q0
  simp only [List.setIfInBounds_toArray, List.set_cons_zero, List.set_cons_succ] at q2
  have q3 : (w4.setCell ⟨w.heap.size, 5, none⟩ (.slice na x.near.length nc)).heap[w.heap.size + 1]? = some (.cells #[.int .i64 0, .int .i64 0, .int .i64 0, .int .i64 0, .int .i64 0, .slice none 0 0, .int .i64 0, .bool false] 56) := by
    rw [heap_setCell_other w4 ⟨w.heap.size, 5, none⟩ _ _ (by show w.heap.size + 1 ≠ w.heap.size; omega)]; exact q1
  have y0 := cells_at q2 0
  have y1 := cells_at q2 1
  have y2 := cells_at q2 2
  have y3 := cells_at q2 3
  have y4 := cells_at q2 4
  have y5 := cells_at q2 5
  have y6 := cells_at q2 6
  have y7 := cells_at q2 7
  simp at y0 y1 y2 y3 y4 y5 y6 y7
  have u0 := cells_at q3 0
  have u1 := cells_at q3 1
  have u2 := cells_at q3 2
  have u3 := cells_at q3 3
  have u4 := cells_at q3 4
  have u5 := cells_at q3 5
  have u6 := cells_at q3 6
  have u7 := cells_at q3 7
  simp at u0 u1 u2 u3 u4 u5 u6 u7
  have fu := frozen_at q3
  have F := fin85 x (.slice na x.near.length nc) q3
  have hown2 := owns_set (j := 5) (u := .slice na x.near.length nc) hown' (show w.heap.size < w.heap.size + 2 by omega)
  have G8 := grown85 (w4.setCell ⟨w.heap.size, 5, none⟩ (.slice na x.near.length nc)) (w.heap.size + 1) x (.slice na x.near.length nc)
  have hown3 := owns_baseS (b0 := w.heap.size) (hown2.kept G8 (by
    cases hv : (Value.slice na x.near.length nc).ownBlock with
    | none => exact .inl rfl
    | some g => exact .inr (fun e => by have := (hown2.lt g hv).1; simp at e; omega))) (by omega)
  have hb5 : Below w.heap.size w (putR5 (w4.setCell ⟨w.heap.size, 5, none⟩ (.slice na x.near.length nc)) (w.heap.size + 1) x (.slice na x.near.length nc)) := (hb4.setCell (p := ⟨w.heap.size, 5, none⟩) (Nat.le_refl _) _).grown G8 (by have := lt_of_heap q3; omega) (fun k hk => by simp at hk; omega)
  have FF := hide F
  have H3 := hide hown3
  have H5 := hide hb5
  clear F hown3 hb5 hown2 G8 hb4 hown' hgrow q0 q1 q2 q3 OW
  go_wp2_with fail
  (try simp only [Exit.inBlock, Exit.then])
  refine bodyPost_ret (results_cell_row rfl _ _ (w.heap.size + 1) 56 (recC _ _) (0, 0) _ rfl FF.out Try.underlying56 rfl (by kernel_rfl)) rfl ?_
  exact ⟨_, rfl, H3.out, H5.out⟩

set_option maxRecDepth 100000 in
set_option maxHeartbeats 1000000 in
theorem ownRec_any (x : RecD) (v : Value) (base : Nat) (w : World) (ho : w.ownsRow base 120 2 v x.near.length (flat nrE x.near)) (hn : x.near.length ≤ 1048576) :
    Calls Try.prog 53 #[.agg (recC x v)] w fun e w' => ∃ v', e = .returned (.agg (recC x v')) ∧ w'.ownsRow w.heap.size 120 2 v' x.near.length (flat nrE x.near) ∧ Below w.heap.size w w' := by
  obtain ⟨va, vc, rfl⟩ := owns_lenS ho
  have OW := hide ho
  clear ho
  go_enter Try.func53, Try.ntmps53
  unfold recC
  go_wp2_with (first
    | (at_builtin; refine append_row5 nr_flat5 (by omega) nrE_one5 (by omega) _ rfl _ _ 54 rfl (w.heap.size + 2) 120 Try.underlying54 (nrV nr0) rfl Try.infoNr _ [] rfl ?own0 base _ x.near rfl ((OW.out.alloc _).alloc _) (by simp; omega) (by simp) ?_))
  case own0 => exact World.ownsRow_nil _ _ _ _
  intro v' w4 hown' hgrow
  obtain ⟨na, nc, rfl⟩ := owns_lenS hown'
  simp only [Value.ownBlock] at hgrow
  have hb4 : Below w.heap.size w w4 := (((Below.refl w.heap.size w).alloc (by simp) _).alloc (by simp) _).grown hgrow (by simp; omega) (fun k hk => by simp at hk)
  have q0 : w4.heap[w.heap.size]? = some (.cells #[.int .i64 x.area, .int .i64 x.kind, .int .i64 x.owner, .int .i64 x.key, .int .i64 x.seq, .slice va x.near.length vc, .int .i64 x.cost, .bool x.far] 56) := by
    rw [hgrow.block w.heap.size (by simp; omega) (by simp), Below.heap_alloc _ _ _ (by simp), heap_alloc_new]
  have q1 : w4.heap[w.heap.size + 1]? = some (.cells #[.int .i64 0, .int .i64 0, .int .i64 0, .int .i64 0, .int .i64 0, .slice none 0 0, .int .i64 0, .bool false] 56) := by
    rw [hgrow.block (w.heap.size + 1) (by simp) (by simp)]
    have e := heap_alloc_new (w.alloc (.cells #[.int .i64 x.area, .int .i64 x.kind, .int .i64 x.owner, .int .i64 x.key, .int .i64 x.seq, .slice va x.near.length vc, .int .i64 x.cost, .bool x.far] 56)) (.cells #[.int .i64 0, .int .i64 0, .int .i64 0, .int .i64 0, .int .i64 0, .slice none 0 0, .int .i64 0, .bool false] 56)
    rw [show (w.alloc (.cells #[.int .i64 x.area, .int .i64 x.kind, .int .i64 x.owner, .int .i64 x.key, .int .i64 x.seq, .slice va x.near.length vc, .int .i64 x.cost, .bool x.far] 56)).heap.size = w.heap.size + 1 by simp] at e
    exact e
  have r5 := cells_at q0 5
  have f0 := frozen_at q0
  simp at r5
  have q2 := heap_setCell_same w4 w.heap.size 5 _ _ (.slice na x.near.length nc) q0
  simp only [List.setIfInBounds_toArray, List.set_cons_zero, List.set_cons_succ] at q2
  have q3 : (w4.setCell ⟨w.heap.size, 5, none⟩ (.slice na x.near.length nc)).heap[w.heap.size + 1]? = some (.cells #[.int .i64 0, .int .i64 0, .int .i64 0, .int .i64 0, .int .i64 0, .slice none 0 0, .int .i64 0, .bool false] 56) := by
    rw [heap_setCell_other w4 ⟨w.heap.size, 5, none⟩ _ _ (by show w.heap.size + 1 ≠ w.heap.size; omega)]; exact q1
  have y0 := cells_at q2 0
  have y1 := cells_at q2 1
  have y2 := cells_at q2 2
  have y3 := cells_at q2 3
  have y4 := cells_at q2 4
  have y5 := cells_at q2 5
  have y6 := cells_at q2 6
  have y7 := cells_at q2 7
  simp at y0 y1 y2 y3 y4 y5 y6 y7
  have u0 := cells_at q3 0
  have u1 := cells_at q3 1
  have u2 := cells_at q3 2
  have u3 := cells_at q3 3
  have u4 := cells_at q3 4
  have u5 := cells_at q3 5
  have u6 := cells_at q3 6
  have u7 := cells_at q3 7
  simp at u0 u1 u2 u3 u4 u5 u6 u7
  have fu := frozen_at q3
  have F := fin85 x (.slice na x.near.length nc) q3
  have hown2 := owns_set (j := 5) (u := .slice na x.near.length nc) hown' (show w.heap.size < w.heap.size + 2 by omega)
  have G8 := grown85 (w4.setCell ⟨w.heap.size, 5, none⟩ (.slice na x.near.length nc)) (w.heap.size + 1) x (.slice na x.near.length nc)
  have hown3 := owns_baseS (b0 := w.heap.size) (hown2.kept G8 (by
    cases hv : (Value.slice na x.near.length nc).ownBlock with
    | none => exact .inl rfl
    | some g => exact .inr (fun e => by have := (hown2.lt g hv).1; simp at e; omega))) (by omega)
  have hb5 : Below w.heap.size w (putR5 (w4.setCell ⟨w.heap.size, 5, none⟩ (.slice na x.near.length nc)) (w.heap.size + 1) x (.slice na x.near.length nc)) := (hb4.setCell (p := ⟨w.heap.size, 5, none⟩) (Nat.le_refl _) _).grown G8 (by have := lt_of_heap q3; omega) (fun k hk => by simp at hk; omega)
  have FF := hide F
  have H3 := hide hown3
  have H5 := hide hb5
  clear F hown3 hb5 hown2 G8 hb4 hown' hgrow q0 q1 q2 q3 OW
  go_wp2_with fail
  (try simp only [Exit.inBlock, Exit.then])
  refine bodyPost_ret (results_cell_row rfl _ _ (w.heap.size + 1) 56 (recC _ _) (0, 0) _ rfl FF.out Try.underlying56 rfl (by kernel_rfl)) rfl ?_
  exact ⟨_, rfl, H3.out, H5.out⟩
end Go.Proofs.Ytdaigojpeofmpaa
namespace Go.Proofs.Ytdaigojpeofmpaa
open Go.RowKit

theorem append_struct5 {α : Type} {enc : α → List Value} {sz bytes : Nat} (hlen : ∀ a, (enc a).length = sz) (hpos : 0 < sz) (hbb : bytes ≤ 100) {P : Program} (w : World) {ops : Array Oper} {rest : List Oper} {o : Oper} {a : Act} {Q : Exit → Act → World → Prop} (hgd : o.guard = none) (s x : Operand) (t : TypeId)
    (ho : o.op = .call { callee := .builtin .append, args := #[s, x], argTypes := #[t, t] }) (base : Nat) (e : TypeId) (ht : P.underlying t = some (.slice e)) (zv : Value) (hzv : zv.cells.size = sz)
    (hinfo : (P.info? e).map (fun i => (i.zero, i.size, i.bytes)) = some (some zv, sz, bytes))
    (v : Value) (l : List α) (y : α) (hone : ∀ u ∈ enc y, u.oneCell' = true) (hs : a.eval s = v) (hown : w.ownsRow base e sz v l.length (flat enc l))
    (ad : Addr) (c : Nat) (hx : a.eval x = .slice (some ad) 1 c) (hnews : ∀ j u, (enc y)[j]? = some u → w.cell? (ad.add j) = some u)
    (hl : l.length + 1 ≤ 1000000000) (hbase : base ≤ w.heap.size)
    (h : ∀ v' w', w'.ownsRow base e sz v' (l ++ [y]).length (flat enc (l ++ [y])) → w.grownBy w' v.ownBlock → wpList P ops Q rest (a.put o.dst v') w') : wpList P ops Q (o :: rest) a w := by
  obtain ⟨i0, hi, hz0, hz1, hz2⟩ := info_parts hinfo
  refine wpList_append_own w hgd s x t ho base e i0 zv sz bytes ht hi hz0 hz1 hz2 hzv hpos v l.length (flat enc l) hs hown ad 1 c (enc y) hx (by rw [hlen]; omega) hnews hone (by unfold maxLen; omega) ?_ hbase ?_
  · have : (l.length + 1) * bytes ≤ 1000000000 * 100 := Nat.mul_le_mul hl hbb
    omega
  · intro v' w' h1 h2 _
    have e1 : flat enc l ++ enc y = flat enc (l ++ [y]) := by rw [flat_append]; simp [flat]
    rw [e1] at h1
    exact h v' w' (by simpa using h1) h2

theorem encP_one (x : RecD) (a : Option Addr) (n c : Nat) : ∀ u ∈ encP (x, .slice a n c), u.oneCell' = true := by
  intro u hu
  simp only [encP, List.mem_cons, List.not_mem_nil, or_false] at hu
  rcases hu with rfl | rfl | rfl | rfl | rfl | rfl | rfl | rfl <;> rfl

theorem near_row_ne {W : World} {lo lo2 hi n size2 : Nat} {v : Value} {xs : List Value} {q : RP} (hq : NearOwn W lo hi q) (hr : W.ownsRow lo2 56 size2 v n xs) (j : Nat) (hj : q.2.ownBlock = some j) : some j ≠ v.ownBlock := by
  intro e
  rcases hr.2 with ⟨h0, _⟩ | ⟨g, cap, cur, hv, _, hh, _⟩
  · rw [h0] at e; simp [Value.ownBlock] at e
  · rw [hv] at e
    simp [Value.ownBlock] at e
    subst e
    exact own_type_ne2 hq.1 hh (by decide) hj.symm

/-- one more record, its row behind all that was there -/
theorem RecsOwn.push {W Wa W2 : World} {lo : Nat} {v v' : Value} {qs : List RP} {p : RP} (h : RecsOwn W lo W.heap.size v qs) (hb : Below W.heap.size W Wa) (hlo : lo ≤ W.heap.size) (hp : NearOwn Wa W.heap.size Wa.heap.size p)
    (row : W2.ownsRow lo 56 8 v' (qs.length + 1) (flat encP (qs ++ [p]))) (hg : Wa.grownBy W2 v.ownBlock) : RecsOwn W2 lo W2.heap.size v' (qs ++ [p]) where
  row := by simpa using row
  top := fun k hk => (row.lt k hk).2
  apart := apart_add h.apart h.nears (fun k hk => (hp.1.lt k hk).1)
  nears := by
    have rowa := owns_below h.row hb (Nat.le_refl _)
    have key : ∀ q, NearOwn Wa lo Wa.heap.size q → NearOwn W2 lo W2.heap.size q := fun q hq =>
      ⟨owns_keepB hq.1 (fun j hj => hg.block j (hq.2 j hj) (near_row_ne hq rowa j hj)), fun k hk => Nat.lt_of_lt_of_le (hq.2 k hk) hg.size⟩
    intro q hq
    rcases List.mem_append.1 hq with h1 | h1
    · exact key q (((h.nears q h1).keep (W' := Wa) (fun j _ h2 _ => hb.block j h2)).wide (Nat.le_refl _) hb.size)
    · have : q = p := by simpa using h1
      subst this
      exact key q (hp.wide hlo (Nat.le_refl _))

theorem recs_lit (W : World) (lo : Nat) (hb : lo ≤ W.heap.size) : RecsOwn (W.alloc (.cells #[] 56)) lo (W.alloc (.cells #[] 56)).heap.size (.slice (some ⟨W.heap.size, 0, none⟩) 0 0) [] where
  row := World.ownsRow_lit W #[] 0 hb (by unfold maxLen; omega) (by simp)
  top := by intro k hk; simp [Value.ownBlock] at hk; subst hk; simp
  nears := by simp
  apart := by simp

theorem filter_take {ps : List RP} {k : Nat} {p : RP} (f : RecD → Bool) (h : ps[k]? = some p) : (fsts (ps.take (k + 1))).filter f = (fsts (ps.take k)).filter f ++ (if f p.1 then [p.1] else []) := by
  have e : fsts (ps.take (k + 1)) = fsts (ps.take k) ++ [p.1] := map_take h
  rw [e, List.filter_append]
  congr 1
  by_cases hf : f p.1 <;> simp [hf]
end Go.Proofs.Ytdaigojpeofmpaa
namespace Go.Proofs.Ytdaigojpeofmpaa
open Go.RowKit

def sameKeyB (x y : RecD) : Bool := x.area == y.area && x.kind == y.kind && x.owner == y.owner && x.key == y.key

def sameBodyB (x y : RecD) : Bool := sameKeyB x y && x.cost == y.cost && x.far == y.far && decide (x.near = y.near)

set_option maxRecDepth 100000 in
set_option maxHeartbeats 4000000 in
theorem ssameKey_any (v1 v2 : Value) (x y : RecD) (w : World) : Calls Try.prog 54 #[.agg (recC x v1), .agg (recC y v2)] w fun e w' => e = .returned (.bool (sameKeyB x y)) ∧ Below w.heap.size w w' := by
  obtain ⟨a0, a1, a2, a3, a4, ns, a6, a7⟩ := x
  obtain ⟨b0, b1, b2, b3, b4, ms, b6, b7⟩ := y
  unfold recC
  simp only []
  go_enter Try.func54, Try.ntmps54
  go_wp2
  all_goals go_ret
  all_goals refine ⟨ret_bool ?_, below_two _ _⟩
  all_goals (simp only [sameKeyB]; grind)

theorem near_neq (w : World) (a b a' b' : Int) : (binOp .neq 120 (.agg #[.int .i64 a, .int .i64 b]) (.agg #[.int .i64 a', .int .i64 b'])).run Try.prog w = .ok (.bool (!decide ((⟨a, b⟩ : Nr) = ⟨a', b'⟩))) w := by
  go_simp
  by_cases h1 : a = a' <;> by_cases h2 : b = b' <;> simp [h1, h2]

end Go.Proofs.Ytdaigojpeofmpaa
namespace Go.Proofs.Ytdaigojpeofmpaa
open Go.RowKit

def keyC (x : RecD) : Array Value := #[.int .i64 x.area, .int .i64 x.kind, .int .i64 x.owner, .int .i64 x.key]

set_option maxRecDepth 100000 in
set_option maxHeartbeats 400000 in
theorem keyOf_any (v1 : Value) (x : RecD) (w : World) : Calls Try.prog 52 #[.agg (recC x v1)] w fun e w' => e = .returned (.agg (keyC x)) ∧ Below w.heap.size w w' := by
  obtain ⟨a0, a1, a2, a3, a4, ns, a6, a7⟩ := x
  unfold recC keyC
  simp only []
  go_enter Try.func52, Try.ntmps52
  go_wp2
  go_returns
  exact ⟨rfl, below_two _ _⟩

theorem keyOf_raw (a0 a1 a2 a3 a4 : Int) (v : Value) (a6 : Int) (a7 : Bool) (w : World) : Calls Try.prog 52 #[.agg #[.int .i64 a0, .int .i64 a1, .int .i64 a2, .int .i64 a3, .int .i64 a4, v, .int .i64 a6, .bool a7]] w fun e w' => e = .returned (.agg #[.int .i64 a0, .int .i64 a1, .int .i64 a2, .int .i64 a3]) ∧ Below w.heap.size w w' :=
  keyOf_any v ⟨a0, a1, a2, a3, a4, [], a6, a7⟩ w

theorem Try.info3k : (Try.prog.info? 3).map (fun i => (i.zero, i.size, i.bytes)) = some (some (.int .i64 0), 1, 8) := by kernel_rfl

theorem key_eql (w : World) (a b c d a' b' c' d' : Int) : (binOp .eql 88 (.agg #[.int .i64 a, .int .i64 b, .int .i64 c, .int .i64 d]) (.agg #[.int .i64 a', .int .i64 b', .int .i64 c', .int .i64 d'])).run Try.prog w = .ok (.bool (a == a' && b == b' && c == c' && d == d')) w := by
  obtain ⟨i0, hi, _⟩ := info_parts Try.info3k
  have hu : Try.prog.underlying 88 = some (.array 4 3) := by kernel_rfl
  have u3 : Try.prog.underlying 3 = some (.int .i64) := by kernel_rfl
  have hc : Try.prog.cellsOf 3 = 1 := by kernel_rfl
  have hp : Try.prog.plainKey 3 = true := by kernel_rfl
  have pt : ∀ (xs : Array Value) (off : Nat) (u : Value), xs[off]? = some u → (Go.part 3 xs off).run Try.prog w = .ok u w := fun xs off u h => run_part_plain w hp h
  have eqi : ∀ (n : Nat) (x y : Int), (Op.equalIn (n + 1) 3 (.int .i64 x) (.int .i64 y)).run Try.prog w = .ok (x == y) w := fun n x y => run_equalIn_int w n 3 .i64 .i64 x y u3
  go_simp
  have e1 : (Op.equalIn 10000 88 (.agg #[.int .i64 a, .int .i64 b, .int .i64 c, .int .i64 d]) (.agg #[.int .i64 a', .int .i64 b', .int .i64 c', .int .i64 d'])).run Try.prog w = .ok (a == a' && b == b' && c == c' && d == d') w := by
    rw [run_equalIn_array w 9999 _ _ hu hi, hc]
    show (Op.eqItems 9999 3 1 _ _ [0, 1, 2, 3]).run Try.prog w = _
    simp only [Op.eqItems, Sem.run_bind]
    rw [pt _ _ (.int .i64 a) rfl]
    simp only [Result.andThen_ok]
    rw [pt _ _ (.int .i64 a') rfl]
    simp only [Result.andThen_ok]
    rw [eqi 9998 a a']
    simp only [Result.andThen_ok]
    cases a == a'
    · rfl
    simp only [Bool.not_true, Bool.false_eq_true, if_false, Sem.run_bind, Bool.true_and]
    rw [pt _ _ (.int .i64 b) rfl]
    simp only [Result.andThen_ok]
    rw [pt _ _ (.int .i64 b') rfl]
    simp only [Result.andThen_ok]
    rw [eqi 9998 b b']
    simp only [Result.andThen_ok]
    cases b == b'
    · rfl
    simp only [Bool.not_true, Bool.false_eq_true, if_false, Sem.run_bind, Bool.true_and]
    rw [pt _ _ (.int .i64 c) rfl]
    simp only [Result.andThen_ok]
    rw [pt _ _ (.int .i64 c') rfl]
    simp only [Result.andThen_ok]
    rw [eqi 9998 c c']
    simp only [Result.andThen_ok]
    cases c == c'
    · rfl
    simp only [Bool.not_true, Bool.false_eq_true, if_false, Sem.run_bind, Bool.true_and]
    rw [pt _ _ (.int .i64 d) rfl]
    simp only [Result.andThen_ok]
    rw [pt _ _ (.int .i64 d') rfl]
    simp only [Result.andThen_ok]
    rw [eqi 9998 d d']
    simp only [Result.andThen_ok]
    cases d == d'
    · rfl
    · rfl
  rw [e1]
  rfl

end Go.Proofs.Ytdaigojpeofmpaa
