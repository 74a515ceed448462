/-
  impl's order of records, lists in order, impl.StoreOk: their contracts.
-/
import Derived.Test.YtcimbiinljcifaaGreatLe6
import Derived.Test.YtcimbiinljcifaaGreatLe8
import Derived.Test.YtcimbiinljcifaaGreatLe13
namespace Go.Proofs.YtcimbiinljcifaaGreat
open Go.RowKit

def ordR (x y : RecD) : Int := cmpK (cmpN x.area y.area) (cmpN x.kind y.kind) (cmpN x.owner y.owner) (cmpN x.key y.key)

theorem ordR_neg (x y : RecD) : decide (ordR x y < 0) = beforeB x y := cmpK_neg x y

def storeB (xs : List RecD) : Bool := decide (xs.length ≤ 150) && allOk recOkB xs && ascB ordR xs

set_option maxRecDepth 100000 in
set_option maxHeartbeats 1000000 in
theorem orderKeyed_any (v1 v2 : Value) (x y : RecD) (w : World) : Calls Tryz.prog 106 #[.agg (recC x v1), .agg (recC y v2)] w fun e w' => e = .returned (.int .i64 (ordR x y)) ∧ Below w.heap.size w w' := by
  have HK := hide keyOf_raw
  unfold ordR
  have HO := hide (orderKeys_any x.area x.kind x.owner x.key y.area y.kind y.owner y.key)
  obtain ⟨r, hr⟩ : ∃ r, r = cmpK (cmpN x.area y.area) (cmpN x.kind y.kind) (cmpN x.owner y.owner) (cmpN x.key y.key) := ⟨_, rfl⟩
  rw [← hr] at HO ⊢
  clear hr
  unfold recC at *
  go_enter Tryz.func106, Tryz.ntmps106
  go_wp2
  obtain ⟨w1, hw1⟩ : ∃ w1, w1 = (w.alloc (.cells #[.int .i64 x.area, .int .i64 x.kind, .int .i64 x.owner, .int .i64 x.key, .int .i64 x.seq, v1, .int .i64 x.cost, .bool x.far] 40)).alloc (.cells #[.int .i64 y.area, .int .i64 y.kind, .int .i64 y.owner, .int .i64 y.key, .int .i64 y.seq, v2, .int .i64 y.cost, .bool y.far] 40) := ⟨_, rfl⟩
  have B1 : Below w.heap.size w w1 := by rw [hw1]; exact below_two _ _
  have p0 : w1.heap[w.heap.size]? = some (.cells #[.int .i64 x.area, .int .i64 x.kind, .int .i64 x.owner, .int .i64 x.key, .int .i64 x.seq, v1, .int .i64 x.cost, .bool x.far] 40) := by rw [hw1, Below.heap_alloc _ _ _ (by simp), heap_alloc_new]
  have q0 : w1.heap[w.heap.size + 1]? = some (.cells #[.int .i64 y.area, .int .i64 y.kind, .int .i64 y.owner, .int .i64 y.key, .int .i64 y.seq, v2, .int .i64 y.cost, .bool y.far] 40) := by
    rw [hw1]
    have := heap_alloc_new (w.alloc (.cells #[.int .i64 x.area, .int .i64 x.kind, .int .i64 x.owner, .int .i64 x.key, .int .i64 x.seq, v1, .int .i64 x.cost, .bool x.far] 40)) (.cells #[.int .i64 y.area, .int .i64 y.kind, .int .i64 y.owner, .int .i64 y.key, .int .i64 y.seq, v2, .int .i64 y.cost, .bool y.far] 40)
    simpa using this
  rw [← hw1]
  clear hw1
  have s0 := cells_at p0 0
  have s1 := cells_at p0 1
  have s2 := cells_at p0 2
  have s3 := cells_at p0 3
  have s4 := cells_at p0 4
  have s5 := cells_at p0 5
  have s6 := cells_at p0 6
  have s7 := cells_at p0 7
  simp at s0 s1 s2 s3 s4 s5 s6 s7
  have t0 := cells_at q0 0
  have t1 := cells_at q0 1
  have t2 := cells_at q0 2
  have t3 := cells_at q0 3
  have t4 := cells_at q0 4
  have t5 := cells_at q0 5
  have t6 := cells_at q0 6
  have t7 := cells_at q0 7
  simp at t0 t1 t2 t3 t4 t5 t6 t7
  have hz0 := lt_of_heap p0
  have hz1 := lt_of_heap q0
  clear p0 q0
  have hz2 := B1.size
  go_region_held3 (fun W => W.cell? ⟨w.heap.size, 0, none⟩ = some (.int .i64 x.area) ∧ W.cell? ⟨w.heap.size, 1, none⟩ = some (.int .i64 x.kind) ∧ W.cell? ⟨w.heap.size, 2, none⟩ = some (.int .i64 x.owner) ∧ W.cell? ⟨w.heap.size, 3, none⟩ = some (.int .i64 x.key) ∧ W.cell? ⟨w.heap.size, 4, none⟩ = some (.int .i64 x.seq) ∧ W.cell? ⟨w.heap.size, 5, none⟩ = some (v1) ∧ W.cell? ⟨w.heap.size, 6, none⟩ = some (.int .i64 x.cost) ∧ W.cell? ⟨w.heap.size, 7, none⟩ = some (.bool x.far) ∧ W.cell? ⟨w.heap.size + 1, 0, none⟩ = some (.int .i64 y.area) ∧ W.cell? ⟨w.heap.size + 1, 1, none⟩ = some (.int .i64 y.kind) ∧ W.cell? ⟨w.heap.size + 1, 2, none⟩ = some (.int .i64 y.owner) ∧ W.cell? ⟨w.heap.size + 1, 3, none⟩ = some (.int .i64 y.key) ∧ W.cell? ⟨w.heap.size + 1, 4, none⟩ = some (.int .i64 y.seq) ∧ W.cell? ⟨w.heap.size + 1, 5, none⟩ = some (v2) ∧ W.cell? ⟨w.heap.size + 1, 6, none⟩ = some (.int .i64 y.cost) ∧ W.cell? ⟨w.heap.size + 1, 7, none⟩ = some (.bool y.far)) (first | go_keep | (refine ⟨?_, ?_, ?_, ?_, ?_, ?_, ?_, ?_, ?_, ?_, ?_, ?_, ?_, ?_, ?_, ?_⟩ <;> (rw [b4.cell (Nat.lt_of_lt_of_le (Nat.lt_of_lt_of_le (by assumption) b2.size) b3.size), b3.cell (Nat.lt_of_lt_of_le (by assumption) b2.size), b2.cell (by assumption)]; assumption)) | (refine ⟨?_, ?_, ?_, ?_, ?_, ?_, ?_, ?_, ?_, ?_, ?_, ?_, ?_, ?_, ?_, ?_⟩ <;> (rw [b3.cell (Nat.lt_of_lt_of_le (by assumption) b2.size), b2.cell (by assumption)]; assumption)) | (refine ⟨?_, ?_, ?_, ?_, ?_, ?_, ?_, ?_, ?_, ?_, ?_, ?_, ?_, ?_, ?_, ?_⟩ <;> (rw [b2.cell (by assumption)]; assumption))) (first | (go_at_call 132; refine (HO.out _).mono ?_; rintro e w4 ⟨rfl, b4⟩) | (have hb2 := b2; refine (HK.out _ _ _ _ _ _ _ _ _).mono ?_; rintro e w3 ⟨rfl, b3⟩) | (refine (HK.out _ _ _ _ _ _ _ _ _).mono ?_; rintro e w2 ⟨rfl, b2⟩))
  have B2 : Below w.heap.size w w2 := B1.drew.trans (b2.mono B1.size)
  have B3 : Below w.heap.size w w3 := B2.trans (b3.mono B2.size)
  have B4 : Below w.heap.size w w4 := B3.trans (b4.mono B3.size)
  go_wp2
  go_ret
  exact ⟨rfl, B4⟩

set_option maxRecDepth 100000 in
set_option maxHeartbeats 4000000 in
theorem ascRec_any (v : Value) (ps : List RP) (w : World) (hls : ps.length ≤ 1048576) (hv : RecsAt w v ps w.heap.size) :
    Calls Tryz.prog 122 #[v, .func (.func 106) #[] #[]] w fun e w' => e = .returned (.bool (ascB ordR (fsts ps))) ∧ Below w.heap.size w w' := by
  obtain ⟨a, cap, rfl⟩ := hv.shape
  have HV := hide hv
  clear hv
  have hfl : (fsts ps).length = ps.length := by simp [fsts]
  have HFL := hide hfl
  clear hfl
  go_enter Tryz.func122, Tryz.ntmps122
  go_wp2
  go_loopw [5] (fun i wr => ∃ k : Nat, 1 ≤ k ∧ (k ≤ ps.length ∨ k = 1) ∧ i = .int .i64 k ∧ (∀ j, j < k → ascAt ordR (fsts ps) j = true) ∧ Below w.heap.size w wr) (fun i _ => ps.length + 1 - (intOf i).toNat)
  case atStart => exact ⟨1, by omega, by omega, rfl, fun j hj => by obtain rfl : j = 0 := by omega
                                                                    rfl, Below.refl _ _⟩
  case round =>
    obtain ⟨k, hk1, hk, rfl, hno, hb⟩ := hrel
    have HNO := hide hno
    clear hno
    by_cases hlt : k < ps.length
    · obtain ⟨l, hl⟩ : ∃ l, ps[k]? = some l := ⟨ps[k], List.getElem?_eq_getElem hlt⟩
      obtain ⟨j, hj⟩ : ∃ j, k = j + 1 := ⟨k - 1, by omega⟩
      obtain ⟨p, hp⟩ : ∃ p, ps[j]? = some p := ⟨ps[j], List.getElem?_eq_getElem (by omega)⟩
      obtain ⟨b, off, cap', hve, hbb, c0, c1, c2, c3, c4, c5, c6, c7, _⟩ := HV.out.cells k l hl
      cases hve
      obtain ⟨b', off', cap2, hve2, hbb2, d0, d1, d2, d3, d4, d5, d6, d7, _⟩ := HV.out.cells j p hp
      cases hve2
      rw [← hb.cell (p := ⟨b, off + k * 8, none⟩) hbb] at c0
      rw [← hb.cell (p := ⟨b, off + k * 8 + 1, none⟩) hbb] at c1
      rw [← hb.cell (p := ⟨b, off + k * 8 + 2, none⟩) hbb] at c2
      rw [← hb.cell (p := ⟨b, off + k * 8 + 3, none⟩) hbb] at c3
      rw [← hb.cell (p := ⟨b, off + k * 8 + 4, none⟩) hbb] at c4
      rw [← hb.cell (p := ⟨b, off + k * 8 + 5, none⟩) hbb] at c5
      rw [← hb.cell (p := ⟨b, off + k * 8 + 6, none⟩) hbb] at c6
      rw [← hb.cell (p := ⟨b, off + k * 8 + 7, none⟩) hbb] at c7
      rw [← hb.cell (p := ⟨b, off + j * 8, none⟩) hbb] at d0
      rw [← hb.cell (p := ⟨b, off + j * 8 + 1, none⟩) hbb] at d1
      rw [← hb.cell (p := ⟨b, off + j * 8 + 2, none⟩) hbb] at d2
      rw [← hb.cell (p := ⟨b, off + j * 8 + 3, none⟩) hbb] at d3
      rw [← hb.cell (p := ⟨b, off + j * 8 + 4, none⟩) hbb] at d4
      rw [← hb.cell (p := ⟨b, off + j * 8 + 5, none⟩) hbb] at d5
      rw [← hb.cell (p := ⟨b, off + j * 8 + 6, none⟩) hbb] at d6
      rw [← hb.cell (p := ⟨b, off + j * 8 + 7, none⟩) hbb] at d7
      have hat : ascAt ordR (fsts ps) k = decide (ordR p.1 l.1 < 0) := by rw [hj]; exact ascAt_eq (fsts_at hp) (by rw [← hj]; exact fsts_at hl)
      have hzr := hb.size
      have hbr : b < wr.heap.size := by omega
      have hki : (0 : Int) ≤ (k : Int) := by omega
      have hkj : (k : Int) < (ps.length : Int) := by omega
      have hj1 : (k : Int) - 1 = (j : Int) := by omega
      have hj2 : (0 : Int) ≤ (j : Int) := by omega
      have hj3 : (j : Int) < (ps.length : Int) := by omega
      have hj5 : IntKind.i64.wrap (j : Int) = (j : Int) := wrap_fit _ (by omega) (by omega)
      have HORD := hide (orderKeyed_any p.2 l.2 p.1 l.1)
      have HAT := hide hat
      clear hl hp hat hj
      obtain ⟨x, hx⟩ : ∃ x, x = ordR p.1 l.1 := ⟨_, rfl⟩
      rw [← hx] at HORD HAT
      clear hx
      unfold recC at HORD
      by_cases hx0 : x < 0
      · have hx1 : ¬ (0 : Int) ≤ x := by omega
        rw [decide_eq_true hx0] at HAT
        go_wp2
        go_region_held3 (fun W => W.cell? ⟨b, off + k * 8, none⟩ = some (.int .i64 l.1.area) ∧ W.cell? ⟨b, off + k * 8 + 1, none⟩ = some (.int .i64 l.1.kind) ∧ W.cell? ⟨b, off + k * 8 + 2, none⟩ = some (.int .i64 l.1.owner) ∧ W.cell? ⟨b, off + k * 8 + 3, none⟩ = some (.int .i64 l.1.key) ∧ W.cell? ⟨b, off + k * 8 + 4, none⟩ = some (.int .i64 l.1.seq) ∧ W.cell? ⟨b, off + k * 8 + 5, none⟩ = some (l.2) ∧ W.cell? ⟨b, off + k * 8 + 6, none⟩ = some (.int .i64 l.1.cost) ∧ W.cell? ⟨b, off + k * 8 + 7, none⟩ = some (.bool l.1.far) ∧ W.cell? ⟨b, off + j * 8, none⟩ = some (.int .i64 p.1.area) ∧ W.cell? ⟨b, off + j * 8 + 1, none⟩ = some (.int .i64 p.1.kind) ∧ W.cell? ⟨b, off + j * 8 + 2, none⟩ = some (.int .i64 p.1.owner) ∧ W.cell? ⟨b, off + j * 8 + 3, none⟩ = some (.int .i64 p.1.key) ∧ W.cell? ⟨b, off + j * 8 + 4, none⟩ = some (.int .i64 p.1.seq) ∧ W.cell? ⟨b, off + j * 8 + 5, none⟩ = some (p.2) ∧ W.cell? ⟨b, off + j * 8 + 6, none⟩ = some (.int .i64 p.1.cost) ∧ W.cell? ⟨b, off + j * 8 + 7, none⟩ = some (.bool p.1.far)) (first | go_keep | (refine ⟨?_, ?_, ?_, ?_, ?_, ?_, ?_, ?_, ?_, ?_, ?_, ?_, ?_, ?_, ?_, ?_⟩ <;> (rw [hbc.cell (by assumption)]; assumption))) (first | (go_at_call 106; refine (HORD.out _).mono ?_; rintro e w2 ⟨rfl, hbc⟩))
        go_wp2
        exact ⟨⟨k + 1, by omega, by omega, by go_num, next_true HNO.out HAT.out, hb.drew.trans (hbc.mono hb.size)⟩, by simp [intOf]; omega⟩
      · have hx1 : (0 : Int) ≤ x := by omega
        rw [decide_eq_false hx0] at HAT
        have hf : ascB ordR (fsts ps) = false := all_false (by rw [HFL.out]; exact hlt) HAT.out
        have HF := hide hf
        clear hf
        go_wp2
        go_region_held3 (fun W => W.cell? ⟨b, off + k * 8, none⟩ = some (.int .i64 l.1.area) ∧ W.cell? ⟨b, off + k * 8 + 1, none⟩ = some (.int .i64 l.1.kind) ∧ W.cell? ⟨b, off + k * 8 + 2, none⟩ = some (.int .i64 l.1.owner) ∧ W.cell? ⟨b, off + k * 8 + 3, none⟩ = some (.int .i64 l.1.key) ∧ W.cell? ⟨b, off + k * 8 + 4, none⟩ = some (.int .i64 l.1.seq) ∧ W.cell? ⟨b, off + k * 8 + 5, none⟩ = some (l.2) ∧ W.cell? ⟨b, off + k * 8 + 6, none⟩ = some (.int .i64 l.1.cost) ∧ W.cell? ⟨b, off + k * 8 + 7, none⟩ = some (.bool l.1.far) ∧ W.cell? ⟨b, off + j * 8, none⟩ = some (.int .i64 p.1.area) ∧ W.cell? ⟨b, off + j * 8 + 1, none⟩ = some (.int .i64 p.1.kind) ∧ W.cell? ⟨b, off + j * 8 + 2, none⟩ = some (.int .i64 p.1.owner) ∧ W.cell? ⟨b, off + j * 8 + 3, none⟩ = some (.int .i64 p.1.key) ∧ W.cell? ⟨b, off + j * 8 + 4, none⟩ = some (.int .i64 p.1.seq) ∧ W.cell? ⟨b, off + j * 8 + 5, none⟩ = some (p.2) ∧ W.cell? ⟨b, off + j * 8 + 6, none⟩ = some (.int .i64 p.1.cost) ∧ W.cell? ⟨b, off + j * 8 + 7, none⟩ = some (.bool p.1.far)) (first | go_keep | (refine ⟨?_, ?_, ?_, ?_, ?_, ?_, ?_, ?_, ?_, ?_, ?_, ?_, ?_, ?_, ?_, ?_⟩ <;> (rw [hbc.cell (by assumption)]; assumption))) (first | (go_at_call 106; refine (HORD.out _).mono ?_; rintro e w2 ⟨rfl, hbc⟩))
        go_wp2
        go_ret
        exact ⟨ret_bool HF.out, hb.drew.trans (hbc.mono hb.size)⟩
    · have hall : ascB ordR (fsts ps) = true := all_true fun i hi => HNO.out i (by have := HFL.out; omega)
      have HA := hide hall
      clear hall
      go_wp2
      go_ret
      exact ⟨ret_bool HA.out, hb⟩

set_option maxRecDepth 100000 in
set_option maxHeartbeats 1000000 in
theorem inOrder_any (v : Value) (ps : List RP) (w : World) (hls : ps.length ≤ 1048576) (hv : RecsAt w v ps w.heap.size) :
    Calls Tryz.prog 82 #[v] w fun e w' => e = .returned (.bool (ascB ordR (fsts ps))) ∧ Below w.heap.size w w' := by
  have H := hide (ascRec_any v ps w hls hv)
  obtain ⟨a, cap, rfl⟩ := hv.shape
  clear hv
  go_enter Tryz.func82, Tryz.ntmps82
  go_wp2_with fail
  refine H.out.mono ?_
  rintro e w1 ⟨rfl, b1⟩
  go_wp2
  go_ret
  exact ⟨rfl, b1⟩

theorem store_long {xs : List RecD} (h : ¬ xs.length ≤ 150) : storeB xs = false := by unfold storeB; rw [decide_eq_false h]; rfl

theorem store_bad {xs : List RecD} {k : Nat} (hk : k < xs.length) (h : okAt recOkB xs k = false) : storeB xs = false := by unfold storeB allOk; rw [all_false hk h]; simp

set_option maxRecDepth 100000 in
set_option maxHeartbeats 2000000 in
theorem istoreOk_any (v : Value) (ps : List RP) (w : World) (hn : tot ps ≤ 1048576) (hv : RecsAt w v ps w.heap.size) :
    Calls Tryz.prog 39 #[v] w fun e w' => e = .returned (.bool (storeB (fsts ps))) ∧ Below w.heap.size w w' := by
  have hnl := tot_len ps
  obtain ⟨a, cap, rfl⟩ := hv.shape
  have HV := hide hv
  clear hv
  have hfl : (fsts ps).length = ps.length := by simp [fsts]
  by_cases hlong : (150 : Int) < (ps.length : Int)
  · have HF := hide (store_long (xs := fsts ps) (by omega))
    clear hfl
    go_enter Tryz.func39, Tryz.ntmps39
    go_wp2
    go_ret
    exact ⟨ret_bool HF.out, Below.refl _ _⟩
  have HFL := hide hfl
  clear hfl
  go_enter Tryz.func39, Tryz.ntmps39
  go_wp2
  go_loopw [10] (fun i wr => ∃ k : Nat, k ≤ ps.length ∧ i = .int .i64 k ∧ (∀ j, j < k → okAt recOkB (fsts ps) j = true) ∧ Below w.heap.size w wr) (fun i _ => ps.length - (intOf i).toNat)
  case atStart => exact ⟨0, by omega, rfl, by omega, Below.refl _ _⟩
  case round =>
    obtain ⟨k, hk, rfl, hall, hnx⟩ := hrel
    have HALL := hide hall
    clear hall
    have hsz := hnx.size
    by_cases hlt : k < ps.length
    · obtain ⟨p, hp⟩ : ∃ p, ps[k]? = some p := ⟨ps[k], List.getElem?_eq_getElem hlt⟩
      obtain ⟨b, off, cap', hve, hbb, c0, c1, c2, c3, c4, c5, c6, c7, hnr⟩ := HV.out.cells k p hp
      cases hve
      rw [← hnx.cell (p := ⟨b, off + k * 8, none⟩) hbb] at c0
      rw [← hnx.cell (p := ⟨b, off + k * 8 + 1, none⟩) hbb] at c1
      rw [← hnx.cell (p := ⟨b, off + k * 8 + 2, none⟩) hbb] at c2
      rw [← hnx.cell (p := ⟨b, off + k * 8 + 3, none⟩) hbb] at c3
      rw [← hnx.cell (p := ⟨b, off + k * 8 + 4, none⟩) hbb] at c4
      rw [← hnx.cell (p := ⟨b, off + k * 8 + 5, none⟩) hbb] at c5
      rw [← hnx.cell (p := ⟨b, off + k * 8 + 6, none⟩) hbb] at c6
      rw [← hnx.cell (p := ⟨b, off + k * 8 + 7, none⟩) hbb] at c7
      have hnr2 := (RowAt.later hnr hnx (Nat.le_refl _)).more hnx.size
      obtain ⟨pa, pc, hpn⟩ := NearsAt.shape hnr
      have HOK := fun o => irecOk_any p.2 p.1 (wr.alloc o) (by have := tot_mem (List.mem_of_getElem? hp); omega) (RowAt.then hnr2 ((Below.refl _ _).alloc (Nat.le_refl _) o))
      unfold recC at HOK
      rw [hpn] at c5 HOK
      have HAT := okAt_eq (ok := recOkB) (fsts_at hp)
      obtain ⟨q, hq⟩ : ∃ q, q = recOkB p.1 := ⟨_, rfl⟩
      rw [← hq] at HOK HAT
      have HOK2 := hide HOK
      have HAT2 := hide HAT
      clear hp hnr hnr2 hpn HOK HAT hq
      have hki : (0 : Int) ≤ (k : Int) := by omega
      have hkj : (k : Int) < (ps.length : Int) := by omega
      go_wp2_with fail
      refine (HOK2.out _).mono ?_
      rintro e w2 ⟨rfl, b2⟩
      have B2 : Below w.heap.size w w2 := (hnx.alloc hsz _).trans (b2.mono (by simp; omega))
      cases q
      · have HF := hide (store_bad (by rw [HFL.out]; exact hlt) HAT2.out)
        go_wp2
        go_ret
        exact ⟨ret_bool HF.out, B2⟩
      · go_wp2
        go_roundw
        case rel => exact ⟨k + 1, by omega, by go_num, next_true HALL.out HAT2.out, B2⟩
        case measure => simp [intOf]; omega
    · have e1 : allOk recOkB (fsts ps) = true := all_true fun i hi => HALL.out i (by have := HFL.out; omega)
      have e2 : storeB (fsts ps) = ascB ordR (fsts ps) := by
        unfold storeB
        rw [e1, decide_eq_true (by have := HFL.out; omega)]
        rfl
      have HE := hide e2
      have HIO := hide (inOrder_any (.slice a ps.length cap) ps wr (by omega) ((HV.out.later hnx (Nat.le_refl _)).more hsz))
      clear e1 e2
      go_wp2_with fail
      refine HIO.out.mono ?_
      rintro e w2 ⟨rfl, b2⟩
      go_wp2
      go_ret
      exact ⟨ret_bool HE.out, hnx.trans (b2.mono hsz)⟩
end Go.Proofs.YtcimbiinljcifaaGreat
