/-
  impl's order of records, lists in order, impl.StoreOk: their contracts.
  The search of spec.WaysIn: its tables in the heap, and one round of it.
-/
import Derived.Test.YtidoieolejkflaaGreatPk4
import Derived.Test.YtidoieolejkflaaGreatPk5
import Derived.Test.YtidoieolejkflaaGreatPk10
import Derived.Test.YtidoieolejkflaaGreatPk1
import Derived.Test.YtidoieolejkflaaGreatPk8
namespace Go.Proofs.YtidoieolejkflaaGreat
open Go.RowKit

def ordR (x y : RecD) : Int := cmpK (cmpN x.area y.area) (cmpN x.kind y.kind) (cmpN x.owner y.owner) (cmpN x.key y.key)

theorem ordR_neg (x y : RecD) : decide (ordR x y < 0) = beforeB x y := cmpK_neg x y

def storeB (xs : List RecD) : Bool := decide (xs.length ≤ 150) && allOk recOkB xs && ascB ordR xs

set_option maxRecDepth 100000 in
set_option maxHeartbeats 1000000 in
theorem orderKeyed_any (v1 v2 : Value) (x y : RecD) (w : World) : Calls Tryz.prog 121 #[.agg (recC x v1), .agg (recC y v2)] w fun e w' => e = .returned (.int .i64 (ordR x y)) ∧ Below w.heap.size w w' := by
  have HK := hide keyOf_raw
  unfold ordR
  have HO := hide (orderKeys_any x.area x.kind x.owner x.key y.area y.kind y.owner y.key)
  obtain ⟨r, hr⟩ : ∃ r, r = cmpK (cmpN x.area y.area) (cmpN x.kind y.kind) (cmpN x.owner y.owner) (cmpN x.key y.key) := ⟨_, rfl⟩
  rw [← hr] at HO ⊢
  clear hr
  unfold recC at *
  go_enter Tryz.func121, Tryz.ntmps121
  go_wp2
  obtain ⟨w1, hw1⟩ : ∃ w1, w1 = (w.alloc (.cells #[.int .i64 x.area, .int .i64 x.kind, .int .i64 x.owner, .int .i64 x.key, .int .i64 x.seq, v1, .int .i64 x.cost, .bool x.far] 71)).alloc (.cells #[.int .i64 y.area, .int .i64 y.kind, .int .i64 y.owner, .int .i64 y.key, .int .i64 y.seq, v2, .int .i64 y.cost, .bool y.far] 71) := ⟨_, rfl⟩
  have B1 : Below w.heap.size w w1 := by rw [hw1]; exact below_two _ _
  have p0 : w1.heap[w.heap.size]? = some (.cells #[.int .i64 x.area, .int .i64 x.kind, .int .i64 x.owner, .int .i64 x.key, .int .i64 x.seq, v1, .int .i64 x.cost, .bool x.far] 71) := by rw [hw1, Below.heap_alloc _ _ _ (by simp), heap_alloc_new]
  have q0 : w1.heap[w.heap.size + 1]? = some (.cells #[.int .i64 y.area, .int .i64 y.kind, .int .i64 y.owner, .int .i64 y.key, .int .i64 y.seq, v2, .int .i64 y.cost, .bool y.far] 71) := by
    rw [hw1]
    have := heap_alloc_new (w.alloc (.cells #[.int .i64 x.area, .int .i64 x.kind, .int .i64 x.owner, .int .i64 x.key, .int .i64 x.seq, v1, .int .i64 x.cost, .bool x.far] 71)) (.cells #[.int .i64 y.area, .int .i64 y.kind, .int .i64 y.owner, .int .i64 y.key, .int .i64 y.seq, v2, .int .i64 y.cost, .bool y.far] 71)
    simpa using this
  rw [← hw1]
  clear hw1
  have s0 := cells_at p0 0
  have s1 := cells_at p0 1
  have s2 := cells_at p0 2
  have s3 := cells_at p0 3
  have s4 := cells_at p0 4
  have s5 := cells_at p0 5
  have s6 := cells_at p0 6
  have s7 := cells_at p0 7
  simp at s0 s1 s2 s3 s4 s5 s6 s7
  have t0 := cells_at q0 0
  have t1 := cells_at q0 1
  have t2 := cells_at q0 2
  have t3 := cells_at q0 3
  have t4 := cells_at q0 4
  have t5 := cells_at q0 5
  have t6 := cells_at q0 6
  have t7 := cells_at q0 7
  simp at t0 t1 t2 t3 t4 t5 t6 t7
  have hz0 := lt_of_heap p0
  have hz1 := lt_of_heap q0
  clear p0 q0
  have hz2 := B1.size
  go_region_held3 (fun W => W.cell? ⟨w.heap.size, 0, none⟩ = some (.int .i64 x.area) ∧ W.cell? ⟨w.heap.size, 1, none⟩ = some (.int .i64 x.kind) ∧ W.cell? ⟨w.heap.size, 2, none⟩ = some (.int .i64 x.owner) ∧ W.cell? ⟨w.heap.size, 3, none⟩ = some (.int .i64 x.key) ∧ W.cell? ⟨w.heap.size, 4, none⟩ = some (.int .i64 x.seq) ∧ W.cell? ⟨w.heap.size, 5, none⟩ = some (v1) ∧ W.cell? ⟨w.heap.size, 6, none⟩ = some (.int .i64 x.cost) ∧ W.cell? ⟨w.heap.size, 7, none⟩ = some (.bool x.far) ∧ W.cell? ⟨w.heap.size + 1, 0, none⟩ = some (.int .i64 y.area) ∧ W.cell? ⟨w.heap.size + 1, 1, none⟩ = some (.int .i64 y.kind) ∧ W.cell? ⟨w.heap.size + 1, 2, none⟩ = some (.int .i64 y.owner) ∧ W.cell? ⟨w.heap.size + 1, 3, none⟩ = some (.int .i64 y.key) ∧ W.cell? ⟨w.heap.size + 1, 4, none⟩ = some (.int .i64 y.seq) ∧ W.cell? ⟨w.heap.size + 1, 5, none⟩ = some (v2) ∧ W.cell? ⟨w.heap.size + 1, 6, none⟩ = some (.int .i64 y.cost) ∧ W.cell? ⟨w.heap.size + 1, 7, none⟩ = some (.bool y.far)) (first | go_keep | (refine ⟨?_, ?_, ?_, ?_, ?_, ?_, ?_, ?_, ?_, ?_, ?_, ?_, ?_, ?_, ?_, ?_⟩ <;> (rw [b4.cell (Nat.lt_of_lt_of_le (Nat.lt_of_lt_of_le (by assumption) b2.size) b3.size), b3.cell (Nat.lt_of_lt_of_le (by assumption) b2.size), b2.cell (by assumption)]; assumption)) | (refine ⟨?_, ?_, ?_, ?_, ?_, ?_, ?_, ?_, ?_, ?_, ?_, ?_, ?_, ?_, ?_, ?_⟩ <;> (rw [b3.cell (Nat.lt_of_lt_of_le (by assumption) b2.size), b2.cell (by assumption)]; assumption)) | (refine ⟨?_, ?_, ?_, ?_, ?_, ?_, ?_, ?_, ?_, ?_, ?_, ?_, ?_, ?_, ?_, ?_⟩ <;> (rw [b2.cell (by assumption)]; assumption))) (first | (go_at_call 146; refine (HO.out _).mono ?_; rintro e w4 ⟨rfl, b4⟩) | (have hb2 := b2; refine (HK.out _ _ _ _ _ _ _ _ _).mono ?_; rintro e w3 ⟨rfl, b3⟩) | (refine (HK.out _ _ _ _ _ _ _ _ _).mono ?_; rintro e w2 ⟨rfl, b2⟩))
  have B2 : Below w.heap.size w w2 := B1.drew.trans (b2.mono B1.size)
  have B3 : Below w.heap.size w w3 := B2.trans (b3.mono B2.size)
  have B4 : Below w.heap.size w w4 := B3.trans (b4.mono B3.size)
  go_wp2
  go_ret
  exact ⟨rfl, B4⟩

set_option maxRecDepth 100000 in
set_option maxHeartbeats 4000000 in
theorem ascRec_any (v : Value) (ps : List RP) (w : World) (hls : ps.length ≤ 1048576) (hv : RecsAt w v ps w.heap.size) :
    Calls Tryz.prog 153 #[v, .func (.func 121) #[] #[]] w fun e w' => e = .returned (.bool (ascB ordR (fsts ps))) ∧ Below w.heap.size w w' := by
  obtain ⟨a, cap, rfl⟩ := hv.shape
  have HV := hide hv
  clear hv
  have hfl : (fsts ps).length = ps.length := by simp [fsts]
  have HFL := hide hfl
  clear hfl
  go_enter Tryz.func153, Tryz.ntmps153
  go_wp2
  go_loopw [5] (fun i wr => ∃ k : Nat, 1 ≤ k ∧ (k ≤ ps.length ∨ k = 1) ∧ i = .int .i64 k ∧ (∀ j, j < k → ascAt ordR (fsts ps) j = true) ∧ Below w.heap.size w wr) (fun i _ => ps.length + 1 - (intOf i).toNat)
  case atStart => exact ⟨1, by omega, by omega, rfl, fun j hj => by obtain rfl : j = 0 := by omega
                                                                    rfl, Below.refl _ _⟩
  case round =>
    obtain ⟨k, hk1, hk, rfl, hno, hb⟩ := hrel
    have HNO := hide hno
    clear hno
    by_cases hlt : k < ps.length
    · obtain ⟨l, hl⟩ : ∃ l, ps[k]? = some l := ⟨ps[k], List.getElem?_eq_getElem hlt⟩
      obtain ⟨j, hj⟩ : ∃ j, k = j + 1 := ⟨k - 1, by omega⟩
      obtain ⟨p, hp⟩ : ∃ p, ps[j]? = some p := ⟨ps[j], List.getElem?_eq_getElem (by omega)⟩
      obtain ⟨b, off, cap', hve, hbb, c0, c1, c2, c3, c4, c5, c6, c7, _⟩ := HV.out.cells k l hl
      cases hve
      obtain ⟨b', off', cap2, hve2, hbb2, d0, d1, d2, d3, d4, d5, d6, d7, _⟩ := HV.out.cells j p hp
      cases hve2
      rw [← hb.cell (p := ⟨b, off + k * 8, none⟩) hbb] at c0
      rw [← hb.cell (p := ⟨b, off + k * 8 + 1, none⟩) hbb] at c1
      rw [← hb.cell (p := ⟨b, off + k * 8 + 2, none⟩) hbb] at c2
      rw [← hb.cell (p := ⟨b, off + k * 8 + 3, none⟩) hbb] at c3
      rw [← hb.cell (p := ⟨b, off + k * 8 + 4, none⟩) hbb] at c4
      rw [← hb.cell (p := ⟨b, off + k * 8 + 5, none⟩) hbb] at c5
      rw [← hb.cell (p := ⟨b, off + k * 8 + 6, none⟩) hbb] at c6
      rw [← hb.cell (p := ⟨b, off + k * 8 + 7, none⟩) hbb] at c7
      rw [← hb.cell (p := ⟨b, off + j * 8, none⟩) hbb] at d0
      rw [← hb.cell (p := ⟨b, off + j * 8 + 1, none⟩) hbb] at d1
      rw [← hb.cell (p := ⟨b, off + j * 8 + 2, none⟩) hbb] at d2
      rw [← hb.cell (p := ⟨b, off + j * 8 + 3, none⟩) hbb] at d3
      rw [← hb.cell (p := ⟨b, off + j * 8 + 4, none⟩) hbb] at d4
      rw [← hb.cell (p := ⟨b, off + j * 8 + 5, none⟩) hbb] at d5
      rw [← hb.cell (p := ⟨b, off + j * 8 + 6, none⟩) hbb] at d6
      rw [← hb.cell (p := ⟨b, off + j * 8 + 7, none⟩) hbb] at d7
      have hat : ascAt ordR (fsts ps) k = decide (ordR p.1 l.1 < 0) := by rw [hj]; exact ascAt_eq (fsts_at hp) (by rw [← hj]; exact fsts_at hl)
      have hzr := hb.size
      have hbr : b < wr.heap.size := by omega
      have hki : (0 : Int) ≤ (k : Int) := by omega
      have hkj : (k : Int) < (ps.length : Int) := by omega
      have hj1 : (k : Int) - 1 = (j : Int) := by omega
      have hj2 : (0 : Int) ≤ (j : Int) := by omega
      have hj3 : (j : Int) < (ps.length : Int) := by omega
      have hj5 : IntKind.i64.wrap (j : Int) = (j : Int) := wrap_fit _ (by omega) (by omega)
      have HORD := hide (orderKeyed_any p.2 l.2 p.1 l.1)
      have HAT := hide hat
      clear hl hp hat hj
      obtain ⟨x, hx⟩ : ∃ x, x = ordR p.1 l.1 := ⟨_, rfl⟩
      rw [← hx] at HORD HAT
      clear hx
      unfold recC at HORD
      by_cases hx0 : x < 0
      · have hx1 : ¬ (0 : Int) ≤ x := by omega
        rw [decide_eq_true hx0] at HAT
        go_wp2
        go_region_held3 (fun W => W.cell? ⟨b, off + k * 8, none⟩ = some (.int .i64 l.1.area) ∧ W.cell? ⟨b, off + k * 8 + 1, none⟩ = some (.int .i64 l.1.kind) ∧ W.cell? ⟨b, off + k * 8 + 2, none⟩ = some (.int .i64 l.1.owner) ∧ W.cell? ⟨b, off + k * 8 + 3, none⟩ = some (.int .i64 l.1.key) ∧ W.cell? ⟨b, off + k * 8 + 4, none⟩ = some (.int .i64 l.1.seq) ∧ W.cell? ⟨b, off + k * 8 + 5, none⟩ = some (l.2) ∧ W.cell? ⟨b, off + k * 8 + 6, none⟩ = some (.int .i64 l.1.cost) ∧ W.cell? ⟨b, off + k * 8 + 7, none⟩ = some (.bool l.1.far) ∧ W.cell? ⟨b, off + j * 8, none⟩ = some (.int .i64 p.1.area) ∧ W.cell? ⟨b, off + j * 8 + 1, none⟩ = some (.int .i64 p.1.kind) ∧ W.cell? ⟨b, off + j * 8 + 2, none⟩ = some (.int .i64 p.1.owner) ∧ W.cell? ⟨b, off + j * 8 + 3, none⟩ = some (.int .i64 p.1.key) ∧ W.cell? ⟨b, off + j * 8 + 4, none⟩ = some (.int .i64 p.1.seq) ∧ W.cell? ⟨b, off + j * 8 + 5, none⟩ = some (p.2) ∧ W.cell? ⟨b, off + j * 8 + 6, none⟩ = some (.int .i64 p.1.cost) ∧ W.cell? ⟨b, off + j * 8 + 7, none⟩ = some (.bool p.1.far)) (first | go_keep | (refine ⟨?_, ?_, ?_, ?_, ?_, ?_, ?_, ?_, ?_, ?_, ?_, ?_, ?_, ?_, ?_, ?_⟩ <;> (rw [hbc.cell (by assumption)]; assumption))) (first | (go_at_call 121; refine (HORD.out _).mono ?_; rintro e w2 ⟨rfl, hbc⟩))
        go_wp2
        exact ⟨⟨k + 1, by omega, by omega, by go_num, next_true HNO.out HAT.out, hb.drew.trans (hbc.mono hb.size)⟩, by simp [intOf]; omega⟩
      · have hx1 : (0 : Int) ≤ x := by omega
        rw [decide_eq_false hx0] at HAT
        have hf : ascB ordR (fsts ps) = false := all_false (by rw [HFL.out]; exact hlt) HAT.out
        have HF := hide hf
        clear hf
        go_wp2
        go_region_held3 (fun W => W.cell? ⟨b, off + k * 8, none⟩ = some (.int .i64 l.1.area) ∧ W.cell? ⟨b, off + k * 8 + 1, none⟩ = some (.int .i64 l.1.kind) ∧ W.cell? ⟨b, off + k * 8 + 2, none⟩ = some (.int .i64 l.1.owner) ∧ W.cell? ⟨b, off + k * 8 + 3, none⟩ = some (.int .i64 l.1.key) ∧ W.cell? ⟨b, off + k * 8 + 4, none⟩ = some (.int .i64 l.1.seq) ∧ W.cell? ⟨b, off + k * 8 + 5, none⟩ = some (l.2) ∧ W.cell? ⟨b, off + k * 8 + 6, none⟩ = some (.int .i64 l.1.cost) ∧ W.cell? ⟨b, off + k * 8 + 7, none⟩ = some (.bool l.1.far) ∧ W.cell? ⟨b, off + j * 8, none⟩ = some (.int .i64 p.1.area) ∧ W.cell? ⟨b, off + j * 8 + 1, none⟩ = some (.int .i64 p.1.kind) ∧ W.cell? ⟨b, off + j * 8 + 2, none⟩ = some (.int .i64 p.1.owner) ∧ W.cell? ⟨b, off + j * 8 + 3, none⟩ = some (.int .i64 p.1.key) ∧ W.cell? ⟨b, off + j * 8 + 4, none⟩ = some (.int .i64 p.1.seq) ∧ W.cell? ⟨b, off + j * 8 + 5, none⟩ = some (p.2) ∧ W.cell? ⟨b, off + j * 8 + 6, none⟩ = some (.int .i64 p.1.cost) ∧ W.cell? ⟨b, off + j * 8 + 7, none⟩ = some (.bool p.1.far)) (first | go_keep | (refine ⟨?_, ?_, ?_, ?_, ?_, ?_, ?_, ?_, ?_, ?_, ?_, ?_, ?_, ?_, ?_, ?_⟩ <;> (rw [hbc.cell (by assumption)]; assumption))) (first | (go_at_call 121; refine (HORD.out _).mono ?_; rintro e w2 ⟨rfl, hbc⟩))
        go_wp2
        go_ret
        exact ⟨ret_bool HF.out, hb.drew.trans (hbc.mono hb.size)⟩
    · have hall : ascB ordR (fsts ps) = true := all_true fun i hi => HNO.out i (by have := HFL.out; omega)
      have HA := hide hall
      clear hall
      go_wp2
      go_ret
      exact ⟨ret_bool HA.out, hb⟩

set_option maxRecDepth 100000 in
set_option maxHeartbeats 1000000 in
theorem inOrder_any (v : Value) (ps : List RP) (w : World) (hls : ps.length ≤ 1048576) (hv : RecsAt w v ps w.heap.size) :
    Calls Tryz.prog 129 #[v] w fun e w' => e = .returned (.bool (ascB ordR (fsts ps))) ∧ Below w.heap.size w w' := by
  have H := hide (ascRec_any v ps w hls hv)
  obtain ⟨a, cap, rfl⟩ := hv.shape
  clear hv
  go_enter Tryz.func129, Tryz.ntmps129
  go_wp2_with fail
  refine H.out.mono ?_
  rintro e w1 ⟨rfl, b1⟩
  go_wp2
  go_ret
  exact ⟨rfl, b1⟩

theorem store_long {xs : List RecD} (h : ¬ xs.length ≤ 150) : storeB xs = false := by unfold storeB; rw [decide_eq_false h]; rfl

theorem store_bad {xs : List RecD} {k : Nat} (hk : k < xs.length) (h : okAt recOkB xs k = false) : storeB xs = false := by unfold storeB allOk; rw [all_false hk h]; simp

set_option maxRecDepth 100000 in
set_option maxHeartbeats 2000000 in
theorem istoreOk_any (v : Value) (ps : List RP) (w : World) (hn : tot ps ≤ 1048576) (hv : RecsAt w v ps w.heap.size) :
    Calls Tryz.prog 84 #[v] w fun e w' => e = .returned (.bool (storeB (fsts ps))) ∧ Below w.heap.size w w' := by
  have hnl := tot_len ps
  obtain ⟨a, cap, rfl⟩ := hv.shape
  have HV := hide hv
  clear hv
  have hfl : (fsts ps).length = ps.length := by simp [fsts]
  by_cases hlong : (150 : Int) < (ps.length : Int)
  · have HF := hide (store_long (xs := fsts ps) (by omega))
    clear hfl
    go_enter Tryz.func84, Tryz.ntmps84
    go_wp2
    go_ret
    exact ⟨ret_bool HF.out, Below.refl _ _⟩
  have HFL := hide hfl
  clear hfl
  go_enter Tryz.func84, Tryz.ntmps84
  go_wp2
  go_loopw [10] (fun i wr => ∃ k : Nat, k ≤ ps.length ∧ i = .int .i64 k ∧ (∀ j, j < k → okAt recOkB (fsts ps) j = true) ∧ Below w.heap.size w wr) (fun i _ => ps.length - (intOf i).toNat)
  case atStart => exact ⟨0, by omega, rfl, by omega, Below.refl _ _⟩
  case round =>
    obtain ⟨k, hk, rfl, hall, hnx⟩ := hrel
    have HALL := hide hall
    clear hall
    have hsz := hnx.size
    by_cases hlt : k < ps.length
    · obtain ⟨p, hp⟩ : ∃ p, ps[k]? = some p := ⟨ps[k], List.getElem?_eq_getElem hlt⟩
      obtain ⟨b, off, cap', hve, hbb, c0, c1, c2, c3, c4, c5, c6, c7, hnr⟩ := HV.out.cells k p hp
      cases hve
      rw [← hnx.cell (p := ⟨b, off + k * 8, none⟩) hbb] at c0
      rw [← hnx.cell (p := ⟨b, off + k * 8 + 1, none⟩) hbb] at c1
      rw [← hnx.cell (p := ⟨b, off + k * 8 + 2, none⟩) hbb] at c2
      rw [← hnx.cell (p := ⟨b, off + k * 8 + 3, none⟩) hbb] at c3
      rw [← hnx.cell (p := ⟨b, off + k * 8 + 4, none⟩) hbb] at c4
      rw [← hnx.cell (p := ⟨b, off + k * 8 + 5, none⟩) hbb] at c5
      rw [← hnx.cell (p := ⟨b, off + k * 8 + 6, none⟩) hbb] at c6
      rw [← hnx.cell (p := ⟨b, off + k * 8 + 7, none⟩) hbb] at c7
      have hnr2 := (RowAt.later hnr hnx (Nat.le_refl _)).more hnx.size
      obtain ⟨pa, pc, hpn⟩ := NearsAt.shape hnr
      have HOK := fun o => irecOk_any p.2 p.1 (wr.alloc o) (by have := tot_mem (List.mem_of_getElem? hp); omega) (RowAt.then hnr2 ((Below.refl _ _).alloc (Nat.le_refl _) o))
      unfold recC at HOK
      rw [hpn] at c5 HOK
      have HAT := okAt_eq (ok := recOkB) (fsts_at hp)
      obtain ⟨q, hq⟩ : ∃ q, q = recOkB p.1 := ⟨_, rfl⟩
      rw [← hq] at HOK HAT
      have HOK2 := hide HOK
      have HAT2 := hide HAT
      clear hp hnr hnr2 hpn HOK HAT hq
      have hki : (0 : Int) ≤ (k : Int) := by omega
      have hkj : (k : Int) < (ps.length : Int) := by omega
      go_wp2_with fail
      refine (HOK2.out _).mono ?_
      rintro e w2 ⟨rfl, b2⟩
      have B2 : Below w.heap.size w w2 := (hnx.alloc hsz _).trans (b2.mono (by simp; omega))
      cases q
      · have HF := hide (store_bad (by rw [HFL.out]; exact hlt) HAT2.out)
        go_wp2
        go_ret
        exact ⟨ret_bool HF.out, B2⟩
      · go_wp2
        go_roundw
        case rel => exact ⟨k + 1, by omega, by go_num, next_true HALL.out HAT2.out, B2⟩
        case measure => simp [intOf]; omega
    · have e1 : allOk recOkB (fsts ps) = true := all_true fun i hi => HALL.out i (by have := HFL.out; omega)
      have e2 : storeB (fsts ps) = ascB ordR (fsts ps) := by
        unfold storeB
        rw [e1, decide_eq_true (by have := HFL.out; omega)]
        rfl
      have HE := hide e2
      have HIO := hide (inOrder_any (.slice a ps.length cap) ps wr (by omega) ((HV.out.later hnx (Nat.le_refl _)).more hsz))
      clear e1 e2
      go_wp2_with fail
      refine HIO.out.mono ?_
      rintro e w2 ⟨rfl, b2⟩
      go_wp2
      go_ret
      exact ⟨ret_bool HE.out, hnx.trans (b2.mono hsz)⟩
end Go.Proofs.YtidoieolejkflaaGreat
namespace Go.Proofs.YtidoieolejkflaaGreat
open Go.RowKit

set_option linter.unusedSimpArgs false

/-- the links of an area, between nodes alone -/
def linkN (xs : List RecD) (area : Int) (u v : Nat) : Int := if (1 ≤ u ∧ u ≤ 6) ∧ (1 ≤ v ∧ v ≤ 6) then linkF xs area u v else 0

theorem linkT_pos {ns : List Nr} {bk : Int → Int} {v : Nat} (h : ∀ n ∈ ns, 1 ≤ n.c ∧ n.c ≤ 1000) : ∀ k, 0 ≤ linkT ns bk v k ∧ linkT ns bk v k ≤ 1000
  | 0 => by simp [linkT]
  | k + 1 => by
    have ih := linkT_pos (bk := bk) (v := v) h k
    cases e : ns[k]? with
    | none =>
      have : linkT ns bk v (k + 1) = linkT ns bk v k := by
        show (match ns[k]? with
          | some n => if n.to = (v : Int) ∧ inB n.to 1 6 = true ∧ 0 < bk n.to then n.c else linkT ns bk v k
          | none => linkT ns bk v k) = _
        rw [e]
      rw [this]; exact ih
    | some n =>
      rw [linkT_step bk v e]
      have := h n (List.mem_of_getElem? e)
      split
      · omega
      · exact ih

theorem allOk_mem {α : Type} {ok : α → Bool} {ls : List α} (h : allOk ok ls = true) {a : α} (ha : a ∈ ls) : ok a = true := by
  obtain ⟨k, hk, e⟩ := List.mem_iff_getElem.1 ha
  unfold allOk at h
  rw [List.all_eq_true] at h
  have := h k (by simpa using hk)
  unfold okAt at this
  rw [List.getElem?_eq_getElem hk, e] at this
  exact this

theorem recOk_nears {x : RecD} (h : recOkB x = true) : x.near = [] ∨ (x.kind = 1 ∧ nearsB x.owner x.near = true) := by
  unfold recOkB at h
  simp only [Bool.and_eq_true] at h
  have h2 := h.2
  split at h2
  · rename_i e
    simp only [Bool.and_eq_true] at h2
    exact .inr ⟨e, h2.1.1.2⟩
  · split at h2
    · simp only [Bool.and_eq_true, beq_iff_eq] at h2
      exact .inl (List.eq_nil_of_length_eq_zero h2.1.1.2)
    · split at h2
      · simp only [Bool.and_eq_true, beq_iff_eq] at h2
        exact .inl (List.eq_nil_of_length_eq_zero h2.1.2)
      · cases h2

theorem recOk_near_cost {x : RecD} (h : recOkB x = true) : ∀ n ∈ x.near, 1 ≤ n.c ∧ n.c ≤ 1000 := by
  intro n hn
  rcases recOk_nears h with e | ⟨_, e⟩
  · rw [e] at hn; cases hn
  · unfold nearsB at e
    simp only [Bool.and_eq_true] at e
    have := allOk_mem e.1 hn
    unfold nearOkB at this
    simp only [Bool.and_eq_true] at this
    exact inB_iff.1 this.2

theorem findD_mem {xs : List RecD} {r : RecD} : findD xs r ∈ xs ∨ findD xs r = zeroRD := by
  rcases atZ_cases xs r with hz | ⟨j, y, hz, hy, _⟩
  · exact .inr (find_none hz).1
  · rw [(find_at hz hy).1]; exact .inl (List.mem_of_getElem? hy)

theorem node_near {xs : List RecD} {area node : Int} (h : storeB xs = true) : ∀ n ∈ (nodeD xs area node).near, 1 ≤ n.c ∧ n.c ≤ 1000 := by
  intro n hn
  unfold nodeD at hn
  rcases findD_mem (xs := xs) (r := nodeR area node) with hm | he
  · unfold storeB at h
    simp only [Bool.and_eq_true] at h
    have hr := allOk_mem h.1.2 hm
    exact recOk_near_cost hr n hn
  · rw [he] at hn; cases hn

theorem linkN_links {xs : List RecD} {area : Int} (h : storeB xs = true) : Links (linkN xs area) 1000 := by
  refine ⟨fun u v => ?_, fun u v => ?_, fun u v hl => ?_⟩
  · unfold linkN; split
    · exact (linkT_pos (node_near h) _).1
    · omega
  · unfold linkN; split
    · exact (linkT_pos (node_near h) _).2
    · omega
  · unfold linkN at hl
    split at hl
    · rename_i e; exact e
    · omega

def costV (c : Nat → Int) (i : Nat) : Value := .int .i64 (if i = 0 then 0 else c i)

def doneV (F : Nat → Bool) (i : Nat) : Value := .bool (F i)

def upd {α : Type} (f : Nat → α) (v : Nat) (x : α) (i : Nat) : α := if i = v then x else f i

theorem upd_same {α : Type} (f : Nat → α) (v : Nat) (x : α) : upd f v x v = x := by simp [upd]

theorem upd_other {α : Type} (f : Nat → α) {v i : Nat} (x : α) (h : i ≠ v) : upd f v x i = f i := by simp [upd, h]

/-- the tables: links at g, costs at b, hops at b + 1, what is done at b + 2; the rows of hops lie behind -/
structure SSt (W : World) (g b : Nat) (o : Nat → Nat → Int) (F : Nat → Bool) (c : Nat → Int) (h : Nat → List Int) (hv : Nat → Value) : Prop where
  gb : g < b
  ln : W.heap[g]? = some (.cells (rowA (linkV o) 49) 3)
  cs : W.heap[b]? = some (.cells (rowA (costV c) 7) 3)
  hs : W.heap[b + 1]? = some (.cells (rowA hv 7) 34)
  ds : W.heap[b + 1 + 1]? = some (.cells (rowA (doneV F) 7) 4)
  rows : ∀ v, W.ownsRow (b + 3) 3 1 (hv v) (h v).length (flat intE (h v))
  short : ∀ v, (h v).length ≤ 6

theorem SSt.size {W : World} {g b : Nat} {o : Nat → Nat → Int} {F : Nat → Bool} {c : Nat → Int} {h : Nat → List Int} {hv : Nat → Value} (s : SSt W g b o F c h hv) : b + 3 ≤ W.heap.size := by
  have := lt_of_heap s.ds; omega

theorem SSt.below {W W' : World} {g b : Nat} {o : Nat → Nat → Int} {F : Nat → Bool} {c : Nat → Int} {h : Nat → List Int} {hv : Nat → Value} (s : SSt W g b o F c h hv) (hb : Below W.heap.size W W') : SSt W' g b o F c h hv :=
  ⟨s.gb, (hb.block _ (lt_of_heap s.ln)).trans s.ln, (hb.block _ (lt_of_heap s.cs)).trans s.cs, (hb.block _ (lt_of_heap s.hs)).trans s.hs, (hb.block _ (lt_of_heap s.ds)).trans s.ds, fun v => owns_below (s.rows v) hb (Nat.le_refl _), s.short⟩

theorem SSt.cost {W : World} {g b : Nat} {o : Nat → Nat → Int} {F : Nat → Bool} {c : Nat → Int} {h : Nat → List Int} {hv : Nat → Value} (s : SSt W g b o F c h hv) {v : Nat} (h1 : 1 ≤ v) (h6 : v ≤ 6) : W.cell? ⟨b, v, none⟩ = some (.int .i64 (c v)) := by
  rw [rowA_cell s.cs (by omega)]; unfold costV; rw [if_neg (by omega)]

theorem SSt.done {W : World} {g b : Nat} {o : Nat → Nat → Int} {F : Nat → Bool} {c : Nat → Int} {h : Nat → List Int} {hv : Nat → Value} (s : SSt W g b o F c h hv) {v : Nat} (h6 : v ≤ 6) : W.cell? ⟨b + 1 + 1, v, none⟩ = some (.bool (F v)) := by
  rw [rowA_cell s.ds (by omega)]; rfl

theorem SSt.hop {W : World} {g b : Nat} {o : Nat → Nat → Int} {F : Nat → Bool} {c : Nat → Int} {h : Nat → List Int} {hv : Nat → Value} (s : SSt W g b o F c h hv) {v : Nat} (h6 : v ≤ 6) : W.cell? ⟨b + 1, v, none⟩ = some (hv v) := rowA_cell s.hs (by omega)

theorem SSt.link {W : World} {g b : Nat} {o : Nat → Nat → Int} {F : Nat → Bool} {c : Nat → Int} {h : Nat → List Int} {hv : Nat → Value} (s : SSt W g b o F c h hv) {u v : Nat} (h5 : u ≤ 6) (h6 : v ≤ 6) : W.cell? ⟨g, u * 7 + v, none⟩ = some (.int .i64 (o u v)) := linkV_at s.ln h5 h6

theorem SSt.setC {W : World} {g b : Nat} {o : Nat → Nat → Int} {F : Nat → Bool} {c : Nat → Int} {h : Nat → List Int} {hv : Nat → Value} (s : SSt W g b o F c h hv) {v : Nat} (h1 : 1 ≤ v) (x : Int) : SSt (W.setCell ⟨b, v, none⟩ (.int .i64 x)) g b o F (upd c v x) h hv := by
  have hg := s.gb
  refine ⟨s.gb, (heap_setCell_other W ⟨b, v, none⟩ g _ (by show g ≠ b; omega)).trans s.ln, ?_, (heap_setCell_other W ⟨b, v, none⟩ (b + 1) _ (by show b + 1 ≠ b; omega)).trans s.hs, (heap_setCell_other W ⟨b, v, none⟩ (b + 1 + 1) _ (by show b + 1 + 1 ≠ b; omega)).trans s.ds, fun u => owns_set (s.rows u) (by omega), s.short⟩
  rw [rowA_put s.cs, rowA_congr (fun i _ => ?_)]
  unfold costV upd
  by_cases e : i = v
  · subst e; rw [if_pos rfl, if_neg (by omega), if_pos rfl]
  · rw [if_neg e]; simp [e]

theorem SSt.setD {W : World} {g b : Nat} {o : Nat → Nat → Int} {F : Nat → Bool} {c : Nat → Int} {h : Nat → List Int} {hv : Nat → Value} (s : SSt W g b o F c h hv) (v : Nat) : SSt (W.setCell ⟨b + 1 + 1, v, none⟩ (.bool true)) g b o (fun x => F x || x == v) c h hv := by
  have hg := s.gb
  refine ⟨s.gb, (heap_setCell_other W ⟨b + 1 + 1, v, none⟩ g _ (by show g ≠ b + 1 + 1; omega)).trans s.ln, (heap_setCell_other W ⟨b + 1 + 1, v, none⟩ b _ (by show b ≠ b + 1 + 1; omega)).trans s.cs, (heap_setCell_other W ⟨b + 1 + 1, v, none⟩ (b + 1) _ (by show b + 1 ≠ b + 1 + 1; omega)).trans s.hs, ?_, fun u => owns_set (s.rows u) (by omega), s.short⟩
  rw [rowA_put s.ds, rowA_congr (fun i _ => ?_)]
  unfold doneV
  by_cases e : i = v
  · subst e; simp
  · simp [e]

theorem SSt.setH {W : World} {g b : Nat} {o : Nat → Nat → Int} {F : Nat → Bool} {c : Nat → Int} {h : Nat → List Int} {hv : Nat → Value} (s : SSt W g b o F c h hv) (v : Nat) {x : Value} {l : List Int} (hx : W.ownsRow (b + 3) 3 1 x l.length (flat intE l)) (hl : l.length ≤ 6) : SSt (W.setCell ⟨b + 1, v, none⟩ x) g b o F c (upd h v l) (upd hv v x) := by
  have hg := s.gb
  refine ⟨s.gb, (heap_setCell_other W ⟨b + 1, v, none⟩ g _ (by show g ≠ b + 1; omega)).trans s.ln, (heap_setCell_other W ⟨b + 1, v, none⟩ b _ (by show b ≠ b + 1; omega)).trans s.cs, ?_, (heap_setCell_other W ⟨b + 1, v, none⟩ (b + 1 + 1) _ (by show b + 1 + 1 ≠ b + 1; omega)).trans s.ds, fun u => ?_, fun u => ?_⟩
  · rw [rowA_put s.hs]; rfl
  · unfold upd
    by_cases e : u = v
    · rw [if_pos e, if_pos e]; exact owns_set hx (by omega)
    · rw [if_neg e, if_neg e]; exact owns_set (s.rows u) (by omega)
  · unfold upd
    by_cases e : u = v
    · rw [if_pos e]; exact hl
    · rw [if_neg e]; exact s.short u

theorem SSt.congr {W : World} {g b : Nat} {o : Nat → Nat → Int} {F : Nat → Bool} {c d : Nat → Int} {h : Nat → List Int} {hv : Nat → Value} (s : SSt W g b o F c h hv) (hc : ∀ v, 1 ≤ v → v ≤ 6 → d v = c v) : SSt W g b o F d h hv := by
  refine ⟨s.gb, s.ln, ?_, s.hs, s.ds, s.rows, s.short⟩
  rw [s.cs, rowA_congr (fun i hi => ?_)]
  unfold costV
  by_cases e : i = 0
  · rw [if_pos e, if_pos e]
  · rw [if_neg e, if_neg e, hc i (by omega) (by omega)]

theorem SSt.start {W : World} {g : Nat} {o : Nat → Nat → Int} (hg : W.heap[g]? = some (.cells (rowA (linkV o) 49) 3)) :
    SSt (((W.alloc (.cells (rowA (fun _ => .int .i64 0) 7) 3)).alloc (.cells (rowA (fun _ => .slice none 0 0) 7) 34)).alloc (.cells (rowA (fun _ => .bool false) 7) 4)) g W.heap.size o (fun _ => false) (fun _ => 0) (fun _ => []) (fun _ => .slice none 0 0) := by
  have hlt := lt_of_heap hg
  refine ⟨hlt, ?_, ?_, ?_, ?_, fun v => World.ownsRow_nil _ _ _ _, by simp⟩
  · rw [Below.heap_alloc _ _ _ (by simp; omega), Below.heap_alloc _ _ _ (by simp; omega), Below.heap_alloc _ _ _ hlt]; exact hg
  · rw [Below.heap_alloc _ _ _ (by simp; omega), Below.heap_alloc _ _ _ (by simp), heap_alloc_new, rowA_congr (fun i _ => ?_)]
    unfold costV; simp
  · rw [Below.heap_alloc _ _ _ (by simp)]
    have e := heap_alloc_new (W.alloc (.cells (rowA (fun _ => .int .i64 0) 7) 3)) (.cells (rowA (fun _ => .slice none 0 0) 7) 34)
    rw [show (W.alloc (.cells (rowA (fun _ => .int .i64 0) 7) 3)).heap.size = W.heap.size + 1 by simp] at e
    exact e
  · have e := heap_alloc_new ((W.alloc (.cells (rowA (fun _ => .int .i64 0) 7) 3)).alloc (.cells (rowA (fun _ => .slice none 0 0) 7) 34)) (.cells (rowA (fun _ => .bool false) 7) 4)
    rw [show ((W.alloc (.cells (rowA (fun _ => .int .i64 0) 7) 3)).alloc (.cells (rowA (fun _ => .slice none 0 0) 7) 34)).heap.size = W.heap.size + 1 + 1 by simp] at e
    exact e

theorem addT_mem (a b : List Int) (x : Int) : ∀ k : Nat, x ∈ addT a b k ↔ (1 ≤ x ∧ x ≤ (k : Int) ∧ (x ∈ a ∨ x ∈ b))
  | 0 => by simp [addT]; omega
  | k + 1 => by
    unfold addT
    rw [List.mem_append, addT_mem a b x k]
    by_cases e : (k : Int) + 1 ∈ a ∨ (k : Int) + 1 ∈ b
    · rw [if_pos e]
      simp only [List.mem_singleton]
      constructor
      · rintro (⟨h1, h2, h3⟩ | rfl)
        · exact ⟨h1, by omega, h3⟩
        · exact ⟨by omega, by omega, e⟩
      · rintro ⟨h1, h2, h3⟩
        by_cases e2 : x = (k : Int) + 1
        · exact .inr e2
        · exact .inl ⟨h1, by omega, h3⟩
    · rw [if_neg e]
      simp only [List.not_mem_nil, or_false]
      constructor
      · rintro ⟨h1, h2, h3⟩; exact ⟨h1, by omega, h3⟩
      · rintro ⟨h1, h2, h3⟩
        refine ⟨h1, ?_, h3⟩
        by_cases e2 : x = (k : Int) + 1
        · subst e2; exact absurd h3 e
        · omega

theorem addT_asc (a b : List Int) : ∀ k : Nat, (addT a b k).Pairwise (· < ·)
  | 0 => by simp [addT]
  | k + 1 => by
    unfold addT
    rw [List.pairwise_append]
    refine ⟨addT_asc a b k, by split <;> simp, ?_⟩
    intro x hx y hy
    have h1 := (addT_mem a b x k).1 hx
    split at hy
    · simp at hy; omega
    · cases hy

theorem addL_mem {a b : List Int} {x : Int} : x ∈ addL a b ↔ (1 ≤ x ∧ x ≤ 6 ∧ (x ∈ a ∨ x ∈ b)) := addT_mem a b x 6

theorem addL_asc (a b : List Int) : (addL a b).Pairwise (· < ·) := addT_asc a b 6

theorem addL_len6 (a b : List Int) : (addL a b).length ≤ 6 := addT_len a b 6

/-- the hops of the way over u -/
def wayL (src : Nat) (h : Nat → List Int) (u v : Nat) : List Int := if u = src then [(v : Int)] else h u

theorem wayL_mem {src : Nat} {h : Nat → List Int} {u v : Nat} {x : Int} : x ∈ wayL src h u v ↔ OverHop src h u v x := by
  unfold wayL OverHop
  by_cases e : u = src
  · rw [if_pos e]; simp [e]
  · rw [if_neg e]; simp [e]

def relaxL (L : Nat → Nat → Int) (src : Nat) (c : Nat → Int) (h : Nat → List Int) (u v : Nat) : List Int :=
  if 0 < L u v then (if c v < 0 ∨ c u + L u v < c v then addL [] (wayL src h u v) else if c u + L u v = c v then addL (h v) (wayL src h u v) else h v) else h v

theorem relaxL_spec {L : Nat → Nat → Int} {K : Int} {src : Nat} {F : Nat → Bool} {c : Nat → Int} {h : Nat → List Int} (I : Inv L src F c h) (hL : Links L K) {u : Nat} (hu : 0 ≤ c u) (v : Nat) : RelaxH L src c h u v (relaxL L src c h u v) := by
  have hrng : ∀ x, 0 < L u v → OverHop src h u v x → 1 ≤ x ∧ x ≤ 6 := by
    intro x hl ho
    rcases ho with ⟨_, rfl⟩ | ⟨_, h2⟩
    · have := (hL.node u v hl).2; unfold IsNode at this; omega
    · exact I.rng u x h2
  have hneg : c v < 0 → ∀ x, x ∉ h v := by
    intro hc x hx
    by_cases e : v = src
    · subst e; rw [I.start0] at hx; cases hx
    · have := ((I.hop v e x).1 hx).1; omega
  unfold relaxL
  by_cases h1 : 0 < L u v
  · rw [if_pos h1]
    by_cases h2 : c v < 0 ∨ c u + L u v < c v
    · rw [if_pos h2]
      have e : relaxC L c u v = c u + L u v := by unfold relaxC; rw [if_pos ⟨h1, h2⟩]
      refine ⟨addL_asc _ _, fun x => ?_⟩
      rw [addL_mem, e, wayL_mem]
      constructor
      · rintro ⟨_, _, h5 | h5⟩
        · cases h5
        · exact .inr ⟨h1, rfl, h5⟩
      · rintro (⟨h5, h6⟩ | ⟨_, _, h5⟩)
        · omega
        · have := hrng x h1 h5; exact ⟨this.1, this.2, .inr h5⟩
    · rw [if_neg h2]
      have e : relaxC L c u v = c v := by unfold relaxC; rw [if_neg (fun hc => h2 hc.2)]
      by_cases h3 : c u + L u v = c v
      · rw [if_pos h3]
        refine ⟨addL_asc _ _, fun x => ?_⟩
        rw [addL_mem, e, wayL_mem]
        constructor
        · rintro ⟨_, _, h5 | h5⟩
          · exact .inl ⟨h5, rfl⟩
          · exact .inr ⟨h1, h3.symm, h5⟩
        · rintro (⟨h5, _⟩ | ⟨_, _, h5⟩)
          · have := I.rng v x h5; exact ⟨this.1, this.2, .inl h5⟩
          · have := hrng x h1 h5; exact ⟨this.1, this.2, .inr h5⟩
      · rw [if_neg h3]
        refine ⟨I.asc v, fun x => ?_⟩
        rw [e]
        constructor
        · intro h5; exact .inl ⟨h5, rfl⟩
        · rintro (⟨h5, _⟩ | ⟨_, h6, _⟩)
          · exact h5
          · omega
  · rw [if_neg h1]
    have e : relaxC L c u v = c v := by unfold relaxC; rw [if_neg (fun hc => h1 hc.1)]
    refine ⟨I.asc v, fun x => ?_⟩
    rw [e]
    constructor
    · intro h5; exact .inl ⟨h5, rfl⟩
    · rintro (⟨h5, _⟩ | ⟨h6, _⟩)
      · exact h5
      · exact absurd h6 h1

/-- costs behind going on to the nodes below j -/
def mixC (L : Nat → Nat → Int) (c : Nat → Int) (u j v : Nat) : Int := if v < j then relaxC L c u v else c v

def mixH (L : Nat → Nat → Int) (src : Nat) (c : Nat → Int) (h : Nat → List Int) (u j v : Nat) : List Int := if v < j then relaxL L src c h u v else h v

theorem mixC_one {L : Nat → Nat → Int} {K : Int} (hL : Links L K) (c : Nat → Int) (u : Nat) : mixC L c u 1 = c := by
  funext v
  unfold mixC
  by_cases e : v < 1
  · rw [if_pos e]
    unfold relaxC
    rw [if_neg (fun hc => by have := (hL.node u v hc.1).2; unfold IsNode at this; omega)]
  · rw [if_neg e]

theorem mixH_one {L : Nat → Nat → Int} {K : Int} (hL : Links L K) (src : Nat) (c : Nat → Int) (h : Nat → List Int) (u : Nat) : mixH L src c h u 1 = h := by
  funext v
  unfold mixH
  by_cases e : v < 1
  · rw [if_pos e]
    unfold relaxL
    rw [if_neg (fun hc => by have := (hL.node u v hc).2; unfold IsNode at this; omega)]
  · rw [if_neg e]

theorem mixC_step (L : Nat → Nat → Int) (c : Nat → Int) (u j : Nat) : mixC L c u (j + 1) = upd (mixC L c u j) j (relaxC L c u j) := by
  funext v
  unfold upd
  show (if v < j + 1 then relaxC L c u v else c v) = if v = j then relaxC L c u j else if v < j then relaxC L c u v else c v
  by_cases e : v = j
  · rw [if_pos (by omega), if_pos e, e]
  · rw [if_neg e]
    by_cases e2 : v < j
    · rw [if_pos e2, if_pos (by omega)]
    · rw [if_neg e2, if_neg (by omega)]

theorem mixH_step (L : Nat → Nat → Int) (src : Nat) (c : Nat → Int) (h : Nat → List Int) (u j : Nat) : mixH L src c h u (j + 1) = upd (mixH L src c h u j) j (relaxL L src c h u j) := by
  funext v
  unfold upd
  show (if v < j + 1 then relaxL L src c h u v else h v) = if v = j then relaxL L src c h u j else if v < j then relaxL L src c h u v else h v
  by_cases e : v = j
  · rw [if_pos (by omega), if_pos e, e]
  · rw [if_neg e]
    by_cases e2 : v < j
    · rw [if_pos e2, if_pos (by omega)]
    · rw [if_neg e2, if_neg (by omega)]

theorem mixC_next {L : Nat → Nat → Int} {c : Nat → Int} {u j : Nat} : mixC L c u j j = c j := by
  unfold mixC; rw [if_neg (by omega)]

theorem mixH_next {L : Nat → Nat → Int} {src : Nat} {c : Nat → Int} {h : Nat → List Int} {u j : Nat} : mixH L src c h u j j = h j := by
  unfold mixH; rw [if_neg (by omega)]

theorem upd_id {α : Type} (f : Nat → α) (v : Nat) : upd f v (f v) = f := by
  funext i
  unfold upd
  by_cases e : i = v
  · rw [if_pos e, e]
  · rw [if_neg e]

theorem mixC_keep {L : Nat → Nat → Int} {c : Nat → Int} {u j : Nat} (e : relaxC L c u j = c j) : mixC L c u (j + 1) = mixC L c u j := by
  rw [mixC_step, e, ← mixC_next (L := L) (c := c) (u := u) (j := j), upd_id]

theorem mixH_keep {L : Nat → Nat → Int} {src : Nat} {c : Nat → Int} {h : Nat → List Int} {u j : Nat} (e : relaxL L src c h u j = h j) : mixH L src c h u (j + 1) = mixH L src c h u j := by
  rw [mixH_step, e, ← mixH_next (L := L) (src := src) (c := c) (h := h) (u := u) (j := j), upd_id]

theorem mixC_all {L : Nat → Nat → Int} {K : Int} (hL : Links L K) (c : Nat → Int) (u : Nat) : mixC L c u 7 = fun v => relaxC L c u v := by
  funext v
  unfold mixC
  by_cases e : v < 7
  · rw [if_pos e]
  · rw [if_neg e]
    unfold relaxC
    rw [if_neg (fun hc => by have := (hL.node u v hc.1).2; unfold IsNode at this; omega)]

theorem mixH_all {L : Nat → Nat → Int} {K : Int} (hL : Links L K) (src : Nat) (c : Nat → Int) (h : Nat → List Int) (u : Nat) : mixH L src c h u 7 = fun v => relaxL L src c h u v := by
  funext v
  unfold mixH
  by_cases e : v < 7
  · rw [if_pos e]
  · rw [if_neg e]
    unfold relaxL
    rw [if_neg (fun hc => by have := (hL.node u v hc).2; unfold IsNode at this; omega)]

theorem relaxL_none {L : Nat → Nat → Int} {src : Nat} {c : Nat → Int} {h : Nat → List Int} {u v : Nat} (e : ¬ 0 < L u v) : relaxL L src c h u v = h v ∧ relaxC L c u v = c v := by
  unfold relaxL relaxC
  rw [if_neg e, if_neg (fun hc => e hc.1)]
  exact ⟨rfl, rfl⟩

theorem relaxL_dear {L : Nat → Nat → Int} {src : Nat} {c : Nat → Int} {h : Nat → List Int} {u v : Nat} (h0 : 0 ≤ c v) (e : c v < c u + L u v) : relaxL L src c h u v = h v ∧ relaxC L c u v = c v := by
  unfold relaxL relaxC
  constructor
  · split
    · rw [if_neg (by omega), if_neg (by omega)]
    · rfl
  · rw [if_neg (by omega)]

theorem relaxL_less {L : Nat → Nat → Int} {src : Nat} {c : Nat → Int} {h : Nat → List Int} {u v : Nat} (hl : 0 < L u v) (e : c v < 0 ∨ c u + L u v < c v) : relaxL L src c h u v = addL [] (wayL src h u v) ∧ relaxC L c u v = c u + L u v := by
  unfold relaxL relaxC
  rw [if_pos hl, if_pos e, if_pos ⟨hl, e⟩]
  exact ⟨rfl, rfl⟩

theorem relaxL_like {L : Nat → Nat → Int} {src : Nat} {c : Nat → Int} {h : Nat → List Int} {u v : Nat} (hl : 0 < L u v) (h0 : 0 ≤ c v) (e : c u + L u v = c v) : relaxL L src c h u v = addL (h v) (wayL src h u v) ∧ relaxC L c u v = c v := by
  unfold relaxL relaxC
  rw [if_pos hl, if_neg (by omega), if_pos e, if_neg (by omega)]
  exact ⟨rfl, rfl⟩
end Go.Proofs.YtidoieolejkflaaGreat
