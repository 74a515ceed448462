/-
  impl's order of records, lists in order, impl.StoreOk: their contracts.
  laws.szSelf, toSelf, eqSelf: their contracts.
-/
import Derived.Test.YtdaigojpeofmpaaPk7
import Derived.Test.YtdaigojpeofmpaaPk8
import Derived.Test.YtdaigojpeofmpaaPk10
import Derived.Test.YtdaigojpeofmpaaPk6
namespace Go.Proofs.Ytdaigojpeofmpaa
open Go.RowKit

def ordR (x y : RecD) : Int := cmpK (cmpN x.area y.area) (cmpN x.kind y.kind) (cmpN x.owner y.owner) (cmpN x.key y.key)

theorem ordR_neg (x y : RecD) : decide (ordR x y < 0) = beforeB x y := cmpK_neg x y

def storeB (xs : List RecD) : Bool := decide (xs.length ≤ 150) && allOk recOkB xs && ascB ordR xs

set_option maxRecDepth 100000 in
set_option maxHeartbeats 1000000 in
theorem orderKeyed_any (v1 v2 : Value) (x y : RecD) (w : World) : Calls Try.prog 87 #[.agg (recC x v1), .agg (recC y v2)] w fun e w' => e = .returned (.int .i64 (ordR x y)) ∧ Below w.heap.size w w' := by
  have HK := hide keyOf_raw
  unfold ordR
  have HO := hide (orderKeys_any x.area x.kind x.owner x.key y.area y.kind y.owner y.key)
  obtain ⟨r, hr⟩ : ∃ r, r = cmpK (cmpN x.area y.area) (cmpN x.kind y.kind) (cmpN x.owner y.owner) (cmpN x.key y.key) := ⟨_, rfl⟩
  rw [← hr] at HO ⊢
  clear hr
  unfold recC at *
  go_enter Try.func87, Try.ntmps87
  go_wp2
  obtain ⟨w1, hw1⟩ : ∃ w1, w1 = (w.alloc (.cells #[.int .i64 x.area, .int .i64 x.kind, .int .i64 x.owner, .int .i64 x.key, .int .i64 x.seq, v1, .int .i64 x.cost, .bool x.far] 56)).alloc (.cells #[.int .i64 y.area, .int .i64 y.kind, .int .i64 y.owner, .int .i64 y.key, .int .i64 y.seq, v2, .int .i64 y.cost, .bool y.far] 56) := ⟨_, rfl⟩
  have B1 : Below w.heap.size w w1 := by rw [hw1]; exact below_two _ _
  have p0 : w1.heap[w.heap.size]? = some (.cells #[.int .i64 x.area, .int .i64 x.kind, .int .i64 x.owner, .int .i64 x.key, .int .i64 x.seq, v1, .int .i64 x.cost, .bool x.far] 56) := by rw [hw1, Below.heap_alloc _ _ _ (by simp), heap_alloc_new]
  have q0 : w1.heap[w.heap.size + 1]? = some (.cells #[.int .i64 y.area, .int .i64 y.kind, .int .i64 y.owner, .int .i64 y.key, .int .i64 y.seq, v2, .int .i64 y.cost, .bool y.far] 56) := by
    rw [hw1]
    have := heap_alloc_new (w.alloc (.cells #[.int .i64 x.area, .int .i64 x.kind, .int .i64 x.owner, .int .i64 x.key, .int .i64 x.seq, v1, .int .i64 x.cost, .bool x.far] 56)) (.cells #[.int .i64 y.area, .int .i64 y.kind, .int .i64 y.owner, .int .i64 y.key, .int .i64 y.seq, v2, .int .i64 y.cost, .bool y.far] 56)
    simpa using this
  rw [← hw1]
  clear hw1
  have s0 := cells_at p0 0
  have s1 := cells_at p0 1
  have s2 := cells_at p0 2
  have s3 := cells_at p0 3
  have s4 := cells_at p0 4
  have s5 := cells_at p0 5
  have s6 := cells_at p0 6
  have s7 := cells_at p0 7
  simp at s0 s1 s2 s3 s4 s5 s6 s7
  have t0 := cells_at q0 0
  have t1 := cells_at q0 1
  have t2 := cells_at q0 2
  have t3 := cells_at q0 3
  have t4 := cells_at q0 4
  have t5 := cells_at q0 5
  have t6 := cells_at q0 6
  have t7 := cells_at q0 7
  simp at t0 t1 t2 t3 t4 t5 t6 t7
  have hz0 := lt_of_heap p0
  have hz1 := lt_of_heap q0
  clear p0 q0
  have hz2 := B1.size
  go_region_held3 (fun W => W.cell? ⟨w.heap.size, 0, none⟩ = some (.int .i64 x.area) ∧ W.cell? ⟨w.heap.size, 1, none⟩ = some (.int .i64 x.kind) ∧ W.cell? ⟨w.heap.size, 2, none⟩ = some (.int .i64 x.owner) ∧ W.cell? ⟨w.heap.size, 3, none⟩ = some (.int .i64 x.key) ∧ W.cell? ⟨w.heap.size, 4, none⟩ = some (.int .i64 x.seq) ∧ W.cell? ⟨w.heap.size, 5, none⟩ = some (v1) ∧ W.cell? ⟨w.heap.size, 6, none⟩ = some (.int .i64 x.cost) ∧ W.cell? ⟨w.heap.size, 7, none⟩ = some (.bool x.far) ∧ W.cell? ⟨w.heap.size + 1, 0, none⟩ = some (.int .i64 y.area) ∧ W.cell? ⟨w.heap.size + 1, 1, none⟩ = some (.int .i64 y.kind) ∧ W.cell? ⟨w.heap.size + 1, 2, none⟩ = some (.int .i64 y.owner) ∧ W.cell? ⟨w.heap.size + 1, 3, none⟩ = some (.int .i64 y.key) ∧ W.cell? ⟨w.heap.size + 1, 4, none⟩ = some (.int .i64 y.seq) ∧ W.cell? ⟨w.heap.size + 1, 5, none⟩ = some (v2) ∧ W.cell? ⟨w.heap.size + 1, 6, none⟩ = some (.int .i64 y.cost) ∧ W.cell? ⟨w.heap.size + 1, 7, none⟩ = some (.bool y.far)) (first | go_keep | (refine ⟨?_, ?_, ?_, ?_, ?_, ?_, ?_, ?_, ?_, ?_, ?_, ?_, ?_, ?_, ?_, ?_⟩ <;> (rw [b4.cell (Nat.lt_of_lt_of_le (Nat.lt_of_lt_of_le (by assumption) b2.size) b3.size), b3.cell (Nat.lt_of_lt_of_le (by assumption) b2.size), b2.cell (by assumption)]; assumption)) | (refine ⟨?_, ?_, ?_, ?_, ?_, ?_, ?_, ?_, ?_, ?_, ?_, ?_, ?_, ?_, ?_, ?_⟩ <;> (rw [b3.cell (Nat.lt_of_lt_of_le (by assumption) b2.size), b2.cell (by assumption)]; assumption)) | (refine ⟨?_, ?_, ?_, ?_, ?_, ?_, ?_, ?_, ?_, ?_, ?_, ?_, ?_, ?_, ?_, ?_⟩ <;> (rw [b2.cell (by assumption)]; assumption))) (first | (go_at_call 109; refine (HO.out _).mono ?_; rintro e w4 ⟨rfl, b4⟩) | (have hb2 := b2; refine (HK.out _ _ _ _ _ _ _ _ _).mono ?_; rintro e w3 ⟨rfl, b3⟩) | (refine (HK.out _ _ _ _ _ _ _ _ _).mono ?_; rintro e w2 ⟨rfl, b2⟩))
  have B2 : Below w.heap.size w w2 := B1.drew.trans (b2.mono B1.size)
  have B3 : Below w.heap.size w w3 := B2.trans (b3.mono B2.size)
  have B4 : Below w.heap.size w w4 := B3.trans (b4.mono B3.size)
  go_wp2
  go_ret
  exact ⟨rfl, B4⟩

set_option maxRecDepth 100000 in
set_option maxHeartbeats 4000000 in
theorem ascRec_any (v : Value) (ps : List RP) (w : World) (hls : ps.length ≤ 1048576) (hv : RecsAt w v ps w.heap.size) :
    Calls Try.prog 86 #[v, .func (.func 87) #[] #[]] w fun e w' => e = .returned (.bool (ascB ordR (fsts ps))) ∧ Below w.heap.size w w' := by
  obtain ⟨a, cap, rfl⟩ := hv.shape
  have HV := hide hv
  clear hv
  have hfl : (fsts ps).length = ps.length := by simp [fsts]
  have HFL := hide hfl
  clear hfl
  go_enter Try.func86, Try.ntmps86
  go_wp2
  go_loopw [5] (fun i wr => ∃ k : Nat, 1 ≤ k ∧ (k ≤ ps.length ∨ k = 1) ∧ i = .int .i64 k ∧ (∀ j, j < k → ascAt ordR (fsts ps) j = true) ∧ Below w.heap.size w wr) (fun i _ => ps.length + 1 - (intOf i).toNat)
  case atStart => exact ⟨1, by omega, by omega, rfl, fun j hj => by obtain rfl : j = 0 := by omega
                                                                    rfl, Below.refl _ _⟩
  case round =>
    obtain ⟨k, hk1, hk, rfl, hno, hb⟩ := hrel
    have HNO := hide hno
    clear hno
    by_cases hlt : k < ps.length
    · obtain ⟨l, hl⟩ : ∃ l, ps[k]? = some l := ⟨ps[k], List.getElem?_eq_getElem hlt⟩
      obtain ⟨j, hj⟩ : ∃ j, k = j + 1 := ⟨k - 1, by omega⟩
      obtain ⟨p, hp⟩ : ∃ p, ps[j]? = some p := ⟨ps[j], List.getElem?_eq_getElem (by omega)⟩
      obtain ⟨b, off, cap', hve, hbb, c0, c1, c2, c3, c4, c5, c6, c7, _⟩ := HV.out.cells k l hl
      cases hve
      obtain ⟨b', off', cap2, hve2, hbb2, d0, d1, d2, d3, d4, d5, d6, d7, _⟩ := HV.out.cells j p hp
      cases hve2
      rw [← hb.cell (p := ⟨b, off + k * 8, none⟩) hbb] at c0
      rw [← hb.cell (p := ⟨b, off + k * 8 + 1, none⟩) hbb] at c1
      rw [← hb.cell (p := ⟨b, off + k * 8 + 2, none⟩) hbb] at c2
      rw [← hb.cell (p := ⟨b, off + k * 8 + 3, none⟩) hbb] at c3
      rw [← hb.cell (p := ⟨b, off + k * 8 + 4, none⟩) hbb] at c4
      rw [← hb.cell (p := ⟨b, off + k * 8 + 5, none⟩) hbb] at c5
      rw [← hb.cell (p := ⟨b, off + k * 8 + 6, none⟩) hbb] at c6
      rw [← hb.cell (p := ⟨b, off + k * 8 + 7, none⟩) hbb] at c7
      rw [← hb.cell (p := ⟨b, off + j * 8, none⟩) hbb] at d0
      rw [← hb.cell (p := ⟨b, off + j * 8 + 1, none⟩) hbb] at d1
      rw [← hb.cell (p := ⟨b, off + j * 8 + 2, none⟩) hbb] at d2
      rw [← hb.cell (p := ⟨b, off + j * 8 + 3, none⟩) hbb] at d3
      rw [← hb.cell (p := ⟨b, off + j * 8 + 4, none⟩) hbb] at d4
      rw [← hb.cell (p := ⟨b, off + j * 8 + 5, none⟩) hbb] at d5
      rw [← hb.cell (p := ⟨b, off + j * 8 + 6, none⟩) hbb] at d6
      rw [← hb.cell (p := ⟨b, off + j * 8 + 7, none⟩) hbb] at d7
      have hat : ascAt ordR (fsts ps) k = decide (ordR p.1 l.1 < 0) := by rw [hj]; exact ascAt_eq (fsts_at hp) (by rw [← hj]; exact fsts_at hl)
      have hzr := hb.size
      have hbr : b < wr.heap.size := by omega
      have hki : (0 : Int) ≤ (k : Int) := by omega
      have hkj : (k : Int) < (ps.length : Int) := by omega
      have hj1 : (k : Int) - 1 = (j : Int) := by omega
      have hj2 : (0 : Int) ≤ (j : Int) := by omega
      have hj3 : (j : Int) < (ps.length : Int) := by omega
      have hj5 : IntKind.i64.wrap (j : Int) = (j : Int) := wrap_fit _ (by omega) (by omega)
      have HORD := hide (orderKeyed_any p.2 l.2 p.1 l.1)
      have HAT := hide hat
      clear hl hp hat hj
      obtain ⟨x, hx⟩ : ∃ x, x = ordR p.1 l.1 := ⟨_, rfl⟩
      rw [← hx] at HORD HAT
      clear hx
      unfold recC at HORD
      by_cases hx0 : x < 0
      · have hx1 : ¬ (0 : Int) ≤ x := by omega
        rw [decide_eq_true hx0] at HAT
        go_wp2
        go_region_held3 (fun W => W.cell? ⟨b, off + k * 8, none⟩ = some (.int .i64 l.1.area) ∧ W.cell? ⟨b, off + k * 8 + 1, none⟩ = some (.int .i64 l.1.kind) ∧ W.cell? ⟨b, off + k * 8 + 2, none⟩ = some (.int .i64 l.1.owner) ∧ W.cell? ⟨b, off + k * 8 + 3, none⟩ = some (.int .i64 l.1.key) ∧ W.cell? ⟨b, off + k * 8 + 4, none⟩ = some (.int .i64 l.1.seq) ∧ W.cell? ⟨b, off + k * 8 + 5, none⟩ = some (l.2) ∧ W.cell? ⟨b, off + k * 8 + 6, none⟩ = some (.int .i64 l.1.cost) ∧ W.cell? ⟨b, off + k * 8 + 7, none⟩ = some (.bool l.1.far) ∧ W.cell? ⟨b, off + j * 8, none⟩ = some (.int .i64 p.1.area) ∧ W.cell? ⟨b, off + j * 8 + 1, none⟩ = some (.int .i64 p.1.kind) ∧ W.cell? ⟨b, off + j * 8 + 2, none⟩ = some (.int .i64 p.1.owner) ∧ W.cell? ⟨b, off + j * 8 + 3, none⟩ = some (.int .i64 p.1.key) ∧ W.cell? ⟨b, off + j * 8 + 4, none⟩ = some (.int .i64 p.1.seq) ∧ W.cell? ⟨b, off + j * 8 + 5, none⟩ = some (p.2) ∧ W.cell? ⟨b, off + j * 8 + 6, none⟩ = some (.int .i64 p.1.cost) ∧ W.cell? ⟨b, off + j * 8 + 7, none⟩ = some (.bool p.1.far)) (first | go_keep | (refine ⟨?_, ?_, ?_, ?_, ?_, ?_, ?_, ?_, ?_, ?_, ?_, ?_, ?_, ?_, ?_, ?_⟩ <;> (rw [hbc.cell (by assumption)]; assumption))) (first | (go_at_call 87; refine (HORD.out _).mono ?_; rintro e w2 ⟨rfl, hbc⟩))
        go_wp2
        exact ⟨⟨k + 1, by omega, by omega, by go_num, next_true HNO.out HAT.out, hb.drew.trans (hbc.mono hb.size)⟩, by simp [intOf]; omega⟩
      · have hx1 : (0 : Int) ≤ x := by omega
        rw [decide_eq_false hx0] at HAT
        have hf : ascB ordR (fsts ps) = false := all_false (by rw [HFL.out]; exact hlt) HAT.out
        have HF := hide hf
        clear hf
        go_wp2
        go_region_held3 (fun W => W.cell? ⟨b, off + k * 8, none⟩ = some (.int .i64 l.1.area) ∧ W.cell? ⟨b, off + k * 8 + 1, none⟩ = some (.int .i64 l.1.kind) ∧ W.cell? ⟨b, off + k * 8 + 2, none⟩ = some (.int .i64 l.1.owner) ∧ W.cell? ⟨b, off + k * 8 + 3, none⟩ = some (.int .i64 l.1.key) ∧ W.cell? ⟨b, off + k * 8 + 4, none⟩ = some (.int .i64 l.1.seq) ∧ W.cell? ⟨b, off + k * 8 + 5, none⟩ = some (l.2) ∧ W.cell? ⟨b, off + k * 8 + 6, none⟩ = some (.int .i64 l.1.cost) ∧ W.cell? ⟨b, off + k * 8 + 7, none⟩ = some (.bool l.1.far) ∧ W.cell? ⟨b, off + j * 8, none⟩ = some (.int .i64 p.1.area) ∧ W.cell? ⟨b, off + j * 8 + 1, none⟩ = some (.int .i64 p.1.kind) ∧ W.cell? ⟨b, off + j * 8 + 2, none⟩ = some (.int .i64 p.1.owner) ∧ W.cell? ⟨b, off + j * 8 + 3, none⟩ = some (.int .i64 p.1.key) ∧ W.cell? ⟨b, off + j * 8 + 4, none⟩ = some (.int .i64 p.1.seq) ∧ W.cell? ⟨b, off + j * 8 + 5, none⟩ = some (p.2) ∧ W.cell? ⟨b, off + j * 8 + 6, none⟩ = some (.int .i64 p.1.cost) ∧ W.cell? ⟨b, off + j * 8 + 7, none⟩ = some (.bool p.1.far)) (first | go_keep | (refine ⟨?_, ?_, ?_, ?_, ?_, ?_, ?_, ?_, ?_, ?_, ?_, ?_, ?_, ?_, ?_, ?_⟩ <;> (rw [hbc.cell (by assumption)]; assumption))) (first | (go_at_call 87; refine (HORD.out _).mono ?_; rintro e w2 ⟨rfl, hbc⟩))
        go_wp2
        go_ret
        exact ⟨ret_bool HF.out, hb.drew.trans (hbc.mono hb.size)⟩
    · have hall : ascB ordR (fsts ps) = true := all_true fun i hi => HNO.out i (by have := HFL.out; omega)
      have HA := hide hall
      clear hall
      go_wp2
      go_ret
      exact ⟨ret_bool HA.out, hb⟩

set_option maxRecDepth 100000 in
set_option maxHeartbeats 1000000 in
theorem inOrder_any (v : Value) (ps : List RP) (w : World) (hls : ps.length ≤ 1048576) (hv : RecsAt w v ps w.heap.size) :
    Calls Try.prog 50 #[v] w fun e w' => e = .returned (.bool (ascB ordR (fsts ps))) ∧ Below w.heap.size w w' := by
  have H := hide (ascRec_any v ps w hls hv)
  obtain ⟨a, cap, rfl⟩ := hv.shape
  clear hv
  go_enter Try.func50, Try.ntmps50
  go_wp2_with fail
  refine H.out.mono ?_
  rintro e w1 ⟨rfl, b1⟩
  go_wp2
  go_ret
  exact ⟨rfl, b1⟩

theorem store_long {xs : List RecD} (h : ¬ xs.length ≤ 150) : storeB xs = false := by unfold storeB; rw [decide_eq_false h]; rfl

theorem store_bad {xs : List RecD} {k : Nat} (hk : k < xs.length) (h : okAt recOkB xs k = false) : storeB xs = false := by unfold storeB allOk; rw [all_false hk h]; simp

set_option maxRecDepth 100000 in
set_option maxHeartbeats 2000000 in
theorem istoreOk_any (v : Value) (ps : List RP) (w : World) (hn : tot ps ≤ 1048576) (hv : RecsAt w v ps w.heap.size) :
    Calls Try.prog 20 #[v] w fun e w' => e = .returned (.bool (storeB (fsts ps))) ∧ Below w.heap.size w w' := by
  have hnl := tot_len ps
  obtain ⟨a, cap, rfl⟩ := hv.shape
  have HV := hide hv
  clear hv
  have hfl : (fsts ps).length = ps.length := by simp [fsts]
  by_cases hlong : (150 : Int) < (ps.length : Int)
  · have HF := hide (store_long (xs := fsts ps) (by omega))
    clear hfl
    go_enter Try.func20, Try.ntmps20
    go_wp2
    go_ret
    exact ⟨ret_bool HF.out, Below.refl _ _⟩
  have HFL := hide hfl
  clear hfl
  go_enter Try.func20, Try.ntmps20
  go_wp2
  go_loopw [10] (fun i wr => ∃ k : Nat, k ≤ ps.length ∧ i = .int .i64 k ∧ (∀ j, j < k → okAt recOkB (fsts ps) j = true) ∧ Below w.heap.size w wr) (fun i _ => ps.length - (intOf i).toNat)
  case atStart => exact ⟨0, by omega, rfl, by omega, Below.refl _ _⟩
  case round =>
    obtain ⟨k, hk, rfl, hall, hnx⟩ := hrel
    have HALL := hide hall
    clear hall
    have hsz := hnx.size
    by_cases hlt : k < ps.length
    · obtain ⟨p, hp⟩ : ∃ p, ps[k]? = some p := ⟨ps[k], List.getElem?_eq_getElem hlt⟩
      obtain ⟨b, off, cap', hve, hbb, c0, c1, c2, c3, c4, c5, c6, c7, hnr⟩ := HV.out.cells k p hp
      cases hve
      rw [← hnx.cell (p := ⟨b, off + k * 8, none⟩) hbb] at c0
      rw [← hnx.cell (p := ⟨b, off + k * 8 + 1, none⟩) hbb] at c1
      rw [← hnx.cell (p := ⟨b, off + k * 8 + 2, none⟩) hbb] at c2
      rw [← hnx.cell (p := ⟨b, off + k * 8 + 3, none⟩) hbb] at c3
      rw [← hnx.cell (p := ⟨b, off + k * 8 + 4, none⟩) hbb] at c4
      rw [← hnx.cell (p := ⟨b, off + k * 8 + 5, none⟩) hbb] at c5
      rw [← hnx.cell (p := ⟨b, off + k * 8 + 6, none⟩) hbb] at c6
      rw [← hnx.cell (p := ⟨b, off + k * 8 + 7, none⟩) hbb] at c7
      have hnr2 := (RowAt.later hnr hnx (Nat.le_refl _)).more hnx.size
      obtain ⟨pa, pc, hpn⟩ := NearsAt.shape hnr
      have HOK := fun o => irecOk_any p.2 p.1 (wr.alloc o) (by have := tot_mem (List.mem_of_getElem? hp); omega) (RowAt.then hnr2 ((Below.refl _ _).alloc (Nat.le_refl _) o))
      unfold recC at HOK
      rw [hpn] at c5 HOK
      have HAT := okAt_eq (ok := recOkB) (fsts_at hp)
      obtain ⟨q, hq⟩ : ∃ q, q = recOkB p.1 := ⟨_, rfl⟩
      rw [← hq] at HOK HAT
      have HOK2 := hide HOK
      have HAT2 := hide HAT
      clear hp hnr hnr2 hpn HOK HAT hq
      have hki : (0 : Int) ≤ (k : Int) := by omega
      have hkj : (k : Int) < (ps.length : Int) := by omega
      go_wp2_with fail
      refine (HOK2.out _).mono ?_
      rintro e w2 ⟨rfl, b2⟩
      have B2 : Below w.heap.size w w2 := (hnx.alloc hsz _).trans (b2.mono (by simp; omega))
      cases q
      · have HF := hide (store_bad (by rw [HFL.out]; exact hlt) HAT2.out)
        go_wp2
        go_ret
        exact ⟨ret_bool HF.out, B2⟩
      · go_wp2
        go_roundw
        case rel => exact ⟨k + 1, by omega, by go_num, next_true HALL.out HAT2.out, B2⟩
        case measure => simp [intOf]; omega
    · have e1 : allOk recOkB (fsts ps) = true := all_true fun i hi => HALL.out i (by have := HFL.out; omega)
      have e2 : storeB (fsts ps) = ascB ordR (fsts ps) := by
        unfold storeB
        rw [e1, decide_eq_true (by have := HFL.out; omega)]
        rfl
      have HE := hide e2
      have HIO := hide (inOrder_any (.slice a ps.length cap) ps wr (by omega) ((HV.out.later hnx (Nat.le_refl _)).more hsz))
      clear e1 e2
      go_wp2_with fail
      refine HIO.out.mono ?_
      rintro e w2 ⟨rfl, b2⟩
      go_wp2
      go_ret
      exact ⟨ret_bool HE.out, hnx.trans (b2.mono hsz)⟩
end Go.Proofs.Ytdaigojpeofmpaa
namespace Go.Proofs.Ytdaigojpeofmpaa
open Go.RowKit

theorem SelfIn.net {W : World} {v1 v2 v3 v4 : Value} {x : SelfD} {ps : List RP} {B : Nat} (h : SelfIn W v1 v2 v3 v4 x ps B) : NetAt W (.agg #[.int .i64 x.net.n, v1, v2]) x.net B := ⟨v1, v2, rfl, h.links, h.things⟩

theorem SelfIn.shapes {W : World} {v1 v2 v3 v4 : Value} {x : SelfD} {ps : List RP} {B : Nat} (h : SelfIn W v1 v2 v3 v4 x ps B) : (∃ a c, v1 = .slice a x.net.ls.length c) ∧ (∃ a c, v2 = .slice a x.net.ts.length c) ∧ (∃ a c, v3 = .slice a x.heard.length c) ∧ ∃ a c, v4 = .slice a ps.length c :=
  ⟨h.links.shape, h.things.shape, h.heard.shape, h.store.shape⟩

set_option maxRecDepth 100000 in
set_option maxHeartbeats 1000000 in
theorem szSelf_any (v1 v2 v3 v4 : Value) (x : SelfD) (ps : List RP) (q : Int) (w : World) (hlen : SelfLen x ps) (hq0 : 0 ≤ q) (hq : q ≤ 1048576) (hv : SelfIn w v1 v2 v3 v4 x ps w.heap.size) :
    Calls Try.prog 6 #[selfV x v1 v2 v3 v4, .int .i64 q] w fun e w' => ∃ r : Int, e = .returned (.int .i64 r) ∧ (r < 0 ∨ (0 ≤ r ∧ r = q - (totS x ps : Int))) ∧ Below w.heap.size w w' := by
  obtain ⟨⟨a1, c1, rfl⟩, ⟨a2, c2, rfl⟩, ⟨a3, c3, rfl⟩, ⟨a4, c4, rfl⟩⟩ := hv.shapes
  have hm : maxLen = 9223372036854775807 := rfl
  have l1 : (x.net.ls.length : Int) ≤ 9223372036854775807 := by have := hlen.1; omega
  have l2 : (x.net.ts.length : Int) ≤ 9223372036854775807 := by have := hlen.2.1; omega
  have l3 : (x.heard.length : Int) ≤ 9223372036854775807 := by have := hlen.2.2.1; omega
  have HX := hide hv
  have HL := hide hlen
  have HT := hide (show (totS x ps : Int) = (x.net.ls.length : Int) + (x.net.ts.length : Int) + (x.heard.length : Int) + (tot ps : Int) by unfold totS; omega)
  have hsz := szNet_any (.int .i64 x.net.n) a1 a2 x.net.ls.length x.net.ts.length c1 c2 q
  have HSZ := hide hsz
  clear hv hlen hm hsz
  obtain ⟨y, hy⟩ : ∃ y, y = szN q x.net.ls.length x.net.ts.length := ⟨_, rfl⟩
  rw [← hy] at HSZ
  have hy2 : y = -1 ∨ (0 ≤ y ∧ y = q - (x.net.ls.length : Int) - (x.net.ts.length : Int)) := by
    rw [hy]
    unfold szN
    split
    · exact .inl rfl
    · split
      · exact .inl rfl
      · exact .inr ⟨by omega, rfl⟩
  clear hy
  go_enter Try.func6, Try.ntmps6
  go_wp2_with fail
  refine (HSZ.out _ l1 l2 hq0 hq).mono ?_
  rintro e w1 ⟨rfl, b1⟩
  have g1 : w1.heap[w.heap.size]? = some (.cells #[.int .i64 x.id, .int .i64 x.boot, .int .i64 x.net.n, .slice a1 x.net.ls.length c1, .slice a2 x.net.ts.length c2, .slice a3 x.heard.length c3, .slice a4 ps.length c4] 29) := by rw [b1.block _ (by simp)]; exact heap_alloc_new w _
  have B1 : Below w.heap.size w w1 := ((Below.refl _ _).alloc (Nat.le_refl _) _).trans (b1.mono (by simp))
  clear b1
  rcases hy2 with hy2 | ⟨hy0, hy2⟩
  · subst hy2
    go_wp2
    go_ret
    exact ⟨-1, rfl, .inl (by omega), B1⟩
  have hy1 : ¬ y < 0 := by omega
  have hyq : y ≤ 1048576 := by omega
  have HY2 := hide hy2
  clear hy2
  have s5 := cells_at g1 5
  simp at s5
  have HSI := hide (szIntS_any a3 x.heard.length c3 y w1 l3 hy0 hyq)
  have G1 := hide g1
  clear g1
  go_wp2_with fail
  refine HSI.out.mono ?_
  rintro e w2 ⟨rfl, rfl⟩
  by_cases h3 : y - (x.heard.length : Int) < 0
  · rw [if_pos h3]
    clear s5
    go_wp2
    go_ret
    exact ⟨-1, rfl, .inl (by omega), B1⟩
  rw [if_neg h3]
  clear s5
  obtain ⟨z, hz⟩ : ∃ z, z = y - (x.heard.length : Int) := ⟨_, rfl⟩
  rw [← hz] at h3 ⊢
  have hz0 : 0 ≤ z := by omega
  have hz1 : z ≤ 1048576 := by omega
  have HZ := hide hz
  clear hz
  have g1 := G1.out
  have s6 := cells_at g1 6
  simp at s6
  have HSR := hide (szRecordS_any (.slice a4 ps.length c4) ps z w1 HL.out.2.2.2.1 HL.out.2.2.2.2 hz0 hz1 ((HX.out.store.later B1 (Nat.le_refl _)).more B1.size))
  clear g1
  go_wp2_with fail
  refine HSR.out.mono ?_
  rintro e w3 ⟨r, rfl, hr, b3⟩
  have B3 : Below w.heap.size w w3 := B1.trans (b3.mono B1.size)
  clear b3 s6
  rcases hr with hr | ⟨hr0, hr⟩
  · go_wp2
    go_ret
    exact ⟨-1, rfl, .inl (by omega), B3⟩
  · have hr1 : ¬ r < 0 := by omega
    have HR := hide hr
    clear hr
    go_wp2
    go_ret
    exact ⟨r, rfl, .inr ⟨hr0, by rw [HT.out]; have := HR.out; have := HZ.out; have := HY2.out; omega⟩, B3⟩

set_option maxRecDepth 100000 in
set_option maxHeartbeats 2000000 in
theorem toSelf_any (v1 v2 v3 v4 : Value) (x : SelfD) (ps : List RP) (w : World) (ht : totS x ps ≤ 1048576) (hv : SelfIn w v1 v2 v3 v4 x ps w.heap.size) :
    Calls Try.prog 8 #[selfV x v1 v2 v3 v4] w fun e w' => ∃ u1 u2 u3 u4 qs m1 m2, e = .returned (selfV x u1 u2 u3 u4) ∧ fsts qs = fsts ps ∧ SelfOwn w' w.heap.size w'.heap.size u1 u2 u3 u4 x qs m1 m2 ∧ Below w.heap.size w w' := by
  obtain ⟨⟨a1, c1, rfl⟩, ⟨a2, c2, rfl⟩, ⟨a3, c3, rfl⟩, ⟨a4, c4, rfl⟩⟩ := hv.shapes
  have hlL : x.net.ls.length ≤ 1048576 := by unfold totS at ht; omega
  have hlT : x.net.ts.length ≤ 1048576 := by unfold totS at ht; omega
  have hlH : x.heard.length ≤ 1048576 := by unfold totS at ht; omega
  have hlR : tot ps ≤ 1048576 := by unfold totS at ht; omega
  have HX := hide hv
  clear hv ht
  go_enter Try.func8, Try.ntmps8
  go_wp2_with fail
  have hw0 := heap3_0 w (.cells #[.int .i64 x.id, .int .i64 x.boot, .int .i64 x.net.n, .slice a1 x.net.ls.length c1, .slice a2 x.net.ts.length c2, .slice a3 x.heard.length c3, .slice a4 ps.length c4] 29) (.cells #[.int .i64 0, .int .i64 0, .int .i64 0, .slice none 0 0, .slice none 0 0, .slice none 0 0, .slice none 0 0] 38) (.cells #[.int .i64 x.id, .int .i64 x.boot, .int .i64 0, .slice none 0 0, .slice none 0 0, .slice none 0 0, .slice none 0 0] 38)
  have hw1 := heap3_1 w (.cells #[.int .i64 x.id, .int .i64 x.boot, .int .i64 x.net.n, .slice a1 x.net.ls.length c1, .slice a2 x.net.ts.length c2, .slice a3 x.heard.length c3, .slice a4 ps.length c4] 29) (.cells #[.int .i64 0, .int .i64 0, .int .i64 0, .slice none 0 0, .slice none 0 0, .slice none 0 0, .slice none 0 0] 38) (.cells #[.int .i64 x.id, .int .i64 x.boot, .int .i64 0, .slice none 0 0, .slice none 0 0, .slice none 0 0, .slice none 0 0] 38)
  have hw2 := heap3_2 w (.cells #[.int .i64 x.id, .int .i64 x.boot, .int .i64 x.net.n, .slice a1 x.net.ls.length c1, .slice a2 x.net.ts.length c2, .slice a3 x.heard.length c3, .slice a4 ps.length c4] 29) (.cells #[.int .i64 0, .int .i64 0, .int .i64 0, .slice none 0 0, .slice none 0 0, .slice none 0 0, .slice none 0 0] 38) (.cells #[.int .i64 x.id, .int .i64 x.boot, .int .i64 0, .slice none 0 0, .slice none 0 0, .slice none 0 0, .slice none 0 0] 38)
  have bw := below_three (w := w) (.cells #[.int .i64 x.id, .int .i64 x.boot, .int .i64 x.net.n, .slice a1 x.net.ls.length c1, .slice a2 x.net.ts.length c2, .slice a3 x.heard.length c3, .slice a4 ps.length c4] 29) (.cells #[.int .i64 0, .int .i64 0, .int .i64 0, .slice none 0 0, .slice none 0 0, .slice none 0 0, .slice none 0 0] 38) (.cells #[.int .i64 x.id, .int .i64 x.boot, .int .i64 0, .slice none 0 0, .slice none 0 0, .slice none 0 0, .slice none 0 0] 38)
  generalize (((w.alloc (.cells #[.int .i64 x.id, .int .i64 x.boot, .int .i64 x.net.n, .slice a1 x.net.ls.length c1, .slice a2 x.net.ts.length c2, .slice a3 x.heard.length c3, .slice a4 ps.length c4] 29)).alloc (.cells #[.int .i64 0, .int .i64 0, .int .i64 0, .slice none 0 0, .slice none 0 0, .slice none 0 0, .slice none 0 0] 38)).alloc (.cells #[.int .i64 x.id, .int .i64 x.boot, .int .i64 0, .slice none 0 0, .slice none 0 0, .slice none 0 0, .slice none 0 0] 38)) = w1 at *
  refine (toNet_any _ x.net w1 hlL hlT (HX.out.then bw).net).mono ?_
  rintro e w2 ⟨p1, p2, rfl, ho1, ho2, b2⟩
  obtain ⟨p1a, p1c, rfl⟩ := owns_lenS ho1
  obtain ⟨p2a, p2c, rfl⟩ := owns_lenS ho2
  have l2 := lt_of_heap hw2
  rw [← b2.block _ (lt_of_heap hw0)] at hw0
  rw [← b2.block _ (lt_of_heap hw1)] at hw1
  rw [← b2.block _ l2] at hw2
  have hb12 : w.heap.size ≤ w1.heap.size := bw.size
  have hb22 : w1.heap.size ≤ w2.heap.size := b2.size
  have bw2 : Below w.heap.size w w2 := bw.trans (b2.mono hb12)
  have s2 := cells_at hw2 2
  have s3 := cells_at hw2 3
  have s4 := cells_at hw2 4
  simp at s2 s3 s4
  have t5 := cells_at hw0 5
  simp at t5
  have f2 := frozen_at hw2 2
  have f3 := frozen_at hw2 3
  have f4 := frozen_at hw2 4
  have O1 := hide ho1
  have O2 := hide ho2
  have HW0 := hide hw0
  have HW1 := hide hw1
  have HW2 := hide hw2
  clear ho1 ho2 hw0 hw1 hw2

  go_wp2_with fail
  have o1 := owns_set (p := w.heap.size + 1 + 1) (j := 4) (u := .slice p2a x.net.ts.length p2c) (owns_set (p := w.heap.size + 1 + 1) (j := 3) (u := .slice p1a x.net.ls.length p1c) (owns_set (p := w.heap.size + 1 + 1) (j := 2) (u := .int .i64 x.net.n) O1.out (by omega)) (by omega)) (by omega)
  have o2 := owns_set (p := w.heap.size + 1 + 1) (j := 4) (u := .slice p2a x.net.ts.length p2c) (owns_set (p := w.heap.size + 1 + 1) (j := 3) (u := .slice p1a x.net.ls.length p1c) (owns_set (p := w.heap.size + 1 + 1) (j := 2) (u := .int .i64 x.net.n) O2.out (by omega)) (by omega)) (by omega)
  have q0 : (((w2.setCell ⟨w.heap.size + 1 + 1, 2, none⟩ (.int .i64 x.net.n)).setCell ⟨w.heap.size + 1 + 1, 3, none⟩ (.slice p1a x.net.ls.length p1c)).setCell ⟨w.heap.size + 1 + 1, 4, none⟩ (.slice p2a x.net.ts.length p2c)).heap[w.heap.size]? = some (.cells #[.int .i64 x.id, .int .i64 x.boot, .int .i64 x.net.n, .slice a1 x.net.ls.length c1, .slice a2 x.net.ts.length c2, .slice a3 x.heard.length c3, .slice a4 ps.length c4] 29) := by
    rw [heap_setCell_other _ ⟨w.heap.size + 1 + 1, 4, none⟩ _ _ (by show w.heap.size ≠ w.heap.size + 1 + 1; omega), heap_setCell_other _ ⟨w.heap.size + 1 + 1, 3, none⟩ _ _ (by show w.heap.size ≠ w.heap.size + 1 + 1; omega), heap_setCell_other _ ⟨w.heap.size + 1 + 1, 2, none⟩ _ _ (by show w.heap.size ≠ w.heap.size + 1 + 1; omega)]
    exact HW0.out
  have q1 : (((w2.setCell ⟨w.heap.size + 1 + 1, 2, none⟩ (.int .i64 x.net.n)).setCell ⟨w.heap.size + 1 + 1, 3, none⟩ (.slice p1a x.net.ls.length p1c)).setCell ⟨w.heap.size + 1 + 1, 4, none⟩ (.slice p2a x.net.ts.length p2c)).heap[w.heap.size + 1]? = some (.cells #[.int .i64 0, .int .i64 0, .int .i64 0, .slice none 0 0, .slice none 0 0, .slice none 0 0, .slice none 0 0] 38) := by
    rw [heap_setCell_other _ ⟨w.heap.size + 1 + 1, 4, none⟩ _ _ (by show w.heap.size + 1 ≠ w.heap.size + 1 + 1; omega), heap_setCell_other _ ⟨w.heap.size + 1 + 1, 3, none⟩ _ _ (by show w.heap.size + 1 ≠ w.heap.size + 1 + 1; omega), heap_setCell_other _ ⟨w.heap.size + 1 + 1, 2, none⟩ _ _ (by show w.heap.size + 1 ≠ w.heap.size + 1 + 1; omega)]
    exact HW1.out
  have q2 : (((w2.setCell ⟨w.heap.size + 1 + 1, 2, none⟩ (.int .i64 x.net.n)).setCell ⟨w.heap.size + 1 + 1, 3, none⟩ (.slice p1a x.net.ls.length p1c)).setCell ⟨w.heap.size + 1 + 1, 4, none⟩ (.slice p2a x.net.ts.length p2c)).heap[w.heap.size + 1 + 1]? = some (.cells #[.int .i64 x.id, .int .i64 x.boot, .int .i64 x.net.n, .slice p1a x.net.ls.length p1c, .slice p2a x.net.ts.length p2c, .slice none 0 0, .slice none 0 0] 38) := by
    have k0 := heap_setCell_same _ _ 2 _ _ (.int .i64 x.net.n) HW2.out
    have k1 := heap_setCell_same _ _ 3 _ _ (.slice p1a x.net.ls.length p1c) k0
    exact heap_setCell_same _ _ 4 _ _ (.slice p2a x.net.ts.length p2c) k1
  have bw3 : Below w.heap.size w (((w2.setCell ⟨w.heap.size + 1 + 1, 2, none⟩ (.int .i64 x.net.n)).setCell ⟨w.heap.size + 1 + 1, 3, none⟩ (.slice p1a x.net.ls.length p1c)).setCell ⟨w.heap.size + 1 + 1, 4, none⟩ (.slice p2a x.net.ts.length p2c)) := ((bw2.setCell (by show w.heap.size ≤ w.heap.size + 1 + 1; omega) _).setCell (by show w.heap.size ≤ w.heap.size + 1 + 1; omega) _).setCell (by show w.heap.size ≤ w.heap.size + 1 + 1; omega) _
  have z3 : (((w2.setCell ⟨w.heap.size + 1 + 1, 2, none⟩ (.int .i64 x.net.n)).setCell ⟨w.heap.size + 1 + 1, 3, none⟩ (.slice p1a x.net.ls.length p1c)).setCell ⟨w.heap.size + 1 + 1, 4, none⟩ (.slice p2a x.net.ts.length p2c)).heap.size = w2.heap.size := by simp
  generalize (((w2.setCell ⟨w.heap.size + 1 + 1, 2, none⟩ (.int .i64 x.net.n)).setCell ⟨w.heap.size + 1 + 1, 3, none⟩ (.slice p1a x.net.ls.length p1c)).setCell ⟨w.heap.size + 1 + 1, 4, none⟩ (.slice p2a x.net.ts.length p2c)) = w3 at *
  clear s2 s3 s4 t5 f2 f3 f4 HW0 HW1 HW2 O1 O2
  refine (toIntS_any _ x.heard w3 hlH (HX.out.heard.then bw3)).mono ?_
  rintro e w4 ⟨p3, rfl, ho3, b4⟩
  obtain ⟨p3a, p3c, rfl⟩ := owns_lenS ho3
  have hl3 := lt_of_heap q2
  rw [← b4.block _ (lt_of_heap q0)] at q0
  rw [← b4.block _ (lt_of_heap q1)] at q1
  rw [← b4.block _ hl3] at q2
  have hz4 := b4.size
  have bw4 : Below w.heap.size w w4 := bw3.trans (b4.mono bw3.size)
  have O1 := hide (owns_below o1 b4 (by omega))
  have O2 := hide (owns_below o2 b4 (by omega))
  have L1 := hide (show ∀ k, (Value.slice p1a x.net.ls.length p1c).ownBlock = some k → k < w3.heap.size from fun k hk => (o1.lt k hk).2)
  have L2 := hide (show ∀ k, (Value.slice p2a x.net.ts.length p2c).ownBlock = some k → k < w3.heap.size from fun k hk => (o2.lt k hk).2)
  have O3 := hide ho3
  have HW0 := hide q0
  have HW1 := hide q1
  have HW2 := hide q2
  have s5 := cells_at q2 5
  have f5 := frozen_at q2 5
  have t6 := cells_at q0 6
  simp at s5 t6
  clear o1 o2 ho3 q0 q1 q2
  go_wp2_with fail
  have o1 := owns_set (p := w.heap.size + 1 + 1) (j := 5) (u := .slice p3a x.heard.length p3c) O1.out (by omega)
  have o2 := owns_set (p := w.heap.size + 1 + 1) (j := 5) (u := .slice p3a x.heard.length p3c) O2.out (by omega)
  have o3 := owns_set (p := w.heap.size + 1 + 1) (j := 5) (u := .slice p3a x.heard.length p3c) O3.out (by omega)
  have q1 : (w4.setCell ⟨w.heap.size + 1 + 1, 5, none⟩ (.slice p3a x.heard.length p3c)).heap[w.heap.size + 1]? = some (.cells #[.int .i64 0, .int .i64 0, .int .i64 0, .slice none 0 0, .slice none 0 0, .slice none 0 0, .slice none 0 0] 38) := by
    rw [heap_setCell_other _ ⟨w.heap.size + 1 + 1, 5, none⟩ _ _ (by show w.heap.size + 1 ≠ w.heap.size + 1 + 1; omega)]
    exact HW1.out
  have q2 : (w4.setCell ⟨w.heap.size + 1 + 1, 5, none⟩ (.slice p3a x.heard.length p3c)).heap[w.heap.size + 1 + 1]? = some (.cells #[.int .i64 x.id, .int .i64 x.boot, .int .i64 x.net.n, .slice p1a x.net.ls.length p1c, .slice p2a x.net.ts.length p2c, .slice p3a x.heard.length p3c, .slice none 0 0] 38) := heap_setCell_same _ _ 5 _ _ (.slice p3a x.heard.length p3c) HW2.out
  have bw5 : Below w.heap.size w (w4.setCell ⟨w.heap.size + 1 + 1, 5, none⟩ (.slice p3a x.heard.length p3c)) := bw4.setCell (by show w.heap.size ≤ w.heap.size + 1 + 1; omega) _
  have z5 : (w4.setCell ⟨w.heap.size + 1 + 1, 5, none⟩ (.slice p3a x.heard.length p3c)).heap.size = w4.heap.size := by simp
  generalize (w4.setCell ⟨w.heap.size + 1 + 1, 5, none⟩ (.slice p3a x.heard.length p3c)) = w5 at *
  clear s5 t6 f5 HW0 HW1 HW2 O1 O2 O3
  refine (toRecordS_any _ ps w5 (Nat.le_trans (tot_len ps) hlR) (fun _ hp => Nat.le_trans (tot_mem hp) hlR) (HX.out.store.then bw5)).mono ?_
  rintro e w6 ⟨p4, qs, rfl, fq, ho4, b6⟩
  obtain ⟨p4a, p4c, rfl⟩ := owns_lenS ho4.row
  have hl5 := lt_of_heap q2
  rw [← b6.block _ (lt_of_heap q1)] at q1
  rw [← b6.block _ hl5] at q2
  have hz6 := b6.size
  have bw6 : Below w.heap.size w w6 := bw5.trans (b6.mono bw5.size)
  have hl6 := lt_of_heap q2
  have OW := hide (show SelfOwn w6 w1.heap.size w6.heap.size (.slice p1a x.net.ls.length p1c) (.slice p2a x.net.ts.length p2c) (.slice p3a x.heard.length p3c) (.slice p4a qs.length p4c) x qs w3.heap.size w5.heap.size from
    { o1 := by omega
      o2 := by omega
      o3 := by omega
      links := owns_below o1 b6 (by omega)
      ltop := L1.out
      things := owns_below o2 b6 (by omega)
      ttop := L2.out
      heard := ⟨owns_baseS (owns_below o3 b6 (by omega)) (by omega), fun k hk => (o3.lt k hk).2⟩
      store := ho4 })
  have FQ := hide fq
  have r0 := cells_at q1 0
  have r1 := cells_at q1 1
  have r2 := cells_at q1 2
  have r3 := cells_at q1 3
  have r4 := cells_at q1 4
  have r5 := cells_at q1 5
  have r6 := cells_at q1 6
  have t0 := cells_at q2 0
  have t1 := cells_at q2 1
  have t2 := cells_at q2 2
  have t3 := cells_at q2 3
  have t4 := cells_at q2 4
  have t5 := cells_at q2 5
  have t6 := cells_at q2 6
  have fz0 := frozen_at q1 0
  have fz1 := frozen_at q1 1
  have fz2 := frozen_at q1 2
  have fz3 := frozen_at q1 3
  have fz4 := frozen_at q1 4
  have fz5 := frozen_at q1 5
  have fz6 := frozen_at q1 6
  have e6 := frozen_at q2 6
  simp at r0 r1 r2 r3 r4 r5 r6 t0 t1 t2 t3 t4 t5 t6
  have Q1 := hide q1
  have Q2 := hide q2
  clear o1 o2 o3 ho4 q1 q2 L1 L2 fq
  go_wp2
  have hfin : ((((((((w6.setCell ⟨w.heap.size + 1 + 1, 6, none⟩ (.slice p4a qs.length p4c)).setCell ⟨w.heap.size + 1, 0, none⟩ (.int .i64 x.id)).setCell ⟨w.heap.size + 1, 1, none⟩ (.int .i64 x.boot)).setCell ⟨w.heap.size + 1, 2, none⟩ (.int .i64 x.net.n)).setCell ⟨w.heap.size + 1, 3, none⟩ (.slice p1a x.net.ls.length p1c)).setCell ⟨w.heap.size + 1, 4, none⟩ (.slice p2a x.net.ts.length p2c)).setCell ⟨w.heap.size + 1, 5, none⟩ (.slice p3a x.heard.length p3c)).setCell ⟨w.heap.size + 1, 6, none⟩ (.slice p4a qs.length p4c)).heap[w.heap.size + 1]? = some (.cells #[.int .i64 x.id, .int .i64 x.boot, .int .i64 x.net.n, .slice p1a x.net.ls.length p1c, .slice p2a x.net.ts.length p2c, .slice p3a x.heard.length p3c, .slice p4a qs.length p4c] 38) := by
    have k0 : (w6.setCell ⟨w.heap.size + 1 + 1, 6, none⟩ (.slice p4a qs.length p4c)).heap[w.heap.size + 1]? = some (.cells #[.int .i64 0, .int .i64 0, .int .i64 0, .slice none 0 0, .slice none 0 0, .slice none 0 0, .slice none 0 0] 38) := by
      rw [heap_setCell_other _ ⟨w.heap.size + 1 + 1, 6, none⟩ _ _ (by show w.heap.size + 1 ≠ w.heap.size + 1 + 1; omega)]
      exact Q1.out
    have k1 := heap_setCell_same _ _ 0 _ _ (.int .i64 x.id) k0
    have k2 := heap_setCell_same _ _ 1 _ _ (.int .i64 x.boot) k1
    have k3 := heap_setCell_same _ _ 2 _ _ (.int .i64 x.net.n) k2
    have k4 := heap_setCell_same _ _ 3 _ _ (.slice p1a x.net.ls.length p1c) k3
    have k5 := heap_setCell_same _ _ 4 _ _ (.slice p2a x.net.ts.length p2c) k4
    have k6 := heap_setCell_same _ _ 5 _ _ (.slice p3a x.heard.length p3c) k5
    have k7 := heap_setCell_same _ _ 6 _ _ (.slice p4a qs.length p4c) k6
    exact k7
  have hkeep : ∀ k, w1.heap.size ≤ k → ((((((((w6.setCell ⟨w.heap.size + 1 + 1, 6, none⟩ (.slice p4a qs.length p4c)).setCell ⟨w.heap.size + 1, 0, none⟩ (.int .i64 x.id)).setCell ⟨w.heap.size + 1, 1, none⟩ (.int .i64 x.boot)).setCell ⟨w.heap.size + 1, 2, none⟩ (.int .i64 x.net.n)).setCell ⟨w.heap.size + 1, 3, none⟩ (.slice p1a x.net.ls.length p1c)).setCell ⟨w.heap.size + 1, 4, none⟩ (.slice p2a x.net.ts.length p2c)).setCell ⟨w.heap.size + 1, 5, none⟩ (.slice p3a x.heard.length p3c)).setCell ⟨w.heap.size + 1, 6, none⟩ (.slice p4a qs.length p4c)).heap[k]? = w6.heap[k]? := fun k hk => by
    rw [heap_setCell_other _ ⟨w.heap.size + 1, 6, none⟩ _ _ (by show k ≠ w.heap.size + 1; omega), heap_setCell_other _ ⟨w.heap.size + 1, 5, none⟩ _ _ (by show k ≠ w.heap.size + 1; omega), heap_setCell_other _ ⟨w.heap.size + 1, 4, none⟩ _ _ (by show k ≠ w.heap.size + 1; omega), heap_setCell_other _ ⟨w.heap.size + 1, 3, none⟩ _ _ (by show k ≠ w.heap.size + 1; omega), heap_setCell_other _ ⟨w.heap.size + 1, 2, none⟩ _ _ (by show k ≠ w.heap.size + 1; omega), heap_setCell_other _ ⟨w.heap.size + 1, 1, none⟩ _ _ (by show k ≠ w.heap.size + 1; omega), heap_setCell_other _ ⟨w.heap.size + 1, 0, none⟩ _ _ (by show k ≠ w.heap.size + 1; omega), heap_setCell_other _ ⟨w.heap.size + 1 + 1, 6, none⟩ _ _ (by show k ≠ w.heap.size + 1 + 1; omega)]
  have hsize : ((((((((w6.setCell ⟨w.heap.size + 1 + 1, 6, none⟩ (.slice p4a qs.length p4c)).setCell ⟨w.heap.size + 1, 0, none⟩ (.int .i64 x.id)).setCell ⟨w.heap.size + 1, 1, none⟩ (.int .i64 x.boot)).setCell ⟨w.heap.size + 1, 2, none⟩ (.int .i64 x.net.n)).setCell ⟨w.heap.size + 1, 3, none⟩ (.slice p1a x.net.ls.length p1c)).setCell ⟨w.heap.size + 1, 4, none⟩ (.slice p2a x.net.ts.length p2c)).setCell ⟨w.heap.size + 1, 5, none⟩ (.slice p3a x.heard.length p3c)).setCell ⟨w.heap.size + 1, 6, none⟩ (.slice p4a qs.length p4c)).heap.size = w6.heap.size := by simp
  have hbel : Below w.heap.size w ((((((((w6.setCell ⟨w.heap.size + 1 + 1, 6, none⟩ (.slice p4a qs.length p4c)).setCell ⟨w.heap.size + 1, 0, none⟩ (.int .i64 x.id)).setCell ⟨w.heap.size + 1, 1, none⟩ (.int .i64 x.boot)).setCell ⟨w.heap.size + 1, 2, none⟩ (.int .i64 x.net.n)).setCell ⟨w.heap.size + 1, 3, none⟩ (.slice p1a x.net.ls.length p1c)).setCell ⟨w.heap.size + 1, 4, none⟩ (.slice p2a x.net.ts.length p2c)).setCell ⟨w.heap.size + 1, 5, none⟩ (.slice p3a x.heard.length p3c)).setCell ⟨w.heap.size + 1, 6, none⟩ (.slice p4a qs.length p4c)) := ((((((((bw6.setCell (by show w.heap.size ≤ w.heap.size + 1 + 1; omega) _).setCell (by show w.heap.size ≤ w.heap.size + 1; omega) _).setCell (by show w.heap.size ≤ w.heap.size + 1; omega) _).setCell (by show w.heap.size ≤ w.heap.size + 1; omega) _).setCell (by show w.heap.size ≤ w.heap.size + 1; omega) _).setCell (by show w.heap.size ≤ w.heap.size + 1; omega) _).setCell (by show w.heap.size ≤ w.heap.size + 1; omega) _).setCell (by show w.heap.size ≤ w.heap.size + 1; omega) _)
  try simp only [Exit.inBlock, Exit.then]
  refine bodyPost_ret (results_cell_row rfl _ _ (w.heap.size + 1) 38 #[.int .i64 x.id, .int .i64 x.boot, .int .i64 x.net.n, .slice p1a x.net.ls.length p1c, .slice p2a x.net.ts.length p2c, .slice p3a x.heard.length p3c, .slice p4a qs.length p4c] (0, 0) _ rfl hfin Try.underlying38 rfl (by kernel_rfl)) rfl ?_
  exact ⟨_, _, _, _, qs, _, _, rfl, FQ.out, ((OW.out.keep (fun k h1 _ _ => hkeep k h1)).low (by omega)).high (by rw [hsize]; omega), hbel⟩

set_option maxRecDepth 100000 in
set_option maxHeartbeats 2000000 in
theorem eqSelf_any (v1 v2 v3 v4 u1 u2 u3 u4 : Value) (x : SelfD) (ps qs : List RP) (w : World) (ht : totS x ps ≤ 1048576) (h1 : SelfIn w v1 v2 v3 v4 x ps w.heap.size) (h2 : SelfIn w u1 u2 u3 u4 x qs w.heap.size) (he : fsts ps = fsts qs) :
    Calls Try.prog 10 #[selfV x v1 v2 v3 v4, selfV x u1 u2 u3 u4] w fun e w' => e = .returned (.bool true) ∧ Below w.heap.size w w' := by
  obtain ⟨⟨a1, c1, rfl⟩, ⟨a2, c2, rfl⟩, ⟨a3, c3, rfl⟩, ⟨a4, c4, rfl⟩⟩ := h1.shapes
  obtain ⟨⟨b1, d1, rfl⟩, ⟨b2, d2, rfl⟩, ⟨b3, d3, rfl⟩, ⟨b4, d4, rfl⟩⟩ := h2.shapes
  have hlL : x.net.ls.length ≤ 1048576 := by unfold totS at ht; omega
  have hlT : x.net.ts.length ≤ 1048576 := by unfold totS at ht; omega
  have hlH : x.heard.length ≤ 1048576 := by unfold totS at ht; omega
  have hlR : tot ps ≤ 1048576 := by unfold totS at ht; omega
  have H1 := hide h1
  have H2 := hide h2
  have HE := hide he
  clear h1 h2 he ht
  go_enter Try.func10, Try.ntmps10
  go_wp2_with fail
  obtain ⟨w1, hw1⟩ : ∃ w1, w1 = (w.alloc (.cells #[.int .i64 x.id, .int .i64 x.boot, .int .i64 x.net.n, .slice a1 x.net.ls.length c1, .slice a2 x.net.ts.length c2, .slice a3 x.heard.length c3, .slice a4 ps.length c4] 38)).alloc (.cells #[.int .i64 x.id, .int .i64 x.boot, .int .i64 x.net.n, .slice b1 x.net.ls.length d1, .slice b2 x.net.ts.length d2, .slice b3 x.heard.length d3, .slice b4 qs.length d4] 38) := ⟨_, rfl⟩
  have B1 : Below w.heap.size w w1 := by rw [hw1]; exact below_two _ _
  have p0 : w1.heap[w.heap.size]? = some (.cells #[.int .i64 x.id, .int .i64 x.boot, .int .i64 x.net.n, .slice a1 x.net.ls.length c1, .slice a2 x.net.ts.length c2, .slice a3 x.heard.length c3, .slice a4 ps.length c4] 38) := by rw [hw1, Below.heap_alloc _ _ _ (by simp), heap_alloc_new]
  have q0 : w1.heap[w.heap.size + 1]? = some (.cells #[.int .i64 x.id, .int .i64 x.boot, .int .i64 x.net.n, .slice b1 x.net.ls.length d1, .slice b2 x.net.ts.length d2, .slice b3 x.heard.length d3, .slice b4 qs.length d4] 38) := by
    rw [hw1]
    have := heap_alloc_new (w.alloc (.cells #[.int .i64 x.id, .int .i64 x.boot, .int .i64 x.net.n, .slice a1 x.net.ls.length c1, .slice a2 x.net.ts.length c2, .slice a3 x.heard.length c3, .slice a4 ps.length c4] 38)) (.cells #[.int .i64 x.id, .int .i64 x.boot, .int .i64 x.net.n, .slice b1 x.net.ls.length d1, .slice b2 x.net.ts.length d2, .slice b3 x.heard.length d3, .slice b4 qs.length d4] 38)
    simpa using this
  rw [← hw1]
  clear hw1
  have HEN := eqNet_any _ _ x.net x.net w1 (H1.out.then B1).net (H2.out.then B1).net hlL hlT
  rw [decide_eq_true rfl] at HEN
  refine HEN.mono ?_
  rintro e w2 ⟨rfl, b2⟩
  have p1 := (b2.block _ (lt_of_heap p0)).trans p0
  have q1 := (b2.block _ (lt_of_heap q0)).trans q0
  have B2 : Below w.heap.size w w2 := B1.trans (b2.mono B1.size)
  have s5 := cells_at p1 5
  have t5 := cells_at q1 5
  simp at s5 t5
  have P1 := hide p1
  have Q1 := hide q1
  have HEI := eqI_any _ _ x.heard x.heard w2 (HopsAt.ints (H1.out.then B2).heard) (HopsAt.ints (H2.out.then B2).heard) hlH
  rw [decide_eq_true rfl] at HEI
  have HI := hide HEI
  clear p0 q0 p1 q1 HEN HEI b2
  go_wp2_with fail
  refine HI.out.mono ?_
  rintro e w3 ⟨rfl, b3⟩
  have p1 := (b3.block _ (lt_of_heap P1.out)).trans P1.out
  have q1 := (b3.block _ (lt_of_heap Q1.out)).trans Q1.out
  have B3 : Below w.heap.size w w3 := B2.trans (b3.mono B2.size)
  have HER := eqRecordS_any _ _ ps qs w3 (H1.out.then B3).store (H2.out.then B3).store (Nat.le_trans (tot_len ps) hlR) (fun _ hp => Nat.le_trans (tot_mem hp) hlR)
  rw [decide_eq_true HE.out] at HER
  have HR := hide HER
  clear s5 t5
  have s6 := cells_at p1 6
  have t6 := cells_at q1 6
  simp at s6 t6
  clear p1 q1 HER b3
  go_wp2_with fail
  refine HR.out.mono ?_
  rintro e w4 ⟨rfl, b4⟩
  have B4 : Below w.heap.size w w4 := B3.trans (b4.mono B3.size)
  go_wp2
  go_ret
  exact ⟨rfl, B4⟩
end Go.Proofs.Ytdaigojpeofmpaa
