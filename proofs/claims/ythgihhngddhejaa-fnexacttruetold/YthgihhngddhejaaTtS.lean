/-
  TrueTold of both: their contracts.
-/
import Derived.Test.YthgihhngddhejaaIBody
import Derived.Test.YthgihhngddhejaaLaw5K
import Derived.Test.YthgihhngddhejaaReg
namespace Go.Proofs.Ythgihhngddhejaa
open Go.RowKit

set_option linter.unusedSimpArgs false
set_option linter.unusedVariables false

def sameRB (x y : RecD) : Bool := sameBodyB x y && x.seq == y.seq

def trueAt (xs : List RecD) (y : RecD) : Bool := xs.any (fun x => sameRB x y)

def trueB (xs ys : List RecD) : Bool := ys.all (trueAt xs)

theorem any_next {α : Type} {xs : List α} {f : α → Bool} {k : Nat} {x : α} (h : xs[k]? = some x) : (xs.take (k + 1)).any f = ((xs.take k).any f || f x) := by
  obtain ⟨hk, e⟩ := List.getElem?_eq_some_iff.1 h
  rw [List.take_succ_eq_append_getElem hk, List.any_append, e]
  simp

theorem all_next {α : Type} {xs : List α} {f : α → Bool} {k : Nat} {x : α} (h : xs[k]? = some x) : (xs.take (k + 1)).all f = ((xs.take k).all f && f x) := by
  obtain ⟨hk, e⟩ := List.getElem?_eq_some_iff.1 h
  rw [List.take_succ_eq_append_getElem hk, List.all_append, e]
  simp

theorem all_not {α : Type} {xs : List α} {f : α → Bool} {k : Nat} {x : α} (h : xs[k]? = some x) (hf : f x = false) : xs.all f = false := by
  cases e : xs.all f with
  | false => rfl
  | true => rw [List.all_eq_true.1 e x (List.mem_of_getElem? h)] at hf; cases hf

theorem any_yes {α : Type} {xs : List α} {f : α → Bool} {k : Nat} {x : α} (h : xs[k]? = some x) (hf : f x = true) : xs.any f = true := List.any_eq_true.2 ⟨x, List.mem_of_getElem? h, hf⟩

set_option maxRecDepth 100000 in
set_option maxHeartbeats 4000000 in
theorem isameR_any (u1 u2 : Value) (x y : RecD) (w : World) (h1 : NearsAt w u1 x.near w.heap.size) (h2 : NearsAt w u2 y.near w.heap.size) (hl : x.near.length ≤ 1048576) (hm : y.near.length ≤ 9223372036854775807) :
    Calls Try.prog 14 #[.agg (recC x u1), .agg (recC y u2)] w fun e w' => e = .returned (.bool (sameRB x y)) ∧ Below w.heap.size w w' := by
  obtain ⟨p1, c1, rfl⟩ := h1.shape
  obtain ⟨p2, c2, rfl⟩ := h2.shape
  have HSB := hide (fun W (h : Below w.heap.size w W) => isameBody_any (.agg (recC x (.slice p1 x.near.length c1))) (.agg (recC y (.slice p2 y.near.length c2))) x y W ⟨_, rfl, h1.then h⟩ ⟨_, rfl, h2.then h⟩ hl hm)
  obtain ⟨q, hq⟩ : ∃ q, q = sameBodyB x y := ⟨_, rfl⟩
  rw [← hq] at HSB
  have hB : sameRB x y = (q && x.seq == y.seq) := by rw [hq]; rfl
  rw [hB]
  clear hB hq hl hm h1 h2
  obtain ⟨a0, a1, a2, a3, a4, ns, a6, a7⟩ := x
  obtain ⟨b0, b1, b2, b3, b4, ms, b6, b7⟩ := y
  unfold recC at HSB ⊢
  simp only [] at HSB ⊢
  go_enter Try.func14, Try.ntmps14
  go_wp2_with fail
  refine (HSB.out _ (below_two _ _)).mono ?_
  rintro e w1 ⟨rfl, bb1⟩
  have bw1 : Below w.heap.size w w1 := (below_two _ _).trans (bb1.mono (by simp; omega))
  have hw0 : w1.heap[w.heap.size]? = some (.cells #[.int .i64 a0, .int .i64 a1, .int .i64 a2, .int .i64 a3, .int .i64 a4, .slice p1 ns.length c1, .int .i64 a6, .bool a7] 35) := by
    rw [bb1.block _ (by simp; omega), Below.heap_alloc _ _ _ (by simp), heap_alloc_new]
  have hw1 : w1.heap[w.heap.size + 1]? = some (.cells #[.int .i64 b0, .int .i64 b1, .int .i64 b2, .int .i64 b3, .int .i64 b4, .slice p2 ms.length c2, .int .i64 b6, .bool b7] 35) := by
    rw [bb1.block _ (by simp)]
    have := heap_alloc_new (w.alloc (.cells #[.int .i64 a0, .int .i64 a1, .int .i64 a2, .int .i64 a3, .int .i64 a4, .slice p1 ns.length c1, .int .i64 a6, .bool a7] 35)) (.cells #[.int .i64 b0, .int .i64 b1, .int .i64 b2, .int .i64 b3, .int .i64 b4, .slice p2 ms.length c2, .int .i64 b6, .bool b7] 35)
    simpa using this
  have s4 := cells_at hw0 4
  have t4 := cells_at hw1 4
  simp at s4 t4
  clear bb1 hw0 hw1
  cases q
  · go_wp2
    go_ret
    exact ⟨by simp, bw1⟩
  go_wp2
  go_ret
  exact ⟨by simp, bw1⟩

set_option maxRecDepth 100000 in
set_option maxHeartbeats 4000000 in
theorem closT_any (u1 u2 : Value) (x y : RecD) (p : Nat) (w : World) (h1 : NearsAt w u1 x.near w.heap.size) (h2 : NearsAt w u2 y.near w.heap.size) (hl : x.near.length ≤ 1048576) (hm : y.near.length ≤ 9223372036854775807) (hp : w.heap[p]? = some (.cells (recC y u2) 35)) :
    Calls Try.prog 13 #[.agg (recC x u1), .pointer (some ⟨p, 0, none⟩)] w fun e w' => e = .returned (.bool (sameRB x y)) ∧ Below w.heap.size w w' := by
  obtain ⟨p1, c1, rfl⟩ := h1.shape
  obtain ⟨p2, c2, rfl⟩ := h2.shape
  have HSB := hide (fun W (h : Below w.heap.size w W) => isameR_any _ _ x y W (h1.then h) (h2.then h) hl hm)
  obtain ⟨q, hq⟩ : ∃ q, q = sameRB x y := ⟨_, rfl⟩
  rw [← hq] at HSB ⊢
  clear hq hl hm h1 h2
  have hpl := lt_of_heap hp
  have hpn : ¬ p = w.heap.size := by omega
  obtain ⟨a0, a1, a2, a3, a4, ns, a6, a7⟩ := x
  obtain ⟨b0, b1, b2, b3, b4, ms, b6, b7⟩ := y
  unfold recC at HSB hp ⊢
  simp only [] at HSB hp ⊢
  have c0 := cells_at hp 0
  have c1 := cells_at hp 1
  have c2 := cells_at hp 2
  have c3 := cells_at hp 3
  have c4 := cells_at hp 4
  have c5 := cells_at hp 5
  have c6 := cells_at hp 6
  have c7 := cells_at hp 7
  simp at c0 c1 c2 c3 c4 c5 c6 c7
  clear hp
  go_enter Try.func13, Try.ntmps13
  go_wp2_with fail
  refine (HSB.out _ ((Below.refl _ _).alloc (Nat.le_refl _) _)).mono ?_
  rintro e w1 ⟨rfl, bb1⟩
  have bw1 : Below w.heap.size w w1 := ((Below.refl _ _).alloc (Nat.le_refl _) _).trans (bb1.mono (by simp))
  clear bb1 c0 c1 c2 c3 c4 c5 c6 c7
  go_wp2
  go_ret
  exact ⟨rfl, bw1⟩

set_option maxRecDepth 100000 in
set_option maxHeartbeats 4000000 in
theorem indexT_any (v : Value) (ps : List RP) (y : RecD) (u2 : Value) (p : Nat) (w : World) (hn : tot ps ≤ 1048576) (hv : RecsAt w v ps w.heap.size) (h2 : NearsAt w u2 y.near w.heap.size) (hm : y.near.length ≤ 9223372036854775807) (hp : w.heap[p]? = some (.cells (recC y u2) 35)) :
    Calls Try.prog 19 #[v, .func (.func 13) #[] #[.pointer (some ⟨p, 0, none⟩)]] w fun e w' => ∃ z : Int, e = .returned (.int .i64 z) ∧ decide (0 ≤ z) = trueAt (fsts ps) y ∧ Below w.heap.size w w' := by
  have hnl := tot_len ps
  obtain ⟨a, cap, rfl⟩ := hv.shape
  have HV := hide hv
  have H2 := hide h2
  have HP := hide hp
  clear hv h2 hp
  have hfl : (fsts ps).length = ps.length := by simp [fsts]
  have HFL := hide hfl
  clear hfl
  have HC := hide (fun W (hb : Below w.heap.size w W) (t : RP) (ht : NearsAt W t.2 t.1.near W.heap.size) (hl : t.1.near.length ≤ 1048576) => closT_any t.2 u2 t.1 y p W ht (H2.out.then hb) hl hm ((hb.block _ (lt_of_heap HP.out)).trans HP.out))
  unfold recC at HC
  clear hm
  go_enter Try.func19, Try.ntmps19
  go_wp2
  go_loopw [8] (fun i wr => ∃ k : Nat, k ≤ ps.length ∧ i = .int .i64 k ∧ ((fsts ps).take k).any (fun x => sameRB x y) = false ∧ Below w.heap.size w wr) (fun i _ => ps.length - (intOf i).toNat)
  case atStart => exact ⟨0, by omega, rfl, by simp, Below.refl _ _⟩
  case round =>
    obtain ⟨k, hk, rfl, hno, hnx⟩ := hrel
    have HNO := hide hno
    clear hno
    have hsz := hnx.size
    by_cases hlt : k < ps.length
    · obtain ⟨l, hl⟩ : ∃ l, ps[k]? = some l := ⟨ps[k], List.getElem?_eq_getElem hlt⟩
      obtain ⟨b, off, cap', hve, hbb, c0, c1, c2, c3, c4, c5, c6, c7, hnr⟩ := HV.out.cells k l hl
      cases hve
      rw [← hnx.cell (p := ⟨b, off + k * 8, none⟩) hbb] at c0
      rw [← hnx.cell (p := ⟨b, off + k * 8 + 1, none⟩) hbb] at c1
      rw [← hnx.cell (p := ⟨b, off + k * 8 + 2, none⟩) hbb] at c2
      rw [← hnx.cell (p := ⟨b, off + k * 8 + 3, none⟩) hbb] at c3
      rw [← hnx.cell (p := ⟨b, off + k * 8 + 4, none⟩) hbb] at c4
      rw [← hnx.cell (p := ⟨b, off + k * 8 + 5, none⟩) hbb] at c5
      rw [← hnx.cell (p := ⟨b, off + k * 8 + 6, none⟩) hbb] at c6
      rw [← hnx.cell (p := ⟨b, off + k * 8 + 7, none⟩) hbb] at c7
      have hbr : b < wr.heap.size := by omega
      have hki : (0 : Int) ≤ (k : Int) := by omega
      have hkj : (k : Int) < (ps.length : Int) := by omega
      have HCK := hide (HC.out wr hnx l (NearsAt.then hnr hnx) (by have := tot_mem (List.mem_of_getElem? hl); omega))
      have HN := hide (any_next (f := fun x => sameRB x y) (fsts_at hl))
      have HY := hide (any_yes (f := fun x => sameRB x y) (fsts_at hl))
      obtain ⟨q, hq⟩ : ∃ q, q = sameRB l.1 y := ⟨_, rfl⟩
      rw [← hq] at HCK HN HY
      clear hq hl hnr
      go_wp2_with fail
      refine HCK.out.mono ?_
      rintro e w1 ⟨rfl, bb1⟩
      have bw1 : Below w.heap.size w w1 := hnx.trans (bb1.mono hsz)
      clear bb1 c0 c1 c2 c3 c4 c5 c6 c7
      cases q
      · go_wp2
        go_roundw
        case rel => exact ⟨k + 1, by omega, by go_num, by rw [HN.out, HNO.out]; rfl, bw1⟩
        case measure => simp [intOf]; omega
      · go_wp2
        go_ret
        exact ⟨(k : Int), rfl, (decide_eq_true hki).trans (HY.out (by trivial)).symm, bw1⟩
    · have HA := hide (show trueAt (fsts ps) y = false by
        have h := HNO.out
        rw [show k = (fsts ps).length by rw [HFL.out]; omega, List.take_length] at h
        exact h)
      go_wp2
      go_ret
      exact ⟨-1, rfl, by rw [HA.out]; rfl, hnx⟩

set_option maxRecDepth 100000 in
set_option maxHeartbeats 4000000 in
theorem containsT_any (v : Value) (ps : List RP) (y : RecD) (u2 : Value) (p : Nat) (w : World) (hn : tot ps ≤ 1048576) (hv : RecsAt w v ps w.heap.size) (h2 : NearsAt w u2 y.near w.heap.size) (hm : y.near.length ≤ 9223372036854775807) (hp : w.heap[p]? = some (.cells (recC y u2) 35)) :
    Calls Try.prog 12 #[v, .func (.func 13) #[] #[.pointer (some ⟨p, 0, none⟩)]] w fun e w' => e = .returned (.bool (trueAt (fsts ps) y)) ∧ Below w.heap.size w w' := by
  have HI := hide (indexT_any v ps y u2 p w hn hv h2 hm hp)
  obtain ⟨a, cap, rfl⟩ := hv.shape
  clear hn hv h2 hm hp
  go_enter Try.func12, Try.ntmps12
  go_wp2_with fail
  refine HI.out.mono ?_
  rintro e w1 ⟨z, rfl, hz, bb1⟩
  have HZ := hide hz
  clear hz
  go_wp2
  go_ret
  exact ⟨ret_bool HZ.out.symm, bb1⟩

set_option maxRecDepth 100000 in
set_option maxHeartbeats 4000000 in
theorem itrue_any (v u : Value) (ps qs : List RP) (w : World) (hn : tot ps ≤ 1048576) (hm : tot qs ≤ 1048576) (hv : RecsAt w v ps w.heap.size) (hu : RecsAt w u qs w.heap.size) :
    Calls Try.prog 7 #[v, u] w fun e w' => e = .returned (.bool (trueB (fsts ps) (fsts qs))) ∧ Below w.heap.size w w' := by
  have hnl := tot_len qs
  obtain ⟨a, cap, rfl⟩ := hv.shape
  obtain ⟨a2, cap2, rfl⟩ := hu.shape
  have HV := hide hv
  have HU := hide hu
  clear hv hu
  have hfl : (fsts qs).length = qs.length := by simp [fsts]
  have HFL := hide hfl
  clear hfl
  obtain ⟨R, hR⟩ : ∃ R, R = trueB (fsts ps) (fsts qs) := ⟨_, rfl⟩
  rw [← hR]
  have HR := hide hR
  clear hR
  go_enter Try.func7, Try.ntmps7
  go_wp2
  go_loopw [9] (fun i wr => ∃ k : Nat, k ≤ qs.length ∧ i = .int .i64 k ∧ ((fsts qs).take k).all (trueAt (fsts ps)) = true ∧ Below w.heap.size w wr) (fun i _ => qs.length - (intOf i).toNat)
  case atStart => exact ⟨0, by omega, rfl, by simp, Below.refl _ _⟩
  case round =>
    obtain ⟨k, hk, rfl, hall, hnx⟩ := hrel
    have HALL := hide hall
    clear hall
    have hsz := hnx.size
    by_cases hlt : k < qs.length
    · obtain ⟨l, hl⟩ : ∃ l, qs[k]? = some l := ⟨qs[k], List.getElem?_eq_getElem hlt⟩
      obtain ⟨b, off, cap', hve, hbb, c0, c1, c2, c3, c4, c5, c6, c7, hnr⟩ := HU.out.cells k l hl
      cases hve
      rw [← hnx.cell (p := ⟨b, off + k * 8, none⟩) hbb] at c0
      rw [← hnx.cell (p := ⟨b, off + k * 8 + 1, none⟩) hbb] at c1
      rw [← hnx.cell (p := ⟨b, off + k * 8 + 2, none⟩) hbb] at c2
      rw [← hnx.cell (p := ⟨b, off + k * 8 + 3, none⟩) hbb] at c3
      rw [← hnx.cell (p := ⟨b, off + k * 8 + 4, none⟩) hbb] at c4
      rw [← hnx.cell (p := ⟨b, off + k * 8 + 5, none⟩) hbb] at c5
      rw [← hnx.cell (p := ⟨b, off + k * 8 + 6, none⟩) hbb] at c6
      rw [← hnx.cell (p := ⟨b, off + k * 8 + 7, none⟩) hbb] at c7
      have hbr : b < wr.heap.size := by omega
      have hbn : ¬ b = wr.heap.size := by omega
      have hki : (0 : Int) ≤ (k : Int) := by omega
      have hkj : (k : Int) < (qs.length : Int) := by omega
      have HCT := hide (fun W (hb : Below w.heap.size w W) (pp : Nat) (hp : W.heap[pp]? = some (.cells (recC l.1 l.2) 35)) => containsT_any (.slice a ps.length cap) ps l.1 l.2 pp W hn (HV.out.then hb) (NearsAt.then hnr hb) (by have := tot_mem (List.mem_of_getElem? hl); omega) hp)
      unfold recC at HCT
      obtain ⟨pa, pc, hpn⟩ := NearsAt.shape hnr
      rw [hpn] at c5 HCT
      have HN := hide (all_next (f := trueAt (fsts ps)) (fsts_at hl))
      have HY := hide (all_not (f := trueAt (fsts ps)) (fsts_at hl))
      obtain ⟨q, hq⟩ : ∃ q, q = trueAt (fsts ps) l.1 := ⟨_, rfl⟩
      rw [← hq] at HCT HN HY
      clear hq hl hnr hpn
      have hal := heap_alloc_new wr (.cells #[.int .i64 l.1.area, .int .i64 l.1.kind, .int .i64 l.1.owner, .int .i64 l.1.key, .int .i64 l.1.seq, .slice pa l.1.near.length pc, .int .i64 l.1.cost, .bool l.1.far] 35)
      have HAL := hide hal
      clear hal
      have B1 : Below w.heap.size w (wr.alloc (.cells #[.int .i64 l.1.area, .int .i64 l.1.kind, .int .i64 l.1.owner, .int .i64 l.1.key, .int .i64 l.1.seq, .slice pa l.1.near.length pc, .int .i64 l.1.cost, .bool l.1.far] 35)) := hnx.alloc hsz _
      have HB1 := hide B1
      clear B1
      go_wp2_with fail
      refine (HCT.out _ HB1.out _ HAL.out).mono ?_
      rintro e w1 ⟨rfl, bb1⟩
      have bw1 : Below w.heap.size w w1 := HB1.out.trans (bb1.mono HB1.out.size)
      clear bb1 c0 c1 c2 c3 c4 c5 c6 c7
      cases q
      · have HF := hide (HR.out.trans (HY.out (by trivial)))
        go_wp2
        go_ret
        exact ⟨ret_bool HF.out, bw1⟩
      · go_wp2
        go_roundw
        case rel => exact ⟨k + 1, by omega, by go_num, by rw [HN.out, HALL.out]; rfl, bw1⟩
        case measure => simp [intOf]; omega
    · have HA := hide (show R = true by
        have h := HALL.out
        rw [show k = (fsts qs).length by rw [HFL.out]; omega, List.take_length] at h
        exact HR.out.trans h)
      go_wp2
      go_ret
      exact ⟨ret_bool HA.out, hnx⟩

end Go.Proofs.Ythgihhngddhejaa
