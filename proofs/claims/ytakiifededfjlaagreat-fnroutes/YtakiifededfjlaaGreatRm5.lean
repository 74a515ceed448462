/-
  spec.StoreOk: its contract.
  spec.Merge: its contract.
  slices.BinarySearchFunc at lists of records: its contract.
  A record put into a list in order: the plain mathematics.
  spec.l08With: its contract.
  The search for shortest ways, as values: what holds while nodes are gone on from one by one, the cheapest first; that its end tells costs and hops which are determined by the links alone.
  spec.Find, impl.Find: their contracts.
-/
import Derived.Test.YtakiifededfjlaaGreatRm4
import Derived.Test.YtakiifededfjlaaGreatRm2
import Derived.Test.YtakiifededfjlaaGreatRm1
namespace Go.Proofs.YtakiifededfjlaaGreat
open Go.RowKit
set_option linter.unusedSimpArgs false
set_option linter.unusedVariables false
set_option maxRecDepth 100000
set_option maxHeartbeats 8000000
theorem Zmw {xs : List RecD} {k : Nat} (hk : k < xs.length) (h : ZcI ordR xs k = false) : ZaE xs = false := by unfold ZaE ascB; rw [Za7 hk h]; simp
theorem Zc2 (v : Value) (ps : List RP) (w : World) (hn : tot ps <= 1048576) (hv : ZbB w v ps w.heap.size) :
  Calls Tryz.prog 41 #[v] w fun e w' => e = .returned (.bool (ZaE (fsts ps))) /\ Below w.heap.size w w' := by
 have hnl := ZbL ps
 obtain ⟨a, cap, rfl⟩ := hv.shape
 have HV := hide hv
 clear hv
 have hfl : (fsts ps).length = ps.length := by simp [fsts]
 by_cases hlong : (150 : Int) < (ps.length : Int)
 ·have HF := hide (ZgZ (xs := fsts ps) (by omega))
  clear hfl
  go_enter Tryz.func41, Tryz.ntmps41
  go_wp2
  go_ret
  exact ⟨Zaj HF.out, Below.refl _ _⟩
 have HFL := hide hfl
 clear hfl
 go_enter Tryz.func41, Tryz.ntmps41
 go_wp2
 go_loopw [3] (fun i wr => ∃ k : Nat, k <= ps.length /\ i = .int .i64 k /\ (∀ j, j < k -> okAt Za3 (fsts ps) j = true) /\ (∀ j, j < k -> ZcI ordR (fsts ps) j = true) /\ Below w.heap.size w wr) (fun i _ => ps.length - (intOf i).toNat)
 case atStart => exact ⟨0, by omega, rfl, by omega, by omega, Below.refl _ _⟩
 case round =>
  obtain ⟨k, hk, rfl, hall, hasc, hnx⟩ := hrel
  have HALL := hide hall
  have HASC := hide hasc
  clear hall hasc
  have hsz := hnx.size
  by_cases hlt : k < ps.length
  ·obtain ⟨l, hl⟩ : ∃ p, ps[k]? = some p := ⟨ps[k], List.getElem?_eq_getElem hlt⟩
   obtain ⟨b, off, cap', hve, hbb, c0, c1, c2, c3, c4, c5, c6, c7, hnr⟩ := HV.out.cells k l hl
   cases hve
   rw [<- hnx.cell (p := ⟨b, off + k * 8, none⟩) hbb] at c0
   rw [<- hnx.cell (p := ⟨b, off + k * 8 + 1, none⟩) hbb] at c1
   rw [<- hnx.cell (p := ⟨b, off + k * 8 + 2, none⟩) hbb] at c2
   rw [<- hnx.cell (p := ⟨b, off + k * 8 + 3, none⟩) hbb] at c3
   rw [<- hnx.cell (p := ⟨b, off + k * 8 + 4, none⟩) hbb] at c4
   rw [<- hnx.cell (p := ⟨b, off + k * 8 + 5, none⟩) hbb] at c5
   rw [<- hnx.cell (p := ⟨b, off + k * 8 + 6, none⟩) hbb] at c6
   rw [<- hnx.cell (p := ⟨b, off + k * 8 + 7, none⟩) hbb] at c7
   have HOK := hide (fun W (hb : Below w.heap.size w W) => ZkI l.2 l.1 W (by have := Zf2 (List.mem_of_getElem? hl); omega) ((ZaR.later hnr hb (Nat.le_refl _)).more hb.size))
   unfold recC at HOK
   have HAT1 := hide (ZcU (ok := Za3) (Zbo hl))
   obtain ⟨qo, hqo⟩ : ∃ q, q = Za3 l.1 := ⟨_, rfl⟩
   rw [<- hqo] at HOK HAT1
   have HL := hide (Zbo hl)
   clear hqo hl hnr
   have hbr : b < wr.heap.size := by omega
   have hki : (0 : Int) <= (k : Int) := by omega
   have hkj : (k : Int) < (ps.length : Int) := by omega
   have hnd : Below w.heap.size w wr.drew := hnx.drew
   cases qo
   ·have HF := hide (Zh9 (by rw [HFL.out]; exact hlt) HAT1.out)
    go_wp2
    refine Zai (S := (fun W => W.cell? ⟨b, off + k * 8, none⟩ = some (.int .i64 l.1.area) /\ W.cell? ⟨b, off + k * 8 + 1, none⟩ = some (.int .i64 l.1.kind) /\ W.cell? ⟨b, off + k * 8 + 2, none⟩ = some (.int .i64 l.1.owner) /\ W.cell? ⟨b, off + k * 8 + 3, none⟩ = some (.int .i64 l.1.key) /\ W.cell? ⟨b, off + k * 8 + 4, none⟩ = some (.int .i64 l.1.seq) /\ W.cell? ⟨b, off + k * 8 + 5, none⟩ = some (l.2) /\ W.cell? ⟨b, off + k * 8 + 6, none⟩ = some (.int .i64 l.1.cost) /\ W.cell? ⟨b, off + k * 8 + 7, none⟩ = some (.bool l.1.far))) (by kernel_rfl) 23 rfl ⟨c0, c1, c2, c3, c4, c5, c6, c7⟩ (fun ops hops hHeld => ?_)
    iterate 4
     refine Zas 23 ?_ ?_ ?_ (by rw [hops.out]; kernel_rfl) ?_ ?_ (by assumption) ?_
     rotate_left 2
     ·rw [hops.out]; simp only [getS, Nat.reduceSub, Nat.reduceAdd]; rfl
     ·intro W hW; (try dsimp only at hW); go_simp <;> with_reducible rfl
     ·exact fun _ _ _ => id
     try simp only [putS]
    refine Zak 4 (oi := ?_) ?_ (by rw [hops.out]; kernel_rfl) ?_ ?_
    rotate_left 1
    ·rw [hops.out]; simp only [getS]; rfl
    ·rw [hops.out]; kernel_rfl
    intro K hK
    go_simp
    refine (HOK.out _ hnd).mono ?_
    rintro e w1 ⟨rfl, b1⟩
    have hSn : _ /\ _ := (show ((fun W => W.cell? ⟨b, off + k * 8, none⟩ = some (.int .i64 l.1.area) /\ W.cell? ⟨b, off + k * 8 + 1, none⟩ = some (.int .i64 l.1.kind) /\ W.cell? ⟨b, off + k * 8 + 2, none⟩ = some (.int .i64 l.1.owner) /\ W.cell? ⟨b, off + k * 8 + 3, none⟩ = some (.int .i64 l.1.key) /\ W.cell? ⟨b, off + k * 8 + 4, none⟩ = some (.int .i64 l.1.seq) /\ W.cell? ⟨b, off + k * 8 + 5, none⟩ = some (l.2) /\ W.cell? ⟨b, off + k * 8 + 6, none⟩ = some (.int .i64 l.1.cost) /\ W.cell? ⟨b, off + k * 8 + 7, none⟩ = some (.bool l.1.far))) w1 from by
     obtain ⟨m0, m1, m2, m3, m4, m5, m6, m7⟩ := hHeld
     refine ⟨?_, ?_, ?_, ?_, ?_, ?_, ?_, ?_⟩ <;> (refine (b1.cell ?_).trans ?_ <;> assumption))
    refine hK.out _ _ hSn (fun hHeld => ?_)
    clear hK K hSn
    try simp only [putS]
    iterate 2
     refine Zas 23 ?_ ?_ ?_ (by rw [hops.out]; kernel_rfl) ?_ ?_ (by assumption) ?_
     rotate_left 2
     ·rw [hops.out]; simp only [getS, Nat.reduceSub, Nat.reduceAdd]; rfl
     ·intro W hW; (try dsimp only at hW); go_simp <;> with_reducible rfl
     ·exact fun _ _ _ => id
     try simp only [putS]
    refine Zad 7 20 (by rw [hops.out]; kernel_rfl) (fun _ _ _ h => h) (by assumption) ?_
    try simp only [putS]
    refine Zad 8 21 (by rw [hops.out]; kernel_rfl) (fun _ _ _ h => h) (by assumption) ?_
    try simp only [putS]
    refine Zad 9 22 (by rw [hops.out]; kernel_rfl) (fun _ _ _ h => h) (by assumption) ?_
    try simp only [putS]
    refine Zad 10 23 (by rw [hops.out]; kernel_rfl) (fun _ _ _ h => h) (by assumption) ?_
    try simp only [putS]
    refine Zad 11 24 (by rw [hops.out]; kernel_rfl) (fun _ _ _ h => h) (by assumption) ?_
    try simp only [putS]
    refine Zad 12 25 (by rw [hops.out]; kernel_rfl) (fun _ _ _ h => h) (by assumption) ?_
    try simp only [putS]
    refine Zad 13 26 (by rw [hops.out]; kernel_rfl) (fun _ _ _ h => h) (by assumption) ?_
    try simp only [putS]
    refine Zad 14 27 (by rw [hops.out]; kernel_rfl) (fun _ _ _ h => h) (by assumption) ?_
    try simp only [putS]
    refine Zad 15 28 (by rw [hops.out]; kernel_rfl) (fun _ _ _ h => h) (by assumption) ?_
    try simp only [putS]
    refine Zad 16 29 (by rw [hops.out]; kernel_rfl) (fun _ _ _ h => h) (by assumption) ?_
    try simp only [putS]
    refine Zad 17 30 (by rw [hops.out]; kernel_rfl) (fun _ _ _ h => h) (by assumption) ?_
    try simp only [putS]
    refine Zad 18 31 (by rw [hops.out]; kernel_rfl) (fun _ _ _ h => h) (by assumption) ?_
    try simp only [putS]
    refine Zad 19 32 (by rw [hops.out]; kernel_rfl) (fun _ _ _ h => h) (by assumption) ?_
    try simp only [putS]
    refine Zad 20 33 (by rw [hops.out]; kernel_rfl) (fun _ _ _ h => h) (by assumption) ?_
    try simp only [putS]
    refine Zad 21 34 (by rw [hops.out]; kernel_rfl) (fun _ _ _ h => h) (by assumption) ?_
    try simp only [putS]
    refine ZaZ 22 ?_ ?_ ?_ (by rw [hops.out]; kernel_rfl) ?_ ?_ (by assumption) ?_
    rotate_left 2
    ·rw [hops.out]; simp only [getS]; rfl
    ·intro W hW; (try dsimp only at hW); go_simp <;> with_reducible rfl
    ·exact fun _ _ _ => id
    try simp only [putS]
    refine wpAnyH_done (by rw [hops.out]; kernel_rfl) ?_ _
    clear hops ops
    go_wp2
    go_ret
    exact ⟨Zaj HF.out, hnd.trans (b1.mono hsz)⟩
   by_cases hk0 : k = 0
   ·have hk1 : ¬ (0 : Int) < (k : Int) := by omega
    have HAT2 := hide (show ZcI ordR (fsts ps) k = true by rw [hk0]; rfl)
    clear hk0
    go_wp2
    refine Zai (S := (fun W => W.cell? ⟨b, off + k * 8, none⟩ = some (.int .i64 l.1.area) /\ W.cell? ⟨b, off + k * 8 + 1, none⟩ = some (.int .i64 l.1.kind) /\ W.cell? ⟨b, off + k * 8 + 2, none⟩ = some (.int .i64 l.1.owner) /\ W.cell? ⟨b, off + k * 8 + 3, none⟩ = some (.int .i64 l.1.key) /\ W.cell? ⟨b, off + k * 8 + 4, none⟩ = some (.int .i64 l.1.seq) /\ W.cell? ⟨b, off + k * 8 + 5, none⟩ = some (l.2) /\ W.cell? ⟨b, off + k * 8 + 6, none⟩ = some (.int .i64 l.1.cost) /\ W.cell? ⟨b, off + k * 8 + 7, none⟩ = some (.bool l.1.far))) (by kernel_rfl) 23 rfl ⟨c0, c1, c2, c3, c4, c5, c6, c7⟩ (fun ops hops hHeld => ?_)
    iterate 4
     refine Zas 23 ?_ ?_ ?_ (by rw [hops.out]; kernel_rfl) ?_ ?_ (by assumption) ?_
     rotate_left 2
     ·rw [hops.out]; simp only [getS, Nat.reduceSub, Nat.reduceAdd]; rfl
     ·intro W hW; (try dsimp only at hW); go_simp <;> with_reducible rfl
     ·exact fun _ _ _ => id
     try simp only [putS]
    refine Zak 4 (oi := ?_) ?_ (by rw [hops.out]; kernel_rfl) ?_ ?_
    rotate_left 1
    ·rw [hops.out]; simp only [getS]; rfl
    ·rw [hops.out]; kernel_rfl
    intro K hK
    go_simp
    refine (HOK.out _ hnd).mono ?_
    rintro e w1 ⟨rfl, b1⟩
    have hSn : _ /\ _ := (show ((fun W => W.cell? ⟨b, off + k * 8, none⟩ = some (.int .i64 l.1.area) /\ W.cell? ⟨b, off + k * 8 + 1, none⟩ = some (.int .i64 l.1.kind) /\ W.cell? ⟨b, off + k * 8 + 2, none⟩ = some (.int .i64 l.1.owner) /\ W.cell? ⟨b, off + k * 8 + 3, none⟩ = some (.int .i64 l.1.key) /\ W.cell? ⟨b, off + k * 8 + 4, none⟩ = some (.int .i64 l.1.seq) /\ W.cell? ⟨b, off + k * 8 + 5, none⟩ = some (l.2) /\ W.cell? ⟨b, off + k * 8 + 6, none⟩ = some (.int .i64 l.1.cost) /\ W.cell? ⟨b, off + k * 8 + 7, none⟩ = some (.bool l.1.far))) w1 from by
     obtain ⟨m0, m1, m2, m3, m4, m5, m6, m7⟩ := hHeld
     refine ⟨?_, ?_, ?_, ?_, ?_, ?_, ?_, ?_⟩ <;> (refine (b1.cell ?_).trans ?_ <;> assumption))
    refine hK.out _ _ hSn (fun hHeld => ?_)
    clear hK K hSn
    try simp only [putS]
    iterate 3
     refine Zas 23 ?_ ?_ ?_ (by rw [hops.out]; kernel_rfl) ?_ ?_ (by assumption) ?_
     rotate_left 2
     ·rw [hops.out]; simp only [getS, Nat.reduceSub, Nat.reduceAdd]; rfl
     ·intro W hW; (try dsimp only at hW); go_simp <;> with_reducible rfl
     ·exact fun _ _ _ => id
     try simp only [putS]
    refine ZaV 8 (oi := ?_) (v := .bool false) ?_ (by rw [hops.out]; kernel_rfl) ?_ ?_ ?_ (by assumption) ?_
    rotate_left 1
    ·rw [hops.out]; simp only [getS]; rfl
    ·rw [hops.out]; kernel_rfl
    ·intro W hW; (try dsimp only at hW); go_simp <;> (first | with_reducible rfl | (simp; omega) | omega)
    ·exact fun _ _ _ => id
    try simp only [putS]
    refine ZaZ 9 ?_ ?_ ?_ (by rw [hops.out]; kernel_rfl) ?_ ?_ (by assumption) ?_
    rotate_left 2
    ·rw [hops.out]; simp only [getS]; rfl
    ·intro W hW; (try dsimp only at hW); go_simp <;> with_reducible rfl
    ·exact fun _ _ _ => id
    try simp only [putS]
    refine Zad 10 23 (by rw [hops.out]; kernel_rfl) (fun _ _ _ h => h) (by assumption) ?_
    try simp only [putS]
    refine Zad 11 24 (by rw [hops.out]; kernel_rfl) (fun _ _ _ h => h) (by assumption) ?_
    try simp only [putS]
    refine Zad 12 25 (by rw [hops.out]; kernel_rfl) (fun _ _ _ h => h) (by assumption) ?_
    try simp only [putS]
    refine Zad 13 26 (by rw [hops.out]; kernel_rfl) (fun _ _ _ h => h) (by assumption) ?_
    try simp only [putS]
    refine Zad 14 27 (by rw [hops.out]; kernel_rfl) (fun _ _ _ h => h) (by assumption) ?_
    try simp only [putS]
    refine Zad 15 28 (by rw [hops.out]; kernel_rfl) (fun _ _ _ h => h) (by assumption) ?_
    try simp only [putS]
    refine Zad 16 29 (by rw [hops.out]; kernel_rfl) (fun _ _ _ h => h) (by assumption) ?_
    try simp only [putS]
    refine Zad 17 30 (by rw [hops.out]; kernel_rfl) (fun _ _ _ h => h) (by assumption) ?_
    try simp only [putS]
    refine Zad 18 31 (by rw [hops.out]; kernel_rfl) (fun _ _ _ h => h) (by assumption) ?_
    try simp only [putS]
    refine Zad 19 32 (by rw [hops.out]; kernel_rfl) (fun _ _ _ h => h) (by assumption) ?_
    try simp only [putS]
    refine Zad 20 33 (by rw [hops.out]; kernel_rfl) (fun _ _ _ h => h) (by assumption) ?_
    try simp only [putS]
    iterate 2
     refine Zas 23 ?_ ?_ ?_ (by rw [hops.out]; kernel_rfl) ?_ ?_ (by assumption) ?_
     rotate_left 2
     ·rw [hops.out]; simp only [getS, Nat.reduceSub, Nat.reduceAdd]; rfl
     ·intro W hW; (try dsimp only at hW); go_simp <;> with_reducible rfl
     ·exact fun _ _ _ => id
     try simp only [putS]
    refine wpAnyH_done (by rw [hops.out]; kernel_rfl) ?_ _
    clear hops ops
    go_wp2
    exact ⟨⟨k + 1, by omega, by go_num, ZaW HALL.out HAT1.out, ZaW HASC.out HAT2.out, hnd.trans (b1.mono hsz)⟩, by simp [intOf]; omega⟩
   ·obtain ⟨j, hj⟩ : ∃ j, k = j + 1 := ⟨k - 1, by omega⟩
    obtain ⟨p, hp⟩ : ∃ p, ps[j]? = some p := ⟨ps[j], List.getElem?_eq_getElem (by omega)⟩
    obtain ⟨b', off', cap2, hve2, hbb2, d0, d1, d2, d3, d4, d5, d6, d7, _⟩ := HV.out.cells j p hp
    cases hve2
    rw [<- hnx.cell (p := ⟨b, off + j * 8, none⟩) hbb] at d0
    rw [<- hnx.cell (p := ⟨b, off + j * 8 + 1, none⟩) hbb] at d1
    rw [<- hnx.cell (p := ⟨b, off + j * 8 + 2, none⟩) hbb] at d2
    rw [<- hnx.cell (p := ⟨b, off + j * 8 + 3, none⟩) hbb] at d3
    rw [<- hnx.cell (p := ⟨b, off + j * 8 + 4, none⟩) hbb] at d4
    rw [<- hnx.cell (p := ⟨b, off + j * 8 + 5, none⟩) hbb] at d5
    rw [<- hnx.cell (p := ⟨b, off + j * 8 + 6, none⟩) hbb] at d6
    rw [<- hnx.cell (p := ⟨b, off + j * 8 + 7, none⟩) hbb] at d7
    have hat2 : ZcI ordR (fsts ps) k = decide (ordR p.1 l.1 < 0) := by rw [hj]; exact Zcw (Zbo hp) (by rw [<- hj]; exact HL.out)
    rw [ZjL] at hat2
    have hj1 : (k : Int) - 1 = (j : Int) := by omega
    have hj2 : (0 : Int) <= (j : Int) := by omega
    have hj3 : (j : Int) < (ps.length : Int) := by omega
    have hj4 : (0 : Int) < (k : Int) := by omega
    have hj5 : IntKind.i64.wrap (j : Int) = (j : Int) := ZaM _ (by omega) (by omega)
    have HBF := hide (fun W => Zee p.2 l.2 p.1 l.1 W)
    unfold recC at HBF
    obtain ⟨qb, hqb⟩ : ∃ q, q = Zaz p.1 l.1 := ⟨_, rfl⟩
    rw [<- hqb] at HBF hat2
    have HAT2 := hide hat2
    clear hqb hp hat2 hj hk0 hbb2
    cases qb
    ·have HF := hide (Zmw (by rw [HFL.out]; exact hlt) HAT2.out)
     go_wp2
     refine Zai (S := (fun W => W.cell? ⟨b, off + k * 8, none⟩ = some (.int .i64 l.1.area) /\ W.cell? ⟨b, off + k * 8 + 1, none⟩ = some (.int .i64 l.1.kind) /\ W.cell? ⟨b, off + k * 8 + 2, none⟩ = some (.int .i64 l.1.owner) /\ W.cell? ⟨b, off + k * 8 + 3, none⟩ = some (.int .i64 l.1.key) /\ W.cell? ⟨b, off + k * 8 + 4, none⟩ = some (.int .i64 l.1.seq) /\ W.cell? ⟨b, off + k * 8 + 5, none⟩ = some (l.2) /\ W.cell? ⟨b, off + k * 8 + 6, none⟩ = some (.int .i64 l.1.cost) /\ W.cell? ⟨b, off + k * 8 + 7, none⟩ = some (.bool l.1.far) /\ W.cell? ⟨b, off + j * 8, none⟩ = some (.int .i64 p.1.area) /\ W.cell? ⟨b, off + j * 8 + 1, none⟩ = some (.int .i64 p.1.kind) /\ W.cell? ⟨b, off + j * 8 + 2, none⟩ = some (.int .i64 p.1.owner) /\ W.cell? ⟨b, off + j * 8 + 3, none⟩ = some (.int .i64 p.1.key) /\ W.cell? ⟨b, off + j * 8 + 4, none⟩ = some (.int .i64 p.1.seq) /\ W.cell? ⟨b, off + j * 8 + 5, none⟩ = some (p.2) /\ W.cell? ⟨b, off + j * 8 + 6, none⟩ = some (.int .i64 p.1.cost) /\ W.cell? ⟨b, off + j * 8 + 7, none⟩ = some (.bool p.1.far))) (by kernel_rfl) 23 rfl ⟨c0, c1, c2, c3, c4, c5, c6, c7, d0, d1, d2, d3, d4, d5, d6, d7⟩ (fun ops hops hHeld => ?_)
     iterate 4
      refine Zas 23 ?_ ?_ ?_ (by rw [hops.out]; kernel_rfl) ?_ ?_ (by assumption) ?_
      rotate_left 2
      ·rw [hops.out]; simp only [getS, Nat.reduceSub, Nat.reduceAdd]; rfl
      ·intro W hW; (try dsimp only at hW); go_simp <;> with_reducible rfl
      ·exact fun _ _ _ => id
      try simp only [putS]
     refine Zak 4 (oi := ?_) ?_ (by rw [hops.out]; kernel_rfl) ?_ ?_
     rotate_left 1
     ·rw [hops.out]; simp only [getS]; rfl
     ·rw [hops.out]; kernel_rfl
     intro K hK
     go_simp
     refine (HOK.out _ hnd).mono ?_
     rintro e w1 ⟨rfl, b1⟩
     have hSn : _ /\ _ := (show ((fun W => W.cell? ⟨b, off + k * 8, none⟩ = some (.int .i64 l.1.area) /\ W.cell? ⟨b, off + k * 8 + 1, none⟩ = some (.int .i64 l.1.kind) /\ W.cell? ⟨b, off + k * 8 + 2, none⟩ = some (.int .i64 l.1.owner) /\ W.cell? ⟨b, off + k * 8 + 3, none⟩ = some (.int .i64 l.1.key) /\ W.cell? ⟨b, off + k * 8 + 4, none⟩ = some (.int .i64 l.1.seq) /\ W.cell? ⟨b, off + k * 8 + 5, none⟩ = some (l.2) /\ W.cell? ⟨b, off + k * 8 + 6, none⟩ = some (.int .i64 l.1.cost) /\ W.cell? ⟨b, off + k * 8 + 7, none⟩ = some (.bool l.1.far) /\ W.cell? ⟨b, off + j * 8, none⟩ = some (.int .i64 p.1.area) /\ W.cell? ⟨b, off + j * 8 + 1, none⟩ = some (.int .i64 p.1.kind) /\ W.cell? ⟨b, off + j * 8 + 2, none⟩ = some (.int .i64 p.1.owner) /\ W.cell? ⟨b, off + j * 8 + 3, none⟩ = some (.int .i64 p.1.key) /\ W.cell? ⟨b, off + j * 8 + 4, none⟩ = some (.int .i64 p.1.seq) /\ W.cell? ⟨b, off + j * 8 + 5, none⟩ = some (p.2) /\ W.cell? ⟨b, off + j * 8 + 6, none⟩ = some (.int .i64 p.1.cost) /\ W.cell? ⟨b, off + j * 8 + 7, none⟩ = some (.bool p.1.far))) w1 from by
      obtain ⟨m0, m1, m2, m3, m4, m5, m6, m7, n0, n1, n2, n3, n4, n5, n6, n7⟩ := hHeld
      refine ⟨?_, ?_, ?_, ?_, ?_, ?_, ?_, ?_, ?_, ?_, ?_, ?_, ?_, ?_, ?_, ?_⟩ <;> (refine (b1.cell ?_).trans ?_ <;> assumption))
     refine hK.out _ _ hSn (fun hHeld => ?_)
     clear hK K hSn
     try simp only [putS]
     have hbr : b < w1.heap.size := Nat.lt_of_lt_of_le hbr b1.size
     iterate 3
      refine Zas 23 ?_ ?_ ?_ (by rw [hops.out]; kernel_rfl) ?_ ?_ (by assumption) ?_
      rotate_left 2
      ·rw [hops.out]; simp only [getS, Nat.reduceSub, Nat.reduceAdd]; rfl
      ·intro W hW; (try dsimp only at hW); go_simp <;> with_reducible rfl
      ·exact fun _ _ _ => id
      try simp only [putS]
     refine ZaV 8 (oi := ?_) (v := .bool true) ?_ (by rw [hops.out]; kernel_rfl) ?_ ?_ ?_ (by assumption) ?_
     rotate_left 1
     ·rw [hops.out]; simp only [getS]; rfl
     ·rw [hops.out]; kernel_rfl
     ·intro W hW; (try dsimp only at hW); go_simp <;> (first | with_reducible rfl | (simp; omega) | omega)
     ·exact fun _ _ _ => id
     try simp only [putS]
     iterate 10
      refine Zas 23 ?_ ?_ ?_ (by rw [hops.out]; kernel_rfl) ?_ ?_ (by assumption) ?_
      rotate_left 2
      ·rw [hops.out]; simp only [getS, Nat.reduceSub, Nat.reduceAdd]; rfl
      ·intro W hW; (try dsimp only at hW); go_simp <;> with_reducible rfl
      ·exact fun _ _ _ => id
      try simp only [putS]
     refine Zak 19 (oi := ?_) ?_ (by rw [hops.out]; kernel_rfl) ?_ ?_
     rotate_left 1
     ·rw [hops.out]; simp only [getS]; rfl
     ·rw [hops.out]; kernel_rfl
     intro K hK
     go_simp
     refine (HBF.out _).mono ?_
     rintro e w2 ⟨rfl, b2⟩
     have hSn : _ /\ _ := (show ((fun W => W.cell? ⟨b, off + k * 8, none⟩ = some (.int .i64 l.1.area) /\ W.cell? ⟨b, off + k * 8 + 1, none⟩ = some (.int .i64 l.1.kind) /\ W.cell? ⟨b, off + k * 8 + 2, none⟩ = some (.int .i64 l.1.owner) /\ W.cell? ⟨b, off + k * 8 + 3, none⟩ = some (.int .i64 l.1.key) /\ W.cell? ⟨b, off + k * 8 + 4, none⟩ = some (.int .i64 l.1.seq) /\ W.cell? ⟨b, off + k * 8 + 5, none⟩ = some (l.2) /\ W.cell? ⟨b, off + k * 8 + 6, none⟩ = some (.int .i64 l.1.cost) /\ W.cell? ⟨b, off + k * 8 + 7, none⟩ = some (.bool l.1.far) /\ W.cell? ⟨b, off + j * 8, none⟩ = some (.int .i64 p.1.area) /\ W.cell? ⟨b, off + j * 8 + 1, none⟩ = some (.int .i64 p.1.kind) /\ W.cell? ⟨b, off + j * 8 + 2, none⟩ = some (.int .i64 p.1.owner) /\ W.cell? ⟨b, off + j * 8 + 3, none⟩ = some (.int .i64 p.1.key) /\ W.cell? ⟨b, off + j * 8 + 4, none⟩ = some (.int .i64 p.1.seq) /\ W.cell? ⟨b, off + j * 8 + 5, none⟩ = some (p.2) /\ W.cell? ⟨b, off + j * 8 + 6, none⟩ = some (.int .i64 p.1.cost) /\ W.cell? ⟨b, off + j * 8 + 7, none⟩ = some (.bool p.1.far))) w2 from by
      obtain ⟨m0, m1, m2, m3, m4, m5, m6, m7, n0, n1, n2, n3, n4, n5, n6, n7⟩ := hHeld
      refine ⟨?_, ?_, ?_, ?_, ?_, ?_, ?_, ?_, ?_, ?_, ?_, ?_, ?_, ?_, ?_, ?_⟩ <;> (refine (b2.cell ?_).trans ?_ <;> assumption))
     refine hK.out _ _ hSn (fun hHeld => ?_)
     clear hK K hSn
     try simp only [putS]
     iterate 3
      refine Zas 23 ?_ ?_ ?_ (by rw [hops.out]; kernel_rfl) ?_ ?_ (by assumption) ?_
      rotate_left 2
      ·rw [hops.out]; simp only [getS, Nat.reduceSub, Nat.reduceAdd]; rfl
      ·intro W hW; (try dsimp only at hW); go_simp <;> with_reducible rfl
      ·exact fun _ _ _ => id
      try simp only [putS]
     refine wpAnyH_done (by rw [hops.out]; kernel_rfl) ?_ _
     clear hops ops
     go_wp2
     go_ret
     exact ⟨Zaj HF.out, (hnd.trans (b1.mono hsz)).trans (b2.mono (by have := b1.size; have : wr.drew.heap.size = wr.heap.size := rfl; omega))⟩
    ·go_wp2
     refine Zai (S := (fun W => W.cell? ⟨b, off + k * 8, none⟩ = some (.int .i64 l.1.area) /\ W.cell? ⟨b, off + k * 8 + 1, none⟩ = some (.int .i64 l.1.kind) /\ W.cell? ⟨b, off + k * 8 + 2, none⟩ = some (.int .i64 l.1.owner) /\ W.cell? ⟨b, off + k * 8 + 3, none⟩ = some (.int .i64 l.1.key) /\ W.cell? ⟨b, off + k * 8 + 4, none⟩ = some (.int .i64 l.1.seq) /\ W.cell? ⟨b, off + k * 8 + 5, none⟩ = some (l.2) /\ W.cell? ⟨b, off + k * 8 + 6, none⟩ = some (.int .i64 l.1.cost) /\ W.cell? ⟨b, off + k * 8 + 7, none⟩ = some (.bool l.1.far) /\ W.cell? ⟨b, off + j * 8, none⟩ = some (.int .i64 p.1.area) /\ W.cell? ⟨b, off + j * 8 + 1, none⟩ = some (.int .i64 p.1.kind) /\ W.cell? ⟨b, off + j * 8 + 2, none⟩ = some (.int .i64 p.1.owner) /\ W.cell? ⟨b, off + j * 8 + 3, none⟩ = some (.int .i64 p.1.key) /\ W.cell? ⟨b, off + j * 8 + 4, none⟩ = some (.int .i64 p.1.seq) /\ W.cell? ⟨b, off + j * 8 + 5, none⟩ = some (p.2) /\ W.cell? ⟨b, off + j * 8 + 6, none⟩ = some (.int .i64 p.1.cost) /\ W.cell? ⟨b, off + j * 8 + 7, none⟩ = some (.bool p.1.far))) (by kernel_rfl) 23 rfl ⟨c0, c1, c2, c3, c4, c5, c6, c7, d0, d1, d2, d3, d4, d5, d6, d7⟩ (fun ops hops hHeld => ?_)
     iterate 4
      refine Zas 23 ?_ ?_ ?_ (by rw [hops.out]; kernel_rfl) ?_ ?_ (by assumption) ?_
      rotate_left 2
      ·rw [hops.out]; simp only [getS, Nat.reduceSub, Nat.reduceAdd]; rfl
      ·intro W hW; (try dsimp only at hW); go_simp <;> with_reducible rfl
      ·exact fun _ _ _ => id
      try simp only [putS]
     refine Zak 4 (oi := ?_) ?_ (by rw [hops.out]; kernel_rfl) ?_ ?_
     rotate_left 1
     ·rw [hops.out]; simp only [getS]; rfl
     ·rw [hops.out]; kernel_rfl
     intro K hK
     go_simp
     refine (HOK.out _ hnd).mono ?_
     rintro e w1 ⟨rfl, b1⟩
     have hSn : _ /\ _ := (show ((fun W => W.cell? ⟨b, off + k * 8, none⟩ = some (.int .i64 l.1.area) /\ W.cell? ⟨b, off + k * 8 + 1, none⟩ = some (.int .i64 l.1.kind) /\ W.cell? ⟨b, off + k * 8 + 2, none⟩ = some (.int .i64 l.1.owner) /\ W.cell? ⟨b, off + k * 8 + 3, none⟩ = some (.int .i64 l.1.key) /\ W.cell? ⟨b, off + k * 8 + 4, none⟩ = some (.int .i64 l.1.seq) /\ W.cell? ⟨b, off + k * 8 + 5, none⟩ = some (l.2) /\ W.cell? ⟨b, off + k * 8 + 6, none⟩ = some (.int .i64 l.1.cost) /\ W.cell? ⟨b, off + k * 8 + 7, none⟩ = some (.bool l.1.far) /\ W.cell? ⟨b, off + j * 8, none⟩ = some (.int .i64 p.1.area) /\ W.cell? ⟨b, off + j * 8 + 1, none⟩ = some (.int .i64 p.1.kind) /\ W.cell? ⟨b, off + j * 8 + 2, none⟩ = some (.int .i64 p.1.owner) /\ W.cell? ⟨b, off + j * 8 + 3, none⟩ = some (.int .i64 p.1.key) /\ W.cell? ⟨b, off + j * 8 + 4, none⟩ = some (.int .i64 p.1.seq) /\ W.cell? ⟨b, off + j * 8 + 5, none⟩ = some (p.2) /\ W.cell? ⟨b, off + j * 8 + 6, none⟩ = some (.int .i64 p.1.cost) /\ W.cell? ⟨b, off + j * 8 + 7, none⟩ = some (.bool p.1.far))) w1 from by
      obtain ⟨m0, m1, m2, m3, m4, m5, m6, m7, n0, n1, n2, n3, n4, n5, n6, n7⟩ := hHeld
      refine ⟨?_, ?_, ?_, ?_, ?_, ?_, ?_, ?_, ?_, ?_, ?_, ?_, ?_, ?_, ?_, ?_⟩ <;> (refine (b1.cell ?_).trans ?_ <;> assumption))
     refine hK.out _ _ hSn (fun hHeld => ?_)
     clear hK K hSn
     try simp only [putS]
     have hbr : b < w1.heap.size := Nat.lt_of_lt_of_le hbr b1.size
     iterate 3
      refine Zas 23 ?_ ?_ ?_ (by rw [hops.out]; kernel_rfl) ?_ ?_ (by assumption) ?_
      rotate_left 2
      ·rw [hops.out]; simp only [getS, Nat.reduceSub, Nat.reduceAdd]; rfl
      ·intro W hW; (try dsimp only at hW); go_simp <;> with_reducible rfl
      ·exact fun _ _ _ => id
      try simp only [putS]
     refine ZaV 8 (oi := ?_) (v := .bool true) ?_ (by rw [hops.out]; kernel_rfl) ?_ ?_ ?_ (by assumption) ?_
     rotate_left 1
     ·rw [hops.out]; simp only [getS]; rfl
     ·rw [hops.out]; kernel_rfl
     ·intro W hW; (try dsimp only at hW); go_simp <;> (first | with_reducible rfl | (simp; omega) | omega)
     ·exact fun _ _ _ => id
     try simp only [putS]
     iterate 10
      refine Zas 23 ?_ ?_ ?_ (by rw [hops.out]; kernel_rfl) ?_ ?_ (by assumption) ?_
      rotate_left 2
      ·rw [hops.out]; simp only [getS, Nat.reduceSub, Nat.reduceAdd]; rfl
      ·intro W hW; (try dsimp only at hW); go_simp <;> with_reducible rfl
      ·exact fun _ _ _ => id
      try simp only [putS]
     refine Zak 19 (oi := ?_) ?_ (by rw [hops.out]; kernel_rfl) ?_ ?_
     rotate_left 1
     ·rw [hops.out]; simp only [getS]; rfl
     ·rw [hops.out]; kernel_rfl
     intro K hK
     go_simp
     refine (HBF.out _).mono ?_
     rintro e w2 ⟨rfl, b2⟩
     have hSn : _ /\ _ := (show ((fun W => W.cell? ⟨b, off + k * 8, none⟩ = some (.int .i64 l.1.area) /\ W.cell? ⟨b, off + k * 8 + 1, none⟩ = some (.int .i64 l.1.kind) /\ W.cell? ⟨b, off + k * 8 + 2, none⟩ = some (.int .i64 l.1.owner) /\ W.cell? ⟨b, off + k * 8 + 3, none⟩ = some (.int .i64 l.1.key) /\ W.cell? ⟨b, off + k * 8 + 4, none⟩ = some (.int .i64 l.1.seq) /\ W.cell? ⟨b, off + k * 8 + 5, none⟩ = some (l.2) /\ W.cell? ⟨b, off + k * 8 + 6, none⟩ = some (.int .i64 l.1.cost) /\ W.cell? ⟨b, off + k * 8 + 7, none⟩ = some (.bool l.1.far) /\ W.cell? ⟨b, off + j * 8, none⟩ = some (.int .i64 p.1.area) /\ W.cell? ⟨b, off + j * 8 + 1, none⟩ = some (.int .i64 p.1.kind) /\ W.cell? ⟨b, off + j * 8 + 2, none⟩ = some (.int .i64 p.1.owner) /\ W.cell? ⟨b, off + j * 8 + 3, none⟩ = some (.int .i64 p.1.key) /\ W.cell? ⟨b, off + j * 8 + 4, none⟩ = some (.int .i64 p.1.seq) /\ W.cell? ⟨b, off + j * 8 + 5, none⟩ = some (p.2) /\ W.cell? ⟨b, off + j * 8 + 6, none⟩ = some (.int .i64 p.1.cost) /\ W.cell? ⟨b, off + j * 8 + 7, none⟩ = some (.bool p.1.far))) w2 from by
      obtain ⟨m0, m1, m2, m3, m4, m5, m6, m7, n0, n1, n2, n3, n4, n5, n6, n7⟩ := hHeld
      refine ⟨?_, ?_, ?_, ?_, ?_, ?_, ?_, ?_, ?_, ?_, ?_, ?_, ?_, ?_, ?_, ?_⟩ <;> (refine (b2.cell ?_).trans ?_ <;> assumption))
     refine hK.out _ _ hSn (fun hHeld => ?_)
     clear hK K hSn
     try simp only [putS]
     iterate 3
      refine Zas 23 ?_ ?_ ?_ (by rw [hops.out]; kernel_rfl) ?_ ?_ (by assumption) ?_
      rotate_left 2
      ·rw [hops.out]; simp only [getS, Nat.reduceSub, Nat.reduceAdd]; rfl
      ·intro W hW; (try dsimp only at hW); go_simp <;> with_reducible rfl
      ·exact fun _ _ _ => id
      try simp only [putS]
     refine wpAnyH_done (by rw [hops.out]; kernel_rfl) ?_ _
     clear hops ops
     go_wp2
     exact ⟨⟨k + 1, by omega, by go_num, ZaW HALL.out HAT1.out, ZaW HASC.out HAT2.out, (hnd.trans (b1.mono hsz)).trans (b2.mono (by have := b1.size; have : wr.drew.heap.size = wr.heap.size := rfl; omega))⟩, by simp [intOf]; omega⟩
  ·have e1 : Zcg Za3 (fsts ps) = true := Zbh fun i hi => HALL.out i (by have := HFL.out; omega)
   have e3 : ascB ordR (fsts ps) = true := Zbh fun i hi => HASC.out i (by have := HFL.out; omega)
   have e2 : ZaE (fsts ps) = true := by
    unfold ZaE
    rw [e1, e3, decide_eq_true (by have := HFL.out; omega)]
    rfl
   have HE := hide e2
   clear e1 e2 e3
   go_wp2
   go_ret
   exact ⟨Zaj HE.out, hnx⟩
theorem ZmN (f : RP -> Bool) (ps : List RP) : tot (ps.filter f) <= tot ps := by
 induction ps with
 | nil => simp [tot]
 | cons p ps ih =>
  rw [List.filter_cons]
  split
  ·rw [Zcv, Zcv]; omega
  ·rw [Zcv]; omega
theorem ZnX (f g : RP -> Bool) (hfg : ∀ p, f p = true -> g p = false) (ps : List RP) : tot (ps.filter f) + tot (ps.filter g) <= tot ps := by
 induction ps with
 | nil => simp [tot]
 | cons p ps ih =>
  have := hfg p
  by_cases hf : f p = true
  ·have hg := this hf
   simp only [List.filter_cons, hf, hg, if_true, Bool.false_eq_true, if_false, Zcv]
   omega
  ·have hf' : f p = false := by simpa using hf
   by_cases hg : g p = true
   ·simp only [List.filter_cons, hf', hg, if_true, Bool.false_eq_true, if_false, Zcv]
    omega
   ·have hg' : g p = false := by simpa using hg
    simp only [List.filter_cons, hf', hg', Bool.false_eq_true, if_false, Zcv]
    omega
theorem Zgs {x y : RecD} (h : Zaz x y = true) : Zaz y x = false := by
 unfold Zaz at *
 simp only [Bool.or_eq_true, Bool.and_eq_true, decide_eq_true_eq, beq_iff_eq] at h
 simp only [Bool.or_eq_false_iff, Bool.and_eq_false_iff, decide_eq_false_iff_not, beq_eq_false_iff_ne]
 omega
theorem ZhK (ps : List RP) (r : RP) : tot (putL ps r) <= tot ps + (1 + r.1.near.length) := by
 unfold putL
 rw [Zdb, Zdb]
 have h := ZnX (fun p => Zaz p.1 r.1) (fun p => Zaz r.1 p.1) (fun p hp => Zgs hp) ps
 have e : tot [r] = 1 + r.1.near.length := by simp [tot]
 omega

end Go.Proofs.YtakiifededfjlaaGreat
namespace Go.Proofs.YtakiifededfjlaaGreat
open Go.RowKit

theorem ZiH {x y z : RecD} (h1 : Zaz x y = true) (h2 : Zaz y z = true) : Zaz x z = true := by
 unfold Zaz at *
 simp only [Bool.or_eq_true, Bool.and_eq_true, decide_eq_true_eq, beq_iff_eq] at *
 omega

theorem ZfZ {x y : RecD} (h1 : Zba x y = true) : Zaz x y = false /\ Zaz y x = false := by
 unfold Zaz Zba at *
 simp only [Bool.or_eq_false_iff, Bool.and_eq_false_iff, decide_eq_false_iff_not, beq_eq_false_iff_ne, Bool.and_eq_true, beq_iff_eq] at *
 omega

def Asc (xs : List RecD) : Prop := xs.Pairwise (fun x y => Zaz x y = true)

theorem ZmU {xs : List RecD} (h : Asc xs) : ascB ordR xs = true := by
 unfold Asc at h
 rw [List.pairwise_iff_getElem] at h
 refine Zbh fun j hj => ?_
 cases j with
 | zero => rfl
 | succ k =>
  rw [Zcw (List.getElem?_eq_getElem (by omega)) (List.getElem?_eq_getElem hj), ZjL]
  exact h k (k + 1) (by omega) hj (by omega)

def putD (xs : List RecD) (r : RecD) : List RecD := xs.filter (fun x => Zaz x r) ++ [r] ++ xs.filter (fun x => Zaz r x)

theorem ZeX (ps : List RP) (r : RP) : fsts (putL ps r) = putD (fsts ps) r.1 := by
 unfold putL putD fsts
 simp [List.filter_map, Function.comp_def]

section
variable {xs : List RecD} {r : RecD} {i : Nat}

end
end Go.Proofs.YtakiifededfjlaaGreat
namespace Go.Proofs.YtakiifededfjlaaGreat
open Go.RowKit
set_option linter.unusedSimpArgs false
set_option linter.unusedVariables false
set_option maxRecDepth 100000
set_option maxHeartbeats 8000000
def seq1 (r : RecD) : RecD := if r.seq = 0 then { r with seq := 1 } else r
def Zd8 (xs ts : List RecD) : List RecD := ts.foldl (fun a r => putD a (seq1 r)) xs
theorem Zg8 {xs ts : List RecD} {k : Nat} {r : RecD} (h : ts[k]? = some r) : Zd8 xs (ts.take (k + 1)) = putD (Zd8 xs (ts.take k)) (seq1 r) := by
 obtain ⟨hk, e⟩ := List.getElem?_eq_some_iff.1 h
 unfold Zd8
 rw [List.take_succ_eq_append_getElem hk, e, List.foldl_append]
 rfl
theorem Zmp {ts : List RP} {k : Nat} {p : RP} (h : ts[k]? = some p) : tot (ts.take (k + 1)) = tot (ts.take k) + (1 + p.1.near.length) := by
 obtain ⟨hk, e⟩ := List.getElem?_eq_some_iff.1 h
 rw [List.take_succ_eq_append_getElem hk, Zdb, e]
 simp [tot]
theorem Ziw (ts : List RP) (k : Nat) : tot (ts.take k) <= tot ts := by
 have h := Zdb (ts.take k) (ts.drop k)
 rw [List.take_append_drop] at h
 omega
theorem ZnE (v v2 : Value) (ps ts : List RP) (hi : Nat) (w : World) (hv : RecsIn w hi v ps) (ht : RecsIn w hi v2 ts) (hhi : hi <= w.heap.size) (hn : tot ps + tot ts <= 1048576) :
  Calls Tryz.prog 60 #[v, v2] w fun e w' => ∃ x qs, e = .returned x /\ fsts qs = Zd8 (fsts ps) (fsts ts) /\ RecsIn w' w'.heap.size x qs /\ tot qs <= tot ps + tot ts /\ Below w.heap.size w w' := by
 have htl := ZbL ts
 obtain ⟨a1, c1, rfl⟩ := Zac hv.row
 obtain ⟨a2, c2, rfl⟩ := Zac ht.row
 have HT := hide ht
 have HV0 := hide (hv.wide hhi)
 clear hv ht
 go_enter Tryz.func60, Tryz.ntmps60
 go_wp2
 go_loopw [6, 5] (fun i o wr => ∃ (k : Nat) (x : Value) (qs : List RP), k <= ts.length /\ i = .int .i64 (k : Int) /\ o = x /\ RecsIn wr wr.heap.size x qs /\ Hid (fsts qs = Zd8 (fsts ps) ((fsts ts).take k)) /\ tot qs <= tot ps + tot (ts.take k) /\ Below w.heap.size w wr) (fun i _ _ => ts.length - (intOf i).toNat)
 case atStart => exact ⟨0, _, ps, by omega, rfl, rfl, HV0.out, hide (by simp [Zd8]), by omega, Below.refl _ _⟩
 case round =>
  obtain ⟨k, x, qs, hk, rfl, rfl, hin, HF, htq, hnx⟩ := hrel
  clear HV0
  obtain ⟨xa, xc, rfl⟩ := Zac hin.row
  have hsz := hnx.size
  by_cases hlt : k < ts.length
  ·obtain ⟨p, hp⟩ : ∃ p, ts[k]? = some p := ⟨ts[k], List.getElem?_eq_getElem hlt⟩
   obtain ⟨bb, off, cap', hve, hbb, c0, c1, c2, c3, c4, c5, c6, c7, hnr⟩ := HT.out.at.cells k p hp
   cases hve
   obtain ⟨pa, pc, hpn⟩ := ZaC.shape hnr
   rw [hpn] at c5
   rw [<- hnx.cell (p := ⟨bb, off + k * 8, none⟩) (Nat.lt_of_lt_of_le hbb hhi)] at c0
   rw [<- hnx.cell (p := ⟨bb, off + k * 8 + 1, none⟩) (Nat.lt_of_lt_of_le hbb hhi)] at c1
   rw [<- hnx.cell (p := ⟨bb, off + k * 8 + 2, none⟩) (Nat.lt_of_lt_of_le hbb hhi)] at c2
   rw [<- hnx.cell (p := ⟨bb, off + k * 8 + 3, none⟩) (Nat.lt_of_lt_of_le hbb hhi)] at c3
   rw [<- hnx.cell (p := ⟨bb, off + k * 8 + 4, none⟩) (Nat.lt_of_lt_of_le hbb hhi)] at c4
   rw [<- hnx.cell (p := ⟨bb, off + k * 8 + 5, none⟩) (Nat.lt_of_lt_of_le hbb hhi)] at c5
   rw [<- hnx.cell (p := ⟨bb, off + k * 8 + 6, none⟩) (Nat.lt_of_lt_of_le hbb hhi)] at c6
   rw [<- hnx.cell (p := ⟨bb, off + k * 8 + 7, none⟩) (Nat.lt_of_lt_of_le hbb hhi)] at c7
   have htk := Zmp hp
   have htl2 := Ziw ts (k + 1)
   have hno0 := HT.out.nears p (List.mem_of_getElem? hp)
   have hno1 : ZaT wr 0 wr.heap.size p := (hno0.keep (W' := wr) (fun j _ h2 _ => hnx.block j (by omega))).wide (Nat.le_refl _) (by omega)
   have hpe : p = (p.1, .slice pa p.1.near.length pc) := by rw [<- hpn]
   have hki : (0 : Int) <= (k : Int) := by omega
   have hkj : (k : Int) < (ts.length : Int) := by omega
   by_cases hs0 : p.1.seq = 0
   ·have hd : (p.1.seq == 0) = true := by simpa using hs0
    have hse : seq1 p.1 = { p.1 with seq := 1 } := by unfold seq1; rw [if_pos hs0]
    have hno : ZaT wr 0 wr.heap.size ({ p.1 with seq := 1 }, .slice pa p.1.near.length pc) := by rw [hpe] at hno1; exact hno1
    clear hs0 hpe hno0 hno1 hnr hpn
    have BA : Below wr.heap.size wr (wr.alloc (.cells #[.int .i64 p.1.area, .int .i64 p.1.kind, .int .i64 p.1.owner, .int .i64 p.1.key, .int .i64 1, .slice pa p.1.near.length pc, .int .i64 p.1.cost, .bool p.1.far] 64)) := (Below.refl _ _).alloc (Nat.le_refl _) _
    have hno2 : ZaT (wr.alloc (.cells #[.int .i64 p.1.area, .int .i64 p.1.kind, .int .i64 p.1.owner, .int .i64 p.1.key, .int .i64 1, .slice pa p.1.near.length pc, .int .i64 p.1.cost, .bool p.1.far] 64)) 0 (wr.alloc (.cells #[.int .i64 p.1.area, .int .i64 p.1.kind, .int .i64 p.1.owner, .int .i64 p.1.key, .int .i64 1, .slice pa p.1.near.length pc, .int .i64 p.1.cost, .bool p.1.far] 64)).heap.size ({ p.1 with seq := 1 }, .slice pa p.1.near.length pc) := (hno.keep (W' := (wr.alloc (.cells #[.int .i64 p.1.area, .int .i64 p.1.kind, .int .i64 p.1.owner, .int .i64 p.1.key, .int .i64 1, .slice pa p.1.near.length pc, .int .i64 p.1.cost, .bool p.1.far] 64))) (fun j _ _ h3 => BA.block j h3)).wide (Nat.le_refl _) BA.size
    have HP := hide (ZhC (.slice xa qs.length xc) qs (wr.alloc (.cells #[.int .i64 p.1.area, .int .i64 p.1.kind, .int .i64 p.1.owner, .int .i64 p.1.key, .int .i64 1, .slice pa p.1.near.length pc, .int .i64 p.1.cost, .bool p.1.far] 64)).heap.size ({ p.1 with seq := 1 }, .slice pa p.1.near.length pc) (wr.alloc (.cells #[.int .i64 p.1.area, .int .i64 p.1.kind, .int .i64 p.1.owner, .int .i64 p.1.key, .int .i64 1, .slice pa p.1.near.length pc, .int .i64 p.1.cost, .bool p.1.far] 64)) ((hin.below BA (Nat.le_refl _)).wide BA.size) (Nat.le_refl _) (by omega) hno2)
    have HF2 := hide (show fsts (putL qs ({ p.1 with seq := 1 }, .slice pa p.1.near.length pc)) = Zd8 (fsts ps) ((fsts ts).take (k + 1)) by
     rw [ZeX, Zg8 (Zbo hp), <- HF.out, hse])
    have htp := ZhK qs ({ p.1 with seq := 1 }, .slice pa p.1.near.length pc)
    have HB := hide (hnx.trans (BA.mono hnx.size))
    have HTK := hide htk
    have htp2 : tot (putL qs ({ p.1 with seq := 1 }, .slice pa p.1.near.length pc)) <= tot qs + (1 + p.1.near.length) := htp
    obtain ⟨Q, hQ⟩ : ∃ Q, Q = putL qs ({ p.1 with seq := 1 }, .slice pa p.1.near.length pc) := ⟨_, rfl⟩
    rw [<- hQ] at HP HF2 htp2
    unfold recC at HP
    simp only [] at HP
    clear hno hno2 hin hse htp hp HF htk hQ
    go_wp2_with fail
    refine HP.out.mono ?_
    rintro e w2 ⟨y, rfl, hy, b2⟩
    obtain ⟨ya, yc, rfl⟩ := Zac hy.row
    have HY := hide hy
    have HB2 := hide (HB.out.trans (b2.mono HB.out.size))
    clear hy b2 HP HB BA
    go_wp2
    go_roundw
    case rel => exact ⟨k + 1, _, Q, by omega, by go_num, rfl, HY.out, HF2, by have := HTK.out; omega, HB2.out⟩
    case measure => simp [intOf]; omega
   ·have hd : (p.1.seq == 0) = false := by simpa using hs0
    have hse : seq1 p.1 = p.1 := by unfold seq1; rw [if_neg hs0]
    have hno : ZaT wr 0 wr.heap.size (p.1, .slice pa p.1.near.length pc) := by rw [hpe] at hno1; exact hno1
    clear hs0 hpe hno0 hno1 hnr hpn
    have BA : Below wr.heap.size wr (wr.alloc (.cells #[.int .i64 p.1.area, .int .i64 p.1.kind, .int .i64 p.1.owner, .int .i64 p.1.key, .int .i64 p.1.seq, .slice pa p.1.near.length pc, .int .i64 p.1.cost, .bool p.1.far] 64)) := (Below.refl _ _).alloc (Nat.le_refl _) _
    have hno2 : ZaT (wr.alloc (.cells #[.int .i64 p.1.area, .int .i64 p.1.kind, .int .i64 p.1.owner, .int .i64 p.1.key, .int .i64 p.1.seq, .slice pa p.1.near.length pc, .int .i64 p.1.cost, .bool p.1.far] 64)) 0 (wr.alloc (.cells #[.int .i64 p.1.area, .int .i64 p.1.kind, .int .i64 p.1.owner, .int .i64 p.1.key, .int .i64 p.1.seq, .slice pa p.1.near.length pc, .int .i64 p.1.cost, .bool p.1.far] 64)).heap.size (p.1, .slice pa p.1.near.length pc) := (hno.keep (W' := (wr.alloc (.cells #[.int .i64 p.1.area, .int .i64 p.1.kind, .int .i64 p.1.owner, .int .i64 p.1.key, .int .i64 p.1.seq, .slice pa p.1.near.length pc, .int .i64 p.1.cost, .bool p.1.far] 64))) (fun j _ _ h3 => BA.block j h3)).wide (Nat.le_refl _) BA.size
    have HP := hide (ZhC (.slice xa qs.length xc) qs (wr.alloc (.cells #[.int .i64 p.1.area, .int .i64 p.1.kind, .int .i64 p.1.owner, .int .i64 p.1.key, .int .i64 p.1.seq, .slice pa p.1.near.length pc, .int .i64 p.1.cost, .bool p.1.far] 64)).heap.size (p.1, .slice pa p.1.near.length pc) (wr.alloc (.cells #[.int .i64 p.1.area, .int .i64 p.1.kind, .int .i64 p.1.owner, .int .i64 p.1.key, .int .i64 p.1.seq, .slice pa p.1.near.length pc, .int .i64 p.1.cost, .bool p.1.far] 64)) ((hin.below BA (Nat.le_refl _)).wide BA.size) (Nat.le_refl _) (by omega) hno2)
    have HF2 := hide (show fsts (putL qs (p.1, .slice pa p.1.near.length pc)) = Zd8 (fsts ps) ((fsts ts).take (k + 1)) by
     rw [ZeX, Zg8 (Zbo hp), <- HF.out, hse])
    have htp := ZhK qs (p.1, .slice pa p.1.near.length pc)
    have HB := hide (hnx.trans (BA.mono hnx.size))
    have HTK := hide htk
    have htp2 : tot (putL qs (p.1, .slice pa p.1.near.length pc)) <= tot qs + (1 + p.1.near.length) := htp
    obtain ⟨Q, hQ⟩ : ∃ Q, Q = putL qs (p.1, .slice pa p.1.near.length pc) := ⟨_, rfl⟩
    rw [<- hQ] at HP HF2 htp2
    unfold recC at HP
    simp only [] at HP
    clear hno hno2 hin hse htp hp HF htk hQ
    go_wp2_with fail
    refine HP.out.mono ?_
    rintro e w2 ⟨y, rfl, hy, b2⟩
    obtain ⟨ya, yc, rfl⟩ := Zac hy.row
    have HY := hide hy
    have HB2 := hide (HB.out.trans (b2.mono HB.out.size))
    clear hy b2 HP HB BA
    go_wp2
    go_roundw
    case rel => exact ⟨k + 1, _, Q, by omega, by go_num, rfl, HY.out, HF2, by have := HTK.out; omega, HB2.out⟩
    case measure => simp [intOf]; omega
  ·have hkn : ¬ (k : Int) < (ts.length : Int) := by omega
   have HE := hide (show fsts qs = Zd8 (fsts ps) (fsts ts) by have h := HF.out; rw [List.take_of_length_le (by simp [fsts]; omega)] at h; exact h)
   have HI := hide hin
   have hq : tot qs <= tot ps + tot ts := by have := Ziw ts k; omega
   clear hin HF
   go_wp2
   go_ret
   first
    | exact ⟨_, qs, rfl, HE.out, HI.out, hq, hnx⟩
    | exact ⟨_, rfl, qs, HE.out, HI.out, hq, hnx⟩
end Go.Proofs.YtakiifededfjlaaGreat
namespace Go.Proofs.YtakiifededfjlaaGreat

def ZcN (v : Nat) : Prop := 1 <= v /\ v <= 6

structure Links (L : Nat -> Nat -> Int) (K : Int) : Prop where
 pos : ∀ u v, 0 <= L u v
 le : ∀ u v, L u v <= K
 node : ∀ u v, 0 < L u v -> ZcN u /\ ZcN v

def Zdu (src : Nat) (h : Nat -> List Int) (u v : Nat) (x : Int) : Prop := (u = src /\ x = (v : Int)) \/ (u ≠ src /\ x ∈ h u)

structure Inv (L : Nat -> Nat -> Int) (src : Nat) (F : Nat -> Bool) (c : Nat -> Int) (h : Nat -> List Int) : Prop where
 fnode : ∀ v, F v = true -> ZcN v /\ 0 <= c v
 cnode : ∀ v, 0 <= c v -> ZcN v
 start : c src = 0
 start0 : h src = []
 closed : ∀ u v, F u = true -> 0 < L u v -> 0 <= c v /\ c v <= c u + L u v
 pred : ∀ v, v ≠ src -> 0 <= c v -> ∃ u, F u = true /\ 0 < L u v /\ c v = c u + L u v
 mono : ∀ u v, F u = true -> F v = false -> 0 <= c v -> c u <= c v
 hop : ∀ v, v ≠ src -> ∀ x, x ∈ h v ↔ 0 <= c v /\ ∃ u, F u = true /\ 0 < L u v /\ c v = c u + L u v /\ Zdu src h u v x
 asc : ∀ v, (h v).Pairwise (· < ·)
 rng : ∀ v x, x ∈ h v -> 1 <= x /\ x <= 6

def Zay (L : Nat -> Nat -> Int) (c : Nat -> Int) (u v : Nat) : Int :=
 if 0 < L u v /\ (c v < 0 \/ c u + L u v < c v) then c u + L u v else c v

theorem ZiP {L : Nat -> Nat -> Int} {c : Nat -> Int} {u v : Nat} (h : 0 <= c v) : Zay L c u v <= c v := by
 unfold Zay; split <;> omega

theorem ZlK {L : Nat -> Nat -> Int} {c : Nat -> Int} {u v : Nat} (hu : 0 <= c u) (h : 0 <= c v) : 0 <= Zay L c u v := by
 unfold Zay; split <;> omega

theorem Zds {L : Nat -> Nat -> Int} {c : Nat -> Int} {u v : Nat} (h0 : 0 <= c v) (h : c v <= c u) : Zay L c u v = c v := by
 unfold Zay; split <;> omega

structure RelaxH (L : Nat -> Nat -> Int) (src : Nat) (c : Nat -> Int) (h : Nat -> List Int) (u v : Nat) (h' : List Int) : Prop where
 asc : h'.Pairwise (· < ·)
 mem : ∀ x, x ∈ h' ↔ ((x ∈ h v /\ Zay L c u v = c v) \/ (0 < L u v /\ Zay L c u v = c u + L u v /\ Zdu src h u v x))

theorem Inv.step {L : Nat -> Nat -> Int} {K : Int} {src : Nat} {F : Nat -> Bool} {c : Nat -> Int} {h : Nat -> List Int} (I : Inv L src F c h) (hL : Links L K)
  {u : Nat} (hu : F u = false) (hcu : 0 <= c u) (hmin : ∀ v, F v = false -> 0 <= c v -> c u <= c v) {h' : Nat -> List Int} (hh : ∀ v, RelaxH L src c h u v (h' v)) :
  Inv L src (fun v => F v || v == u) (fun v => Zay L c u v) h' := by
 have hup : ∀ v, F v = true -> c v <= c u := fun v hv => I.mono v u hv hu hcu
 have keep : ∀ v, F v = true -> Zay L c u v = c v := fun v hv => Zds (I.fnode v hv).2 (hup v hv)
 have keepu : Zay L c u u = c u := Zds hcu (Int.le_refl _)
 have hsrc : Zay L c u src = 0 := by
  have := I.start
  unfold Zay; split <;> omega
 have hFn : ∀ v, F v = true -> v ≠ u := fun v hv e => by rw [e, hu] at hv; cases hv
 -- hops of done nodes and of u stay
 have hsame : ∀ v, 0 <= c v -> c v <= c u -> ∀ x, x ∈ h' v ↔ x ∈ h v := by
  intro v h0 hv x
  rw [(hh v).mem x]
  have e := Zds (L := L) h0 hv
  constructor
  ·rintro (⟨h1, _⟩ | ⟨h1, h2, _⟩)
   ·exact h1
   ·omega
  ·intro h1; exact .inl ⟨h1, e⟩
 have hover : ∀ w, (F w = true \/ w = u) -> ∀ v x, Zdu src h' w v x ↔ Zdu src h w v x := by
  intro w hw v x
  have : ∀ x, x ∈ h' w ↔ x ∈ h w := by
   rcases hw with hw | rfl
   ·exact hsame w (I.fnode w hw).2 (hup w hw)
   ·exact hsame _ hcu (Int.le_refl _)
  unfold Zdu; rw [this x]
 have hFu : ∀ v, (F v || v == u) = true ↔ (F v = true \/ v = u) := by
  intro v; simp
 refine ⟨?_, ?_, hsrc, ?_, ?_, ?_, ?_, ?_, fun v => (hh v).asc, ?_⟩
 ·intro v hv
  rcases (hFu v).1 hv with h1 | rfl
  ·refine ⟨(I.fnode v h1).1, ?_⟩
   show 0 <= Zay L c u v
   rw [keep v h1]; exact (I.fnode v h1).2
  ·refine ⟨I.cnode _ hcu, ?_⟩
   show 0 <= Zay L c _ _
   rw [keepu]; exact hcu
 ·intro v hv
  have hv' : 0 <= Zay L c u v := hv
  unfold Zay at hv'
  split at hv'
  ·rename_i h1; exact (hL.node u v h1.1).2
  ·exact I.cnode v hv'
 ·have : ∀ x, x ∉ h' src := by
   intro x hx
   rw [(hh src).mem x, I.start0] at hx
   rcases hx with ⟨h1, _⟩ | ⟨h1, h2, _⟩
   ·cases h1
   ·rw [hsrc] at h2; omega
  exact List.eq_nil_iff_forall_not_mem.2 this
 ·intro w v hw hl
  show 0 <= Zay L c u v /\ Zay L c u v <= Zay L c u w + L w v
  rcases (hFu w).1 hw with h1 | rfl
  ·rw [keep w h1]
   have := I.closed w v h1 hl
   have h2 := ZiP (L := L) (u := u) this.1
   have h3 := ZlK (L := L) hcu this.1
   omega
  ·rw [keepu]
   unfold Zay
   split <;> omega
 ·intro v hv h0
  have h0' : 0 <= Zay L c u v := h0
  show ∃ w, (F w || w == u) = true /\ 0 < L w v /\ Zay L c u v = Zay L c u w + L w v
  by_cases h1 : 0 < L u v /\ (c v < 0 \/ c u + L u v < c v)
  ·refine ⟨u, by simp, h1.1, ?_⟩
   rw [keepu]; unfold Zay; rw [if_pos h1]
  ·have e : Zay L c u v = c v := by unfold Zay; rw [if_neg h1]
   rw [e] at h0' |-
   obtain ⟨w, hw, hl, hc⟩ := I.pred v hv h0'
   exact ⟨w, by simp [hw], hl, by rw [keep w hw]; exact hc⟩
 ·intro w v hw hv h0
  have h0' : 0 <= Zay L c u v := h0
  have hv1 : F v = false := by cases hfv : F v <;> simp [hfv] at hv |-
  show Zay L c u w <= Zay L c u v
  have hwc : Zay L c u w <= c u := by
   rcases (hFu w).1 hw with h1 | rfl
   ·rw [keep w h1]; exact hup w h1
   ·rw [keepu]; omega
  have huv : c u <= Zay L c u v := by
   by_cases h1 : 0 < L u v /\ (c v < 0 \/ c u + L u v < c v)
   ·unfold Zay; rw [if_pos h1]; omega
   ·have e : Zay L c u v = c v := by unfold Zay; rw [if_neg h1]
    rw [e] at h0' |-
    exact hmin v hv1 h0'
  omega
 ·intro v hv x
  show x ∈ h' v ↔ 0 <= Zay L c u v /\ ∃ w, (F w || w == u) = true /\ 0 < L w v /\ Zay L c u v = Zay L c u w + L w v /\ Zdu src h' w v x
  rw [(hh v).mem x]
  constructor
  ·rintro (⟨h1, h2⟩ | ⟨h1, h2, h3⟩)
   ·obtain ⟨h0, w, hw, hl, hc, ho⟩ := (I.hop v hv x).1 h1
    rw [h2]
    exact ⟨h0, w, by simp [hw], hl, by rw [keep w hw]; exact hc, (hover w (.inl hw) v x).2 ho⟩
   ·refine ⟨by omega, u, by simp, h1, by rw [keepu]; exact h2, (hover u (.inr rfl) v x).2 h3⟩
  ·rintro ⟨h0, w, hw, hl, hc, ho⟩
   rcases (hFu w).1 hw with h1 | rfl
   ·rw [keep w h1] at hc
    have hcl := I.closed w v h1 hl
    have h3 := ZiP (L := L) (u := u) hcl.1
    have e : Zay L c u v = c v := by omega
    refine .inl ⟨(I.hop v hv x).2 ⟨hcl.1, w, h1, hl, by omega, (hover w (.inl h1) v x).1 ho⟩, e⟩
   ·rw [keepu] at hc
    exact .inr ⟨hl, hc, (hover _ (.inr rfl) v x).1 ho⟩
 ·intro v x hx
  rw [(hh v).mem x] at hx
  rcases hx with ⟨h1, _⟩ | ⟨h1, _, h3⟩
  ·exact I.rng v x h1
  ·rcases h3 with ⟨_, rfl⟩ | ⟨_, h4⟩
   ·have := (hL.node u v h1).2; unfold ZcN at this; omega
   ·exact I.rng u x h4

theorem Zh1 : ∀ {a b : List Int}, a.Pairwise (· < ·) -> b.Pairwise (· < ·) -> (∀ x, x ∈ a ↔ x ∈ b) -> a = b
 | [], [], _, _, _ => rfl
 | [], y :: ys, _, _, h => by have := (h y).2 (by simp); cases this
 | x :: xs, [], _, _, h => by have := (h x).1 (by simp); cases this
 | x :: xs, y :: ys, ha, hb, h => by
  have ha' := List.pairwise_cons.1 ha
  have hb' := List.pairwise_cons.1 hb
  have hxy : x = y := by
   have h1 := (h x).1 (by simp)
   have h2 := (h y).2 (by simp)
   rcases List.mem_cons.1 h1 with e | e
   ·exact e
   ·rcases List.mem_cons.1 h2 with e2 | e2
    ·exact e2.symm
    ·have := ha'.1 y e2; have := hb'.1 x e; omega
  subst hxy
  have : xs = ys := by
   refine Zh1 ha'.2 hb'.2 (fun z => ?_)
   have hz := h z
   constructor
   ·intro hm
    have h1 := hz.1 (List.mem_cons_of_mem _ hm)
    rcases List.mem_cons.1 h1 with e | e
    ·have := ha'.1 z hm; omega
    ·exact e
   ·intro hm
    have h1 := hz.2 (List.mem_cons_of_mem _ hm)
    rcases List.mem_cons.1 h1 with e | e
    ·have := hb'.1 z hm; omega
    ·exact e
  rw [this]

def Fix (L : Nat -> Nat -> Int) (src : Nat) (c : Nat -> Int) (h : Nat -> List Int) : Prop := ∃ F, Inv L src F c h /\ ∀ v, 0 <= c v -> F v = true

theorem Fix.cost_le {L : Nat -> Nat -> Int} {src : Nat} {c d : Nat -> Int} {h g : Nat -> List Int} (A : Fix L src c h) (B : Fix L src d g) :
  ∀ (n : Nat) (v : Nat), 0 <= c v -> (c v).toNat <= n -> 0 <= d v /\ d v <= c v := by
 obtain ⟨F, I, hF⟩ := A
 obtain ⟨G, J, hG⟩ := B
 intro n
 induction n with
 | zero =>
  intro v h0 hn
  by_cases hv : v = src
  ·subst hv; rw [J.start]; omega
  ·obtain ⟨u, hu, hl, hc⟩ := I.pred v hv h0
   have := (I.fnode u hu).2
   omega
 | succ n ih =>
  intro v h0 hn
  by_cases hv : v = src
  ·subst hv; rw [J.start, I.start]; omega
  ·obtain ⟨u, hu, hl, hc⟩ := I.pred v hv h0
   have h1 := (I.fnode u hu).2
   have h2 := ih u h1 (by omega)
   have h3 := J.closed u v (hG u h2.1) hl
   omega

theorem Fix.cost {L : Nat -> Nat -> Int} {src : Nat} {c d : Nat -> Int} {h g : Nat -> List Int} (A : Fix L src c h) (B : Fix L src d g) (v : Nat) (h0 : 0 <= c v) : d v = c v := by
 have h1 := A.cost_le B _ v h0 (Nat.le_refl _)
 have h2 := B.cost_le A _ v h1.1 (Nat.le_refl _)
 omega

theorem Fix.hops_sub {L : Nat -> Nat -> Int} {src : Nat} {c d : Nat -> Int} {h g : Nat -> List Int} (A : Fix L src c h) (B : Fix L src d g) :
  ∀ (n : Nat) (v : Nat), 0 <= c v -> (c v).toNat <= n -> ∀ x, x ∈ h v -> x ∈ g v := by
 have hcost := A.cost B
 obtain ⟨F, I, hF⟩ := A
 obtain ⟨G, J, hG⟩ := B
 intro n
 induction n with
 | zero =>
  intro v h0 hn x hx
  by_cases hv : v = src
  ·subst hv; rw [I.start0] at hx; cases hx
  ·obtain ⟨u, hu, hl, hc⟩ := I.pred v hv h0
   have := (I.fnode u hu).2
   omega
 | succ n ih =>
  intro v h0 hn x hx
  by_cases hv : v = src
  ·subst hv; rw [I.start0] at hx; cases hx
  ·obtain ⟨_, u, hu, hl, hc, ho⟩ := (I.hop v hv x).1 hx
   have h1 := (I.fnode u hu).2
   have eu := hcost u h1
   have ev := hcost v h0
   refine (J.hop v hv x).2 ⟨by omega, u, hG u (by omega), hl, by omega, ?_⟩
   rcases ho with h3 | ⟨h3, h4⟩
   ·exact .inl h3
   ·exact .inr ⟨h3, ih u h1 (by omega) x h4⟩

theorem Fix.hops {L : Nat -> Nat -> Int} {src : Nat} {c d : Nat -> Int} {h g : Nat -> List Int} (A : Fix L src c h) (B : Fix L src d g) (v : Nat) (h0 : 0 <= c v) : g v = h v := by
 have e := A.cost B v h0
 have sub1 := A.hops_sub B _ v h0 (Nat.le_refl _)
 have sub2 := B.hops_sub A _ v (by omega : 0 <= d v) (Nat.le_refl _)
 obtain ⟨F, I, _⟩ := A
 obtain ⟨G, J, _⟩ := B
 exact Zh1 (J.asc v) (I.asc v) (fun x => ⟨sub2 x, sub1 x⟩)

theorem Inv.init {L : Nat -> Nat -> Int} {src : Nat} (hs : ZcN src) : Inv L src (fun _ => false) (fun v => if v = src then 0 else -1) (fun _ => []) := by
 refine ⟨by simp, ?_, by simp, rfl, by simp, ?_, by simp, ?_, by simp, by simp⟩
 ·intro v hv
  have hv' : (0 : Int) <= if v = src then 0 else -1 := hv
  split at hv'
  ·rename_i e; rw [e]; exact hs
  ·omega
 ·intro v hv h0
  have h0' : (0 : Int) <= if v = src then 0 else -1 := h0
  rw [if_neg hv] at h0'; omega
 ·intro v hv x
  simp [hv]
end Go.Proofs.YtakiifededfjlaaGreat
namespace Go.Proofs.YtakiifededfjlaaGreat
open Go.RowKit
set_option linter.unusedSimpArgs false
set_option linter.unusedVariables false
set_option maxRecDepth 100000
set_option maxHeartbeats 8000000
theorem Zcq {P : Program} {fn : Func} {p u : Tmp} {ty : TypeId} (h : fn.results = #[.cell p ty, .tmp u]) (tmps : Array Value) (w : World) (g : Nat) (t : TypeId) (cs : Array Value) (fr : Nat × Nat) (d : TypeDesc)
  (hp : tmps.getD p undef = .pointer (some ⟨g, 0, none⟩)) (hg : w.heap[g]? = some (.cells cs t fr))
  (hu : P.underlying ty = some d) (hd : (match d with | .struct _ | .array _ _ => true | _ => false) = true) (hi : (P.info? ty).map (·.size) = some cs.size) :
  (results fn tmps).run P w = .ok (.tuple #[.agg cs, tmps.getD u undef]) w := by
 have hp' : tmps[p]?.getD undef = .pointer (some ⟨g, 0, none⟩) := by simpa using hp
 rw [results_cell_tmp h]
 simp [hp', asAddr, run_loadVar_row w g t ty cs fr d hg hu hd hi]
def Zil (xs : List RecD) (r : RecD) : RecD := if atZ xs r < 0 then ZbN else xs.getD (atZ xs r).toNat ZbN
def Zi3 (xs : List RecD) (r : RecD) : Bool := !decide (atZ xs r < 0)
theorem Zim {xs : List RecD} {r : RecD} (h : atZ xs r = -1) : Zil xs r = ZbN /\ Zi3 xs r = false := by unfold Zil Zi3; rw [h]; exact ⟨rfl, rfl⟩
theorem Zmm {xs : List RecD} {r y : RecD} {k : Nat} (h : atZ xs r = (k : Int)) (hy : xs[k]? = some y) : Zil xs r = y /\ Zi3 xs r = true := by
 unfold Zil Zi3
 rw [h, if_neg (by omega)]
 exact ⟨by simp [hy], by simp⟩
theorem ZgX {ps : List RP} {k : Nat} {y : RecD} (h : (fsts ps)[k]? = some y) : ∃ p, ps[k]? = some p /\ p.1 = y := by
 simp [fsts] at h
 obtain ⟨v, hv⟩ := h
 exact ⟨(y, v), hv, rfl⟩
end Go.Proofs.YtakiifededfjlaaGreat
