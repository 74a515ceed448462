/-
  laws.newest, laws.sameStore: their contracts.
  spec.Find, impl.Find: their contracts.
-/
import Derived.Test.YtdaigojpeofmpaaPk9
import Derived.Test.YtdaigojpeofmpaaPk17
import Derived.Test.YtdaigojpeofmpaaPk2
namespace Go.Proofs.Ytdaigojpeofmpaa
open Go.RowKit

set_option linter.unusedSimpArgs false

def newStep (r : RecD) (m : Int) (x : RecD) : Int := if sameKeyB x r && decide (m < x.seq) then x.seq else m

/-- the greatest Seq of a key, 0 without one -/
def newestD (xs : List RecD) (r : RecD) : Int := xs.foldl (newStep r) 0

theorem newStep_no {r x : RecD} {m : Int} (h : sameKeyB x r = false) : newStep r m x = m := by unfold newStep; rw [h]; rfl

theorem newStep_old {r x : RecD} {m : Int} (h : ¬ m < x.seq) : newStep r m x = m := by unfold newStep; rw [decide_eq_false h]; simp

theorem newStep_new {r x : RecD} {m : Int} (h : sameKeyB x r = true) (h2 : m < x.seq) : newStep r m x = x.seq := by unfold newStep; rw [h, decide_eq_true h2]; rfl

theorem newest_take {ps : List RP} {k : Nat} {p : RP} (r : RecD) (h : ps[k]? = some p) : newestD (fsts (ps.take (k + 1))) r = newStep r (newestD (fsts (ps.take k)) r) p.1 := by
  rw [show fsts (ps.take (k + 1)) = fsts (ps.take k) ++ [p.1] from map_take h]
  unfold newestD
  rw [List.foldl_append]
  rfl

set_option maxRecDepth 100000 in
set_option maxHeartbeats 8000000 in
theorem newest_any (v : Value) (ps : List RP) (hi : Nat) (r : RP) (w : World) (hv : RecsIn w hi v ps) (hhi : hi ≤ w.heap.size) (hn : ps.length ≤ 1048576) :
    Calls Try.prog 22 #[v, .agg (recC r.1 r.2)] w fun e w' => e = .returned (.int .i64 (newestD (fsts ps) r.1)) ∧ Below w.heap.size w w' := by
  obtain ⟨NN, hNN⟩ : ∃ N, N = newestD (fsts ps) r.1 := ⟨_, rfl⟩
  rw [← hNN]
  have HNN := hide hNN
  clear hNN
  obtain ⟨a1, c1, rfl⟩ := owns_lenS hv.row
  have HV := hide hv
  clear hv
  have BX := (Below.refl w.heap.size w).alloc (Nat.le_refl _) (.cells (recC r.1 r.2) 56)
  have hx := heap_alloc_new w (.cells (recC r.1 r.2) 56)
  obtain ⟨wx, hwx⟩ : ∃ wx, wx = w.alloc (.cells (recC r.1 r.2) 56) := ⟨_, rfl⟩
  rw [← hwx] at BX hx
  unfold recC at *
  go_enter Try.func22, Try.ntmps22
  go_wp2
  rw [← hwx]
  have HX := hide hx
  clear hwx hx
  go_loopw [6, 5] (fun i o wr => ∃ (k : Nat) (m : Int), k ≤ ps.length ∧ i = .int .i64 k ∧ o = .int .i64 m ∧ Hid (m = newestD (fsts (ps.take k)) r.1) ∧ Below wx.heap.size wx wr) (fun i _ _ => ps.length - (intOf i).toNat)
  case atStart => exact ⟨0, 0, by omega, rfl, rfl, rfl, Below.refl _ _⟩
  case round =>
    obtain ⟨k, m, hk, rfl, rfl, HM, hnx⟩ := hrel
    have hsz := hnx.size
    have hsx := lt_of_heap HX.out
    have BWR : Below w.heap.size w wr := BX.trans (hnx.mono (by omega))
    by_cases hlt : k < ps.length
    · obtain ⟨p, hp⟩ : ∃ p, ps[k]? = some p := ⟨ps[k], List.getElem?_eq_getElem hlt⟩
      have hat := HV.out.at
      obtain ⟨b, off, cap', hve, hbb, c0, c1, c2, c3, c4, c5, c6, c7, _⟩ := hat.cells k p hp
      cases hve
      rw [← BWR.cell (p := ⟨b, off + k * 8, none⟩) (Nat.lt_of_lt_of_le hbb hhi)] at c0
      rw [← BWR.cell (p := ⟨b, off + k * 8 + 1, none⟩) (Nat.lt_of_lt_of_le hbb hhi)] at c1
      rw [← BWR.cell (p := ⟨b, off + k * 8 + 2, none⟩) (Nat.lt_of_lt_of_le hbb hhi)] at c2
      rw [← BWR.cell (p := ⟨b, off + k * 8 + 3, none⟩) (Nat.lt_of_lt_of_le hbb hhi)] at c3
      rw [← BWR.cell (p := ⟨b, off + k * 8 + 4, none⟩) (Nat.lt_of_lt_of_le hbb hhi)] at c4
      rw [← BWR.cell (p := ⟨b, off + k * 8 + 5, none⟩) (Nat.lt_of_lt_of_le hbb hhi)] at c5
      rw [← BWR.cell (p := ⟨b, off + k * 8 + 6, none⟩) (Nat.lt_of_lt_of_le hbb hhi)] at c6
      rw [← BWR.cell (p := ⟨b, off + k * 8 + 7, none⟩) (Nat.lt_of_lt_of_le hbb hhi)] at c7
      have hxx := (hnx.block _ hsx).trans HX.out
      have d0 := cells_at hxx 0
      have d1 := cells_at hxx 1
      have d2 := cells_at hxx 2
      have d3 := cells_at hxx 3
      have d4 := cells_at hxx 4
      have d5 := cells_at hxx 5
      have d6 := cells_at hxx 6
      have d7 := cells_at hxx 7
      simp at d0 d1 d2 d3 d4 d5 d6 d7
      have hb1 : b < wr.heap.size := by omega
      have hb2 : w.heap.size < wr.heap.size := by omega
      have hki : (0 : Int) ≤ (k : Int) := by omega
      have hkj : (k : Int) < (ps.length : Int) := by omega
      have hq := fun W => ssameKey_any p.2 r.2 p.1 r.1 W
      unfold recC at hq
      obtain ⟨q, hqq⟩ : ∃ q, q = sameKeyB p.1 r.1 := ⟨_, rfl⟩
      rw [← hqq] at hq
      have HK := hide hq
      have HQQ := hide hqq
      have HPP := hide (newest_take r.1 hp)
      clear hq hqq hp hat hxx
      cases q
      · have HN := hide (show m = newestD (fsts (ps.take (k + 1))) r.1 by rw [HPP.out, newStep_no HQQ.out.symm]; exact HM.out)
        go_wp2
        refine wp_region_start (S := (fun W => W.cell? ⟨b, off + k * 8, none⟩ = some (.int .i64 p.1.area) ∧ W.cell? ⟨b, off + k * 8 + 1, none⟩ = some (.int .i64 p.1.kind) ∧ W.cell? ⟨b, off + k * 8 + 2, none⟩ = some (.int .i64 p.1.owner) ∧ W.cell? ⟨b, off + k * 8 + 3, none⟩ = some (.int .i64 p.1.key) ∧ W.cell? ⟨b, off + k * 8 + 4, none⟩ = some (.int .i64 p.1.seq) ∧ W.cell? ⟨b, off + k * 8 + 5, none⟩ = some (p.2) ∧ W.cell? ⟨b, off + k * 8 + 6, none⟩ = some (.int .i64 p.1.cost) ∧ W.cell? ⟨b, off + k * 8 + 7, none⟩ = some (.bool p.1.far) ∧ W.cell? ⟨w.heap.size, 0, none⟩ = some (.int .i64 r.1.area) ∧ W.cell? ⟨w.heap.size, 1, none⟩ = some (.int .i64 r.1.kind) ∧ W.cell? ⟨w.heap.size, 2, none⟩ = some (.int .i64 r.1.owner) ∧ W.cell? ⟨w.heap.size, 3, none⟩ = some (.int .i64 r.1.key) ∧ W.cell? ⟨w.heap.size, 4, none⟩ = some (.int .i64 r.1.seq) ∧ W.cell? ⟨w.heap.size, 5, none⟩ = some (r.2) ∧ W.cell? ⟨w.heap.size, 6, none⟩ = some (.int .i64 r.1.cost) ∧ W.cell? ⟨w.heap.size, 7, none⟩ = some (.bool r.1.far))) (by kernel_rfl) 15 rfl ⟨c0, c1, c2, c3, c4, c5, c6, c7, d0, d1, d2, d3, d4, d5, d6, d7⟩ (fun ops hops hHeld => ?_)
        refine take_do 0 (oi := ?_) (v := ?_) ?_ (by rw [hops.out]; kernel_rfl) ?_ ?_ ?_ (by assumption) ?_
        rotate_left 2
        · rw [hops.out]; simp only [List.getElem?_toArray, List.getElem?_cons_succ, List.getElem?_cons_zero]; rfl
        · rw [hops.out]; kernel_rfl
        · intro W hW; (try dsimp only at hW); go_simp <;> with_reducible rfl
        · exact fun _ _ _ h => h
        try simp only [Act.put, List.setIfInBounds_toArray, List.set_cons_zero, List.set_cons_succ]
        refine take_do 1 (oi := ?_) (v := ?_) ?_ (by rw [hops.out]; kernel_rfl) ?_ ?_ ?_ (by assumption) ?_
        rotate_left 2
        · rw [hops.out]; simp only [List.getElem?_toArray, List.getElem?_cons_succ, List.getElem?_cons_zero]; rfl
        · rw [hops.out]; kernel_rfl
        · intro W hW; (try dsimp only at hW); go_simp <;> with_reducible rfl
        · exact fun _ _ _ h => h
        try simp only [Act.put, List.setIfInBounds_toArray, List.set_cons_zero, List.set_cons_succ]
        refine take_do 2 (oi := ?_) (v := ?_) ?_ (by rw [hops.out]; kernel_rfl) ?_ ?_ ?_ (by assumption) ?_
        rotate_left 2
        · rw [hops.out]; simp only [List.getElem?_toArray, List.getElem?_cons_succ, List.getElem?_cons_zero]; rfl
        · rw [hops.out]; kernel_rfl
        · intro W hW; (try dsimp only at hW); go_simp <;> with_reducible rfl
        · exact fun _ _ _ h => h
        try simp only [Act.put, List.setIfInBounds_toArray, List.set_cons_zero, List.set_cons_succ]
        refine take_do 3 (oi := ?_) (v := ?_) ?_ (by rw [hops.out]; kernel_rfl) ?_ ?_ ?_ (by assumption) ?_
        rotate_left 2
        · rw [hops.out]; simp only [List.getElem?_toArray, List.getElem?_cons_succ, List.getElem?_cons_zero]; rfl
        · rw [hops.out]; kernel_rfl
        · intro W hW; (try dsimp only at hW); go_simp <;> with_reducible rfl
        · exact fun _ _ _ h => h
        try simp only [Act.put, List.setIfInBounds_toArray, List.set_cons_zero, List.set_cons_succ]
        refine take_do 4 (oi := ?_) (v := ?_) ?_ (by rw [hops.out]; kernel_rfl) ?_ ?_ ?_ (by assumption) ?_
        rotate_left 2
        · rw [hops.out]; simp only [List.getElem?_toArray, List.getElem?_cons_succ, List.getElem?_cons_zero]; rfl
        · rw [hops.out]; kernel_rfl
        · intro W hW; (try dsimp only at hW); go_simp <;> with_reducible rfl
        · exact fun _ _ _ h => h
        try simp only [Act.put, List.setIfInBounds_toArray, List.set_cons_zero, List.set_cons_succ]
        refine take_call 5 (oi := ?_) ?_ (by rw [hops.out]; kernel_rfl) ?_ ?_
        rotate_left 1
        · rw [hops.out]; simp only [List.getElem?_toArray, List.getElem?_cons_succ, List.getElem?_cons_zero]; rfl
        · rw [hops.out]; kernel_rfl
        intro K hK
        go_simp
        refine (HK.out _).mono ?_
        rintro e w1 ⟨rfl, b1⟩
        have hSn : _ ∧ _ := (show ((fun W => W.cell? ⟨b, off + k * 8, none⟩ = some (.int .i64 p.1.area) ∧ W.cell? ⟨b, off + k * 8 + 1, none⟩ = some (.int .i64 p.1.kind) ∧ W.cell? ⟨b, off + k * 8 + 2, none⟩ = some (.int .i64 p.1.owner) ∧ W.cell? ⟨b, off + k * 8 + 3, none⟩ = some (.int .i64 p.1.key) ∧ W.cell? ⟨b, off + k * 8 + 4, none⟩ = some (.int .i64 p.1.seq) ∧ W.cell? ⟨b, off + k * 8 + 5, none⟩ = some (p.2) ∧ W.cell? ⟨b, off + k * 8 + 6, none⟩ = some (.int .i64 p.1.cost) ∧ W.cell? ⟨b, off + k * 8 + 7, none⟩ = some (.bool p.1.far) ∧ W.cell? ⟨w.heap.size, 0, none⟩ = some (.int .i64 r.1.area) ∧ W.cell? ⟨w.heap.size, 1, none⟩ = some (.int .i64 r.1.kind) ∧ W.cell? ⟨w.heap.size, 2, none⟩ = some (.int .i64 r.1.owner) ∧ W.cell? ⟨w.heap.size, 3, none⟩ = some (.int .i64 r.1.key) ∧ W.cell? ⟨w.heap.size, 4, none⟩ = some (.int .i64 r.1.seq) ∧ W.cell? ⟨w.heap.size, 5, none⟩ = some (r.2) ∧ W.cell? ⟨w.heap.size, 6, none⟩ = some (.int .i64 r.1.cost) ∧ W.cell? ⟨w.heap.size, 7, none⟩ = some (.bool r.1.far))) w1 from by
          obtain ⟨m0, m1, m2, m3, m4, m5, m6, m7, n0, n1, n2, n3, n4, n5, n6, n7⟩ := hHeld
          refine ⟨?_, ?_, ?_, ?_, ?_, ?_, ?_, ?_, ?_, ?_, ?_, ?_, ?_, ?_, ?_, ?_⟩ <;> (refine (b1.cell ?_).trans ?_ <;> assumption))
        refine hK.out _ _ hSn (fun hHeld => ?_)
        clear hK K hSn
        try simp only [Act.put, List.setIfInBounds_toArray, List.set_cons_zero, List.set_cons_succ]
        refine take_do 6 (oi := ?_) (v := ?_) ?_ (by rw [hops.out]; kernel_rfl) ?_ ?_ ?_ (by assumption) ?_
        rotate_left 2
        · rw [hops.out]; simp only [List.getElem?_toArray, List.getElem?_cons_succ, List.getElem?_cons_zero]; rfl
        · rw [hops.out]; kernel_rfl
        · intro W hW; (try dsimp only at hW); go_simp <;> with_reducible rfl
        · exact fun _ _ _ h => h
        try simp only [Act.put, List.setIfInBounds_toArray, List.set_cons_zero, List.set_cons_succ]
        refine take_skip 7 20 (by rw [hops.out]; kernel_rfl) (by rw [hops.out]; kernel_rfl) (by rw [hops.out]; kernel_rfl) (fun _ _ _ h => h) (by assumption) ?_
        try simp only [Act.put, List.setIfInBounds_toArray, List.set_cons_zero, List.set_cons_succ]
        refine take_skip 8 21 (by rw [hops.out]; kernel_rfl) (by rw [hops.out]; kernel_rfl) (by rw [hops.out]; kernel_rfl) (fun _ _ _ h => h) (by assumption) ?_
        try simp only [Act.put, List.setIfInBounds_toArray, List.set_cons_zero, List.set_cons_succ]
        refine take_skip 9 22 (by rw [hops.out]; kernel_rfl) (by rw [hops.out]; kernel_rfl) (by rw [hops.out]; kernel_rfl) (fun _ _ _ h => h) (by assumption) ?_
        try simp only [Act.put, List.setIfInBounds_toArray, List.set_cons_zero, List.set_cons_succ]
        refine take_skip 10 23 (by rw [hops.out]; kernel_rfl) (by rw [hops.out]; kernel_rfl) (by rw [hops.out]; kernel_rfl) (fun _ _ _ h => h) (by assumption) ?_
        try simp only [Act.put, List.setIfInBounds_toArray, List.set_cons_zero, List.set_cons_succ]
        refine take_skip 11 24 (by rw [hops.out]; kernel_rfl) (by rw [hops.out]; kernel_rfl) (by rw [hops.out]; kernel_rfl) (fun _ _ _ h => h) (by assumption) ?_
        try simp only [Act.put, List.setIfInBounds_toArray, List.set_cons_zero, List.set_cons_succ]
        refine take_skip 12 25 (by rw [hops.out]; kernel_rfl) (by rw [hops.out]; kernel_rfl) (by rw [hops.out]; kernel_rfl) (fun _ _ _ h => h) (by assumption) ?_
        try simp only [Act.put, List.setIfInBounds_toArray, List.set_cons_zero, List.set_cons_succ]
        refine take_skip 13 26 (by rw [hops.out]; kernel_rfl) (by rw [hops.out]; kernel_rfl) (by rw [hops.out]; kernel_rfl) (fun _ _ _ h => h) (by assumption) ?_
        try simp only [Act.put, List.setIfInBounds_toArray, List.set_cons_zero, List.set_cons_succ]
        refine take_do 14 (oi := ?_) (v := ?_) ?_ (by rw [hops.out]; kernel_rfl) ?_ ?_ ?_ (by assumption) ?_
        rotate_left 2
        · rw [hops.out]; simp only [List.getElem?_toArray, List.getElem?_cons_succ, List.getElem?_cons_zero]; rfl
        · rw [hops.out]; kernel_rfl
        · intro W hW; (try dsimp only at hW); go_simp <;> with_reducible rfl
        · exact fun _ _ _ h => h
        try simp only [Act.put, List.setIfInBounds_toArray, List.set_cons_zero, List.set_cons_succ]
        refine wpAnyH_done (by rw [hops.out]; kernel_rfl) ?_ _
        clear hops ops
        go_wp2
        go_roundw
        case rel => exact ⟨k + 1, m, by omega, by go_num, rfl, HN, hnx.drew.trans (b1.mono hsz)⟩
        case measure => simp [intOf]; omega
      · by_cases hms : m < p.1.seq
        · have HN := hide (show p.1.seq = newestD (fsts (ps.take (k + 1))) r.1 by rw [HPP.out, newStep_new HQQ.out.symm (by rw [← HM.out]; exact hms)])
          go_wp2
          refine wp_region_start (S := (fun W => W.cell? ⟨b, off + k * 8, none⟩ = some (.int .i64 p.1.area) ∧ W.cell? ⟨b, off + k * 8 + 1, none⟩ = some (.int .i64 p.1.kind) ∧ W.cell? ⟨b, off + k * 8 + 2, none⟩ = some (.int .i64 p.1.owner) ∧ W.cell? ⟨b, off + k * 8 + 3, none⟩ = some (.int .i64 p.1.key) ∧ W.cell? ⟨b, off + k * 8 + 4, none⟩ = some (.int .i64 p.1.seq) ∧ W.cell? ⟨b, off + k * 8 + 5, none⟩ = some (p.2) ∧ W.cell? ⟨b, off + k * 8 + 6, none⟩ = some (.int .i64 p.1.cost) ∧ W.cell? ⟨b, off + k * 8 + 7, none⟩ = some (.bool p.1.far) ∧ W.cell? ⟨w.heap.size, 0, none⟩ = some (.int .i64 r.1.area) ∧ W.cell? ⟨w.heap.size, 1, none⟩ = some (.int .i64 r.1.kind) ∧ W.cell? ⟨w.heap.size, 2, none⟩ = some (.int .i64 r.1.owner) ∧ W.cell? ⟨w.heap.size, 3, none⟩ = some (.int .i64 r.1.key) ∧ W.cell? ⟨w.heap.size, 4, none⟩ = some (.int .i64 r.1.seq) ∧ W.cell? ⟨w.heap.size, 5, none⟩ = some (r.2) ∧ W.cell? ⟨w.heap.size, 6, none⟩ = some (.int .i64 r.1.cost) ∧ W.cell? ⟨w.heap.size, 7, none⟩ = some (.bool r.1.far))) (by kernel_rfl) 15 rfl ⟨c0, c1, c2, c3, c4, c5, c6, c7, d0, d1, d2, d3, d4, d5, d6, d7⟩ (fun ops hops hHeld => ?_)
          refine take_do 0 (oi := ?_) (v := ?_) ?_ (by rw [hops.out]; kernel_rfl) ?_ ?_ ?_ (by assumption) ?_
          rotate_left 2
          · rw [hops.out]; simp only [List.getElem?_toArray, List.getElem?_cons_succ, List.getElem?_cons_zero]; rfl
          · rw [hops.out]; kernel_rfl
          · intro W hW; (try dsimp only at hW); go_simp <;> with_reducible rfl
          · exact fun _ _ _ h => h
          try simp only [Act.put, List.setIfInBounds_toArray, List.set_cons_zero, List.set_cons_succ]
          refine take_do 1 (oi := ?_) (v := ?_) ?_ (by rw [hops.out]; kernel_rfl) ?_ ?_ ?_ (by assumption) ?_
          rotate_left 2
          · rw [hops.out]; simp only [List.getElem?_toArray, List.getElem?_cons_succ, List.getElem?_cons_zero]; rfl
          · rw [hops.out]; kernel_rfl
          · intro W hW; (try dsimp only at hW); go_simp <;> with_reducible rfl
          · exact fun _ _ _ h => h
          try simp only [Act.put, List.setIfInBounds_toArray, List.set_cons_zero, List.set_cons_succ]
          refine take_do 2 (oi := ?_) (v := ?_) ?_ (by rw [hops.out]; kernel_rfl) ?_ ?_ ?_ (by assumption) ?_
          rotate_left 2
          · rw [hops.out]; simp only [List.getElem?_toArray, List.getElem?_cons_succ, List.getElem?_cons_zero]; rfl
          · rw [hops.out]; kernel_rfl
          · intro W hW; (try dsimp only at hW); go_simp <;> with_reducible rfl
          · exact fun _ _ _ h => h
          try simp only [Act.put, List.setIfInBounds_toArray, List.set_cons_zero, List.set_cons_succ]
          refine take_do 3 (oi := ?_) (v := ?_) ?_ (by rw [hops.out]; kernel_rfl) ?_ ?_ ?_ (by assumption) ?_
          rotate_left 2
          · rw [hops.out]; simp only [List.getElem?_toArray, List.getElem?_cons_succ, List.getElem?_cons_zero]; rfl
          · rw [hops.out]; kernel_rfl
          · intro W hW; (try dsimp only at hW); go_simp <;> with_reducible rfl
          · exact fun _ _ _ h => h
          try simp only [Act.put, List.setIfInBounds_toArray, List.set_cons_zero, List.set_cons_succ]
          refine take_do 4 (oi := ?_) (v := ?_) ?_ (by rw [hops.out]; kernel_rfl) ?_ ?_ ?_ (by assumption) ?_
          rotate_left 2
          · rw [hops.out]; simp only [List.getElem?_toArray, List.getElem?_cons_succ, List.getElem?_cons_zero]; rfl
          · rw [hops.out]; kernel_rfl
          · intro W hW; (try dsimp only at hW); go_simp <;> with_reducible rfl
          · exact fun _ _ _ h => h
          try simp only [Act.put, List.setIfInBounds_toArray, List.set_cons_zero, List.set_cons_succ]
          refine take_call 5 (oi := ?_) ?_ (by rw [hops.out]; kernel_rfl) ?_ ?_
          rotate_left 1
          · rw [hops.out]; simp only [List.getElem?_toArray, List.getElem?_cons_succ, List.getElem?_cons_zero]; rfl
          · rw [hops.out]; kernel_rfl
          intro K hK
          go_simp
          refine (HK.out _).mono ?_
          rintro e w1 ⟨rfl, b1⟩
          have hSn : _ ∧ _ := (show ((fun W => W.cell? ⟨b, off + k * 8, none⟩ = some (.int .i64 p.1.area) ∧ W.cell? ⟨b, off + k * 8 + 1, none⟩ = some (.int .i64 p.1.kind) ∧ W.cell? ⟨b, off + k * 8 + 2, none⟩ = some (.int .i64 p.1.owner) ∧ W.cell? ⟨b, off + k * 8 + 3, none⟩ = some (.int .i64 p.1.key) ∧ W.cell? ⟨b, off + k * 8 + 4, none⟩ = some (.int .i64 p.1.seq) ∧ W.cell? ⟨b, off + k * 8 + 5, none⟩ = some (p.2) ∧ W.cell? ⟨b, off + k * 8 + 6, none⟩ = some (.int .i64 p.1.cost) ∧ W.cell? ⟨b, off + k * 8 + 7, none⟩ = some (.bool p.1.far) ∧ W.cell? ⟨w.heap.size, 0, none⟩ = some (.int .i64 r.1.area) ∧ W.cell? ⟨w.heap.size, 1, none⟩ = some (.int .i64 r.1.kind) ∧ W.cell? ⟨w.heap.size, 2, none⟩ = some (.int .i64 r.1.owner) ∧ W.cell? ⟨w.heap.size, 3, none⟩ = some (.int .i64 r.1.key) ∧ W.cell? ⟨w.heap.size, 4, none⟩ = some (.int .i64 r.1.seq) ∧ W.cell? ⟨w.heap.size, 5, none⟩ = some (r.2) ∧ W.cell? ⟨w.heap.size, 6, none⟩ = some (.int .i64 r.1.cost) ∧ W.cell? ⟨w.heap.size, 7, none⟩ = some (.bool r.1.far))) w1 from by
            obtain ⟨m0, m1, m2, m3, m4, m5, m6, m7, n0, n1, n2, n3, n4, n5, n6, n7⟩ := hHeld
            refine ⟨?_, ?_, ?_, ?_, ?_, ?_, ?_, ?_, ?_, ?_, ?_, ?_, ?_, ?_, ?_, ?_⟩ <;> (refine (b1.cell ?_).trans ?_ <;> assumption))
          refine hK.out _ _ hSn (fun hHeld => ?_)
          clear hK K hSn
          try simp only [Act.put, List.setIfInBounds_toArray, List.set_cons_zero, List.set_cons_succ]
          refine take_do 6 (oi := ?_) (v := ?_) ?_ (by rw [hops.out]; kernel_rfl) ?_ ?_ ?_ (by assumption) ?_
          rotate_left 2
          · rw [hops.out]; simp only [List.getElem?_toArray, List.getElem?_cons_succ, List.getElem?_cons_zero]; rfl
          · rw [hops.out]; kernel_rfl
          · intro W hW; (try dsimp only at hW); go_simp <;> with_reducible rfl
          · exact fun _ _ _ h => h
          try simp only [Act.put, List.setIfInBounds_toArray, List.set_cons_zero, List.set_cons_succ]
          refine take_do 7 (oi := ?_) (v := ?_) ?_ (by rw [hops.out]; kernel_rfl) ?_ ?_ ?_ (by assumption) ?_
          rotate_left 2
          · rw [hops.out]; simp only [List.getElem?_toArray, List.getElem?_cons_succ, List.getElem?_cons_zero]; rfl
          · rw [hops.out]; kernel_rfl
          · intro W hW; (try dsimp only at hW); go_simp <;> with_reducible rfl
          · exact fun _ _ _ h => h
          try simp only [Act.put, List.setIfInBounds_toArray, List.set_cons_zero, List.set_cons_succ]
          refine take_do 8 (oi := ?_) (v := ?_) ?_ (by rw [hops.out]; kernel_rfl) ?_ ?_ ?_ (by assumption) ?_
          rotate_left 2
          · rw [hops.out]; simp only [List.getElem?_toArray, List.getElem?_cons_succ, List.getElem?_cons_zero]; rfl
          · rw [hops.out]; kernel_rfl
          · intro W hW; (try dsimp only at hW); go_simp <;> with_reducible rfl
          · exact fun _ _ _ h => h
          try simp only [Act.put, List.setIfInBounds_toArray, List.set_cons_zero, List.set_cons_succ]
          refine take_do 9 (oi := ?_) (v := ?_) ?_ (by rw [hops.out]; kernel_rfl) ?_ ?_ ?_ (by assumption) ?_
          rotate_left 2
          · rw [hops.out]; simp only [List.getElem?_toArray, List.getElem?_cons_succ, List.getElem?_cons_zero]; rfl
          · rw [hops.out]; kernel_rfl
          · intro W hW; (try dsimp only at hW); go_simp <;> with_reducible rfl
          · exact fun _ _ _ h => h
          try simp only [Act.put, List.setIfInBounds_toArray, List.set_cons_zero, List.set_cons_succ]
          refine take_do 10 (oi := ?_) (v := ?_) ?_ (by rw [hops.out]; kernel_rfl) ?_ ?_ ?_ (by assumption) ?_
          rotate_left 2
          · rw [hops.out]; simp only [List.getElem?_toArray, List.getElem?_cons_succ, List.getElem?_cons_zero]; rfl
          · rw [hops.out]; kernel_rfl
          · intro W hW; (try dsimp only at hW); go_simp <;> with_reducible rfl
          · exact fun _ _ _ h => h
          try simp only [Act.put, List.setIfInBounds_toArray, List.set_cons_zero, List.set_cons_succ]
          refine take_do 11 (oi := ?_) (v := ?_) ?_ (by rw [hops.out]; kernel_rfl) ?_ ?_ ?_ (by assumption) ?_
          rotate_left 2
          · rw [hops.out]; simp only [List.getElem?_toArray, List.getElem?_cons_succ, List.getElem?_cons_zero]; rfl
          · rw [hops.out]; kernel_rfl
          · intro W hW; (try dsimp only at hW); go_simp <;> with_reducible rfl
          · exact fun _ _ _ h => h
          try simp only [Act.put, List.setIfInBounds_toArray, List.set_cons_zero, List.set_cons_succ]
          refine take_do 12 (oi := ?_) (v := ?_) ?_ (by rw [hops.out]; kernel_rfl) ?_ ?_ ?_ (by assumption) ?_
          rotate_left 2
          · rw [hops.out]; simp only [List.getElem?_toArray, List.getElem?_cons_succ, List.getElem?_cons_zero]; rfl
          · rw [hops.out]; kernel_rfl
          · intro W hW; (try dsimp only at hW); go_simp <;> with_reducible rfl
          · exact fun _ _ _ h => h
          try simp only [Act.put, List.setIfInBounds_toArray, List.set_cons_zero, List.set_cons_succ]
          refine take_do 13 (oi := ?_) (v := .bool true) ?_ (by rw [hops.out]; kernel_rfl) ?_ ?_ ?_ (by assumption) ?_
          rotate_left 1
          · rw [hops.out]; simp only [List.getElem?_toArray, List.getElem?_cons_succ, List.getElem?_cons_zero]; rfl
          · rw [hops.out]; kernel_rfl
          · intro W hW; (try dsimp only at hW); go_simp <;> (first | with_reducible rfl | (simp; omega) | omega)
          · exact fun _ _ _ h => h
          try simp only [Act.put, List.setIfInBounds_toArray, List.set_cons_zero, List.set_cons_succ]
          refine take_do 14 (oi := ?_) (v := ?_) ?_ (by rw [hops.out]; kernel_rfl) ?_ ?_ ?_ (by assumption) ?_
          rotate_left 2
          · rw [hops.out]; simp only [List.getElem?_toArray, List.getElem?_cons_succ, List.getElem?_cons_zero]; rfl
          · rw [hops.out]; kernel_rfl
          · intro W hW; (try dsimp only at hW); go_simp <;> with_reducible rfl
          · exact fun _ _ _ h => h
          try simp only [Act.put, List.setIfInBounds_toArray, List.set_cons_zero, List.set_cons_succ]
          refine wpAnyH_done (by rw [hops.out]; kernel_rfl) ?_ _
          clear hops ops
          obtain ⟨m0, m1, m2, m3, m4, m5, m6, m7, n0, n1, n2, n3, n4, n5, n6, n7⟩ := hHeld
          clear c0 c1 c2 c3 c4 c5 c6 c7 d0 d1 d2 d3 d4 d5 d6 d7
          go_wp2
          go_roundw
          case rel => exact ⟨k + 1, p.1.seq, by omega, by go_num, rfl, HN, hnx.drew.trans (b1.mono hsz)⟩
          case measure => simp [intOf]; omega
        · have HN := hide (show m = newestD (fsts (ps.take (k + 1))) r.1 by rw [HPP.out, newStep_old (by rw [← HM.out]; exact hms)]; exact HM.out)
          go_wp2
          refine wp_region_start (S := (fun W => W.cell? ⟨b, off + k * 8, none⟩ = some (.int .i64 p.1.area) ∧ W.cell? ⟨b, off + k * 8 + 1, none⟩ = some (.int .i64 p.1.kind) ∧ W.cell? ⟨b, off + k * 8 + 2, none⟩ = some (.int .i64 p.1.owner) ∧ W.cell? ⟨b, off + k * 8 + 3, none⟩ = some (.int .i64 p.1.key) ∧ W.cell? ⟨b, off + k * 8 + 4, none⟩ = some (.int .i64 p.1.seq) ∧ W.cell? ⟨b, off + k * 8 + 5, none⟩ = some (p.2) ∧ W.cell? ⟨b, off + k * 8 + 6, none⟩ = some (.int .i64 p.1.cost) ∧ W.cell? ⟨b, off + k * 8 + 7, none⟩ = some (.bool p.1.far) ∧ W.cell? ⟨w.heap.size, 0, none⟩ = some (.int .i64 r.1.area) ∧ W.cell? ⟨w.heap.size, 1, none⟩ = some (.int .i64 r.1.kind) ∧ W.cell? ⟨w.heap.size, 2, none⟩ = some (.int .i64 r.1.owner) ∧ W.cell? ⟨w.heap.size, 3, none⟩ = some (.int .i64 r.1.key) ∧ W.cell? ⟨w.heap.size, 4, none⟩ = some (.int .i64 r.1.seq) ∧ W.cell? ⟨w.heap.size, 5, none⟩ = some (r.2) ∧ W.cell? ⟨w.heap.size, 6, none⟩ = some (.int .i64 r.1.cost) ∧ W.cell? ⟨w.heap.size, 7, none⟩ = some (.bool r.1.far))) (by kernel_rfl) 15 rfl ⟨c0, c1, c2, c3, c4, c5, c6, c7, d0, d1, d2, d3, d4, d5, d6, d7⟩ (fun ops hops hHeld => ?_)
          refine take_do 0 (oi := ?_) (v := ?_) ?_ (by rw [hops.out]; kernel_rfl) ?_ ?_ ?_ (by assumption) ?_
          rotate_left 2
          · rw [hops.out]; simp only [List.getElem?_toArray, List.getElem?_cons_succ, List.getElem?_cons_zero]; rfl
          · rw [hops.out]; kernel_rfl
          · intro W hW; (try dsimp only at hW); go_simp <;> with_reducible rfl
          · exact fun _ _ _ h => h
          try simp only [Act.put, List.setIfInBounds_toArray, List.set_cons_zero, List.set_cons_succ]
          refine take_do 1 (oi := ?_) (v := ?_) ?_ (by rw [hops.out]; kernel_rfl) ?_ ?_ ?_ (by assumption) ?_
          rotate_left 2
          · rw [hops.out]; simp only [List.getElem?_toArray, List.getElem?_cons_succ, List.getElem?_cons_zero]; rfl
          · rw [hops.out]; kernel_rfl
          · intro W hW; (try dsimp only at hW); go_simp <;> with_reducible rfl
          · exact fun _ _ _ h => h
          try simp only [Act.put, List.setIfInBounds_toArray, List.set_cons_zero, List.set_cons_succ]
          refine take_do 2 (oi := ?_) (v := ?_) ?_ (by rw [hops.out]; kernel_rfl) ?_ ?_ ?_ (by assumption) ?_
          rotate_left 2
          · rw [hops.out]; simp only [List.getElem?_toArray, List.getElem?_cons_succ, List.getElem?_cons_zero]; rfl
          · rw [hops.out]; kernel_rfl
          · intro W hW; (try dsimp only at hW); go_simp <;> with_reducible rfl
          · exact fun _ _ _ h => h
          try simp only [Act.put, List.setIfInBounds_toArray, List.set_cons_zero, List.set_cons_succ]
          refine take_do 3 (oi := ?_) (v := ?_) ?_ (by rw [hops.out]; kernel_rfl) ?_ ?_ ?_ (by assumption) ?_
          rotate_left 2
          · rw [hops.out]; simp only [List.getElem?_toArray, List.getElem?_cons_succ, List.getElem?_cons_zero]; rfl
          · rw [hops.out]; kernel_rfl
          · intro W hW; (try dsimp only at hW); go_simp <;> with_reducible rfl
          · exact fun _ _ _ h => h
          try simp only [Act.put, List.setIfInBounds_toArray, List.set_cons_zero, List.set_cons_succ]
          refine take_do 4 (oi := ?_) (v := ?_) ?_ (by rw [hops.out]; kernel_rfl) ?_ ?_ ?_ (by assumption) ?_
          rotate_left 2
          · rw [hops.out]; simp only [List.getElem?_toArray, List.getElem?_cons_succ, List.getElem?_cons_zero]; rfl
          · rw [hops.out]; kernel_rfl
          · intro W hW; (try dsimp only at hW); go_simp <;> with_reducible rfl
          · exact fun _ _ _ h => h
          try simp only [Act.put, List.setIfInBounds_toArray, List.set_cons_zero, List.set_cons_succ]
          refine take_call 5 (oi := ?_) ?_ (by rw [hops.out]; kernel_rfl) ?_ ?_
          rotate_left 1
          · rw [hops.out]; simp only [List.getElem?_toArray, List.getElem?_cons_succ, List.getElem?_cons_zero]; rfl
          · rw [hops.out]; kernel_rfl
          intro K hK
          go_simp
          refine (HK.out _).mono ?_
          rintro e w1 ⟨rfl, b1⟩
          have hSn : _ ∧ _ := (show ((fun W => W.cell? ⟨b, off + k * 8, none⟩ = some (.int .i64 p.1.area) ∧ W.cell? ⟨b, off + k * 8 + 1, none⟩ = some (.int .i64 p.1.kind) ∧ W.cell? ⟨b, off + k * 8 + 2, none⟩ = some (.int .i64 p.1.owner) ∧ W.cell? ⟨b, off + k * 8 + 3, none⟩ = some (.int .i64 p.1.key) ∧ W.cell? ⟨b, off + k * 8 + 4, none⟩ = some (.int .i64 p.1.seq) ∧ W.cell? ⟨b, off + k * 8 + 5, none⟩ = some (p.2) ∧ W.cell? ⟨b, off + k * 8 + 6, none⟩ = some (.int .i64 p.1.cost) ∧ W.cell? ⟨b, off + k * 8 + 7, none⟩ = some (.bool p.1.far) ∧ W.cell? ⟨w.heap.size, 0, none⟩ = some (.int .i64 r.1.area) ∧ W.cell? ⟨w.heap.size, 1, none⟩ = some (.int .i64 r.1.kind) ∧ W.cell? ⟨w.heap.size, 2, none⟩ = some (.int .i64 r.1.owner) ∧ W.cell? ⟨w.heap.size, 3, none⟩ = some (.int .i64 r.1.key) ∧ W.cell? ⟨w.heap.size, 4, none⟩ = some (.int .i64 r.1.seq) ∧ W.cell? ⟨w.heap.size, 5, none⟩ = some (r.2) ∧ W.cell? ⟨w.heap.size, 6, none⟩ = some (.int .i64 r.1.cost) ∧ W.cell? ⟨w.heap.size, 7, none⟩ = some (.bool r.1.far))) w1 from by
            obtain ⟨m0, m1, m2, m3, m4, m5, m6, m7, n0, n1, n2, n3, n4, n5, n6, n7⟩ := hHeld
            refine ⟨?_, ?_, ?_, ?_, ?_, ?_, ?_, ?_, ?_, ?_, ?_, ?_, ?_, ?_, ?_, ?_⟩ <;> (refine (b1.cell ?_).trans ?_ <;> assumption))
          refine hK.out _ _ hSn (fun hHeld => ?_)
          clear hK K hSn
          try simp only [Act.put, List.setIfInBounds_toArray, List.set_cons_zero, List.set_cons_succ]
          refine take_do 6 (oi := ?_) (v := ?_) ?_ (by rw [hops.out]; kernel_rfl) ?_ ?_ ?_ (by assumption) ?_
          rotate_left 2
          · rw [hops.out]; simp only [List.getElem?_toArray, List.getElem?_cons_succ, List.getElem?_cons_zero]; rfl
          · rw [hops.out]; kernel_rfl
          · intro W hW; (try dsimp only at hW); go_simp <;> with_reducible rfl
          · exact fun _ _ _ h => h
          try simp only [Act.put, List.setIfInBounds_toArray, List.set_cons_zero, List.set_cons_succ]
          refine take_do 7 (oi := ?_) (v := ?_) ?_ (by rw [hops.out]; kernel_rfl) ?_ ?_ ?_ (by assumption) ?_
          rotate_left 2
          · rw [hops.out]; simp only [List.getElem?_toArray, List.getElem?_cons_succ, List.getElem?_cons_zero]; rfl
          · rw [hops.out]; kernel_rfl
          · intro W hW; (try dsimp only at hW); go_simp <;> with_reducible rfl
          · exact fun _ _ _ h => h
          try simp only [Act.put, List.setIfInBounds_toArray, List.set_cons_zero, List.set_cons_succ]
          refine take_do 8 (oi := ?_) (v := ?_) ?_ (by rw [hops.out]; kernel_rfl) ?_ ?_ ?_ (by assumption) ?_
          rotate_left 2
          · rw [hops.out]; simp only [List.getElem?_toArray, List.getElem?_cons_succ, List.getElem?_cons_zero]; rfl
          · rw [hops.out]; kernel_rfl
          · intro W hW; (try dsimp only at hW); go_simp <;> with_reducible rfl
          · exact fun _ _ _ h => h
          try simp only [Act.put, List.setIfInBounds_toArray, List.set_cons_zero, List.set_cons_succ]
          refine take_do 9 (oi := ?_) (v := ?_) ?_ (by rw [hops.out]; kernel_rfl) ?_ ?_ ?_ (by assumption) ?_
          rotate_left 2
          · rw [hops.out]; simp only [List.getElem?_toArray, List.getElem?_cons_succ, List.getElem?_cons_zero]; rfl
          · rw [hops.out]; kernel_rfl
          · intro W hW; (try dsimp only at hW); go_simp <;> with_reducible rfl
          · exact fun _ _ _ h => h
          try simp only [Act.put, List.setIfInBounds_toArray, List.set_cons_zero, List.set_cons_succ]
          refine take_do 10 (oi := ?_) (v := ?_) ?_ (by rw [hops.out]; kernel_rfl) ?_ ?_ ?_ (by assumption) ?_
          rotate_left 2
          · rw [hops.out]; simp only [List.getElem?_toArray, List.getElem?_cons_succ, List.getElem?_cons_zero]; rfl
          · rw [hops.out]; kernel_rfl
          · intro W hW; (try dsimp only at hW); go_simp <;> with_reducible rfl
          · exact fun _ _ _ h => h
          try simp only [Act.put, List.setIfInBounds_toArray, List.set_cons_zero, List.set_cons_succ]
          refine take_do 11 (oi := ?_) (v := ?_) ?_ (by rw [hops.out]; kernel_rfl) ?_ ?_ ?_ (by assumption) ?_
          rotate_left 2
          · rw [hops.out]; simp only [List.getElem?_toArray, List.getElem?_cons_succ, List.getElem?_cons_zero]; rfl
          · rw [hops.out]; kernel_rfl
          · intro W hW; (try dsimp only at hW); go_simp <;> with_reducible rfl
          · exact fun _ _ _ h => h
          try simp only [Act.put, List.setIfInBounds_toArray, List.set_cons_zero, List.set_cons_succ]
          refine take_do 12 (oi := ?_) (v := ?_) ?_ (by rw [hops.out]; kernel_rfl) ?_ ?_ ?_ (by assumption) ?_
          rotate_left 2
          · rw [hops.out]; simp only [List.getElem?_toArray, List.getElem?_cons_succ, List.getElem?_cons_zero]; rfl
          · rw [hops.out]; kernel_rfl
          · intro W hW; (try dsimp only at hW); go_simp <;> with_reducible rfl
          · exact fun _ _ _ h => h
          try simp only [Act.put, List.setIfInBounds_toArray, List.set_cons_zero, List.set_cons_succ]
          refine take_do 13 (oi := ?_) (v := .bool false) ?_ (by rw [hops.out]; kernel_rfl) ?_ ?_ ?_ (by assumption) ?_
          rotate_left 1
          · rw [hops.out]; simp only [List.getElem?_toArray, List.getElem?_cons_succ, List.getElem?_cons_zero]; rfl
          · rw [hops.out]; kernel_rfl
          · intro W hW; (try dsimp only at hW); go_simp <;> (first | with_reducible rfl | (simp; omega) | omega)
          · exact fun _ _ _ h => h
          try simp only [Act.put, List.setIfInBounds_toArray, List.set_cons_zero, List.set_cons_succ]
          refine take_do 14 (oi := ?_) (v := ?_) ?_ (by rw [hops.out]; kernel_rfl) ?_ ?_ ?_ (by assumption) ?_
          rotate_left 2
          · rw [hops.out]; simp only [List.getElem?_toArray, List.getElem?_cons_succ, List.getElem?_cons_zero]; rfl
          · rw [hops.out]; kernel_rfl
          · intro W hW; (try dsimp only at hW); go_simp <;> with_reducible rfl
          · exact fun _ _ _ h => h
          try simp only [Act.put, List.setIfInBounds_toArray, List.set_cons_zero, List.set_cons_succ]
          refine wpAnyH_done (by rw [hops.out]; kernel_rfl) ?_ _
          clear hops ops
          go_wp2
          go_roundw
          case rel => exact ⟨k + 1, m, by omega, by go_num, rfl, HN, hnx.drew.trans (b1.mono hsz)⟩
          case measure => simp [intOf]; omega
    · have HN := hide (show m = NN by
        rw [HM.out, HNN.out, List.take_of_length_le (by omega)])
      go_wp2
      go_ret
      exact ⟨by rw [HN.out]; rfl, BWR⟩

set_option maxRecDepth 100000 in
set_option maxHeartbeats 4000000 in
theorem sameStore_any (v1 v2 : Value) (ps qs : List RP) (hi : Nat) (w : World) (h1 : RecsIn w hi v1 ps) (h2 : RecsIn w hi v2 qs) (he : fsts ps = fsts qs) (hhi : hi ≤ w.heap.size) (hn : tot ps ≤ 1048576) :
    Calls Try.prog 24 #[v1, v2] w fun e w' => e = .returned (.bool true) ∧ Below w.heap.size w w' := by
  have hnl := tot_len ps
  have hel : ps.length = qs.length := by have := congrArg List.length he; simpa [fsts] using this
  obtain ⟨a1, c1, rfl⟩ := owns_lenS h1.row
  obtain ⟨a2, c2, rfl⟩ := owns_lenS h2.row
  have HV := hide h1
  have HW := hide h2
  have HE := hide he
  have hei : (ps.length : Int) = (qs.length : Int) := by omega
  have HEL := hide hel
  clear h1 h2 he hel
  go_enter Try.func24, Try.ntmps24
  go_wp2
  go_loopw [5] (fun i wr => ∃ (k : Nat), k ≤ ps.length ∧ i = .int .i64 k ∧ Below w.heap.size w wr) (fun i _ => ps.length - (intOf i).toNat)
  case atStart => exact ⟨0, by omega, rfl, Below.refl _ _⟩
  case round =>
    obtain ⟨k, hk, rfl, hnx⟩ := hrel
    have hsz := hnx.size
    by_cases hlt : k < ps.length
    · obtain ⟨p, hp⟩ : ∃ p, ps[k]? = some p := ⟨ps[k], List.getElem?_eq_getElem hlt⟩
      obtain ⟨q, hq⟩ : ∃ q, qs[k]? = some q := ⟨qs[k]'(by have := HEL.out; omega), List.getElem?_eq_getElem (by have := HEL.out; omega)⟩
      have hpq : p.1 = q.1 := by
        have e1 := fsts_at hp
        have e2 := fsts_at hq
        rw [HE.out, e2] at e1
        exact (Option.some.inj e1).symm
      obtain ⟨b, off, cap', hve, hbb, c0, c1, c2, c3, c4, c5, c6, c7, hn1⟩ := HV.out.at.cells k p hp
      cases hve
      obtain ⟨b2, off2, cap2, hve2, hbb2, d0, d1, d2, d3, d4, d5, d6, d7, hn2⟩ := HW.out.at.cells k q hq
      cases hve2
      rw [← hnx.cell (p := ⟨b, off + k * 8, none⟩) (Nat.lt_of_lt_of_le hbb hhi)] at c0
      rw [← hnx.cell (p := ⟨b, off + k * 8 + 1, none⟩) (Nat.lt_of_lt_of_le hbb hhi)] at c1
      rw [← hnx.cell (p := ⟨b, off + k * 8 + 2, none⟩) (Nat.lt_of_lt_of_le hbb hhi)] at c2
      rw [← hnx.cell (p := ⟨b, off + k * 8 + 3, none⟩) (Nat.lt_of_lt_of_le hbb hhi)] at c3
      rw [← hnx.cell (p := ⟨b, off + k * 8 + 4, none⟩) (Nat.lt_of_lt_of_le hbb hhi)] at c4
      rw [← hnx.cell (p := ⟨b, off + k * 8 + 5, none⟩) (Nat.lt_of_lt_of_le hbb hhi)] at c5
      rw [← hnx.cell (p := ⟨b, off + k * 8 + 6, none⟩) (Nat.lt_of_lt_of_le hbb hhi)] at c6
      rw [← hnx.cell (p := ⟨b, off + k * 8 + 7, none⟩) (Nat.lt_of_lt_of_le hbb hhi)] at c7
      rw [← hnx.cell (p := ⟨b2, off2 + k * 8, none⟩) (Nat.lt_of_lt_of_le hbb2 hhi)] at d0
      rw [← hnx.cell (p := ⟨b2, off2 + k * 8 + 1, none⟩) (Nat.lt_of_lt_of_le hbb2 hhi)] at d1
      rw [← hnx.cell (p := ⟨b2, off2 + k * 8 + 2, none⟩) (Nat.lt_of_lt_of_le hbb2 hhi)] at d2
      rw [← hnx.cell (p := ⟨b2, off2 + k * 8 + 3, none⟩) (Nat.lt_of_lt_of_le hbb2 hhi)] at d3
      rw [← hnx.cell (p := ⟨b2, off2 + k * 8 + 4, none⟩) (Nat.lt_of_lt_of_le hbb2 hhi)] at d4
      rw [← hnx.cell (p := ⟨b2, off2 + k * 8 + 5, none⟩) (Nat.lt_of_lt_of_le hbb2 hhi)] at d5
      rw [← hnx.cell (p := ⟨b2, off2 + k * 8 + 6, none⟩) (Nat.lt_of_lt_of_le hbb2 hhi)] at d6
      rw [← hnx.cell (p := ⟨b2, off2 + k * 8 + 7, none⟩) (Nat.lt_of_lt_of_le hbb2 hhi)] at d7
      have hb1 : b < wr.heap.size := by omega
      have hb2 : b2 < wr.heap.size := by omega
      have hki : (0 : Int) ≤ (k : Int) := by omega
      have hkj : (k : Int) < (ps.length : Int) := by omega
      have hkq : (k : Int) < (qs.length : Int) := by omega
      have HSM := hide (fun W (hb : Below w.heap.size w W) => same_any p.1 p.2 q.2 W ((RowAt.later hn1 hb hhi).more (by have := hb.size; omega)) ((RowAt.later (B := hi) (by rw [hpq]; exact hn2) hb hhi).more (by have := hb.size; omega)) (by have := tot_mem (List.mem_of_getElem? hp); omega))
      unfold recC at HSM
      rw [← hpq] at d0 d1 d2 d3 d4 d6 d7
      have hnd : Below w.heap.size w wr.drew := hnx.drew
      clear hp hq hpq hn1 hn2 hei
      go_wp2
      go_region_held3 (fun W => W.cell? ⟨b, off + k * 8, none⟩ = some (.int .i64 p.1.area) ∧ W.cell? ⟨b, off + k * 8 + 1, none⟩ = some (.int .i64 p.1.kind) ∧ W.cell? ⟨b, off + k * 8 + 2, none⟩ = some (.int .i64 p.1.owner) ∧ W.cell? ⟨b, off + k * 8 + 3, none⟩ = some (.int .i64 p.1.key) ∧ W.cell? ⟨b, off + k * 8 + 4, none⟩ = some (.int .i64 p.1.seq) ∧ W.cell? ⟨b, off + k * 8 + 5, none⟩ = some (p.2) ∧ W.cell? ⟨b, off + k * 8 + 6, none⟩ = some (.int .i64 p.1.cost) ∧ W.cell? ⟨b, off + k * 8 + 7, none⟩ = some (.bool p.1.far) ∧ W.cell? ⟨b2, off2 + k * 8, none⟩ = some (.int .i64 p.1.area) ∧ W.cell? ⟨b2, off2 + k * 8 + 1, none⟩ = some (.int .i64 p.1.kind) ∧ W.cell? ⟨b2, off2 + k * 8 + 2, none⟩ = some (.int .i64 p.1.owner) ∧ W.cell? ⟨b2, off2 + k * 8 + 3, none⟩ = some (.int .i64 p.1.key) ∧ W.cell? ⟨b2, off2 + k * 8 + 4, none⟩ = some (.int .i64 p.1.seq) ∧ W.cell? ⟨b2, off2 + k * 8 + 5, none⟩ = some (q.2) ∧ W.cell? ⟨b2, off2 + k * 8 + 6, none⟩ = some (.int .i64 p.1.cost) ∧ W.cell? ⟨b2, off2 + k * 8 + 7, none⟩ = some (.bool p.1.far)) (first | go_keep | (refine ⟨?_, ?_, ?_, ?_, ?_, ?_, ?_, ?_, ?_, ?_, ?_, ?_, ?_, ?_, ?_, ?_⟩ <;> (rw [hbc.cell (by assumption)]; assumption))) (first | (go_at_call 55; refine (HSM.out _ hnd).mono ?_; rintro e w1 ⟨rfl, hbc⟩))
      go_wp2
      go_roundw
      case rel => exact ⟨k + 1, by omega, by go_num, hnd.trans (hbc.mono hsz)⟩
      case measure => simp [intOf]; omega
    · go_wp2
      go_ret
      exact ⟨rfl, hnx⟩
end Go.Proofs.Ytdaigojpeofmpaa
namespace Go.Proofs.Ytdaigojpeofmpaa
open Go.RowKit

set_option linter.unusedSimpArgs false

theorem results_cell_row_tmp5 {P : Program} {fn : Func} {p u : Tmp} {ty : TypeId} (h : fn.results = #[.cell p ty, .tmp u]) (tmps : Array Value) (w : World) (g : Nat) (t : TypeId) (cs : Array Value) (fr : Nat × Nat) (d : TypeDesc)
    (hp : tmps.getD p undef = .pointer (some ⟨g, 0, none⟩)) (hg : w.heap[g]? = some (.cells cs t fr))
    (hu : P.underlying ty = some d) (hd : (match d with | .struct _ | .array _ _ => true | _ => false) = true) (hi : (P.info? ty).map (·.size) = some cs.size) :
    (results fn tmps).run P w = .ok (.tuple #[.agg cs, tmps.getD u undef]) w := by
  have hp' : tmps[p]?.getD undef = .pointer (some ⟨g, 0, none⟩) := by simpa using hp
  rw [results_cell_tmp h]
  simp [hp', asAddr, run_loadVar_row w g t ty cs fr d hg hu hd hi]

/-- the one with the key, and whether there is one -/
def findD (xs : List RecD) (r : RecD) : RecD := if atZ xs r < 0 then zeroRD else xs.getD (atZ xs r).toNat zeroRD

def findB (xs : List RecD) (r : RecD) : Bool := !decide (atZ xs r < 0)

theorem find_none {xs : List RecD} {r : RecD} (h : atZ xs r = -1) : findD xs r = zeroRD ∧ findB xs r = false := by unfold findD findB; rw [h]; exact ⟨rfl, rfl⟩

theorem find_at {xs : List RecD} {r y : RecD} {k : Nat} (h : atZ xs r = (k : Int)) (hy : xs[k]? = some y) : findD xs r = y ∧ findB xs r = true := by
  unfold findD findB
  rw [h, if_neg (by omega)]
  exact ⟨by simp [hy], by simp⟩

theorem fsts_some5 {ps : List RP} {k : Nat} {y : RecD} (h : (fsts ps)[k]? = some y) : ∃ p, ps[k]? = some p ∧ p.1 = y := by
  simp [fsts] at h
  obtain ⟨v, hv⟩ := h
  exact ⟨(y, v), hv, rfl⟩

end Go.Proofs.Ytdaigojpeofmpaa
