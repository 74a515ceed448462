/-
  spec.TrueTold: its contract.
-/
import Derived.Test.YthgihhngddhejaaTtS
namespace Go.Proofs.Ythgihhngddhejaa
open Go.RowKit

set_option linter.unusedSimpArgs false
set_option linter.unusedVariables false

set_option maxRecDepth 100000 in
set_option maxHeartbeats 20000000 in
theorem strue_any (v u : Value) (ps qs : List RP) (w : World) (hn : tot ps ≤ 1048576) (hm : tot qs ≤ 1048576) (hv : RecsAt w v ps w.heap.size) (hu : RecsAt w u qs w.heap.size) :
    Calls Try.prog 5 #[v, u] w fun e w' => e = .returned (.bool (trueB (fsts ps) (fsts qs))) ∧ Below w.heap.size w w' := by
  have hnl := tot_len qs
  have hnp := tot_len ps
  obtain ⟨a, cap, rfl⟩ := hv.shape
  obtain ⟨a2, cap2, rfl⟩ := hu.shape
  have HV := hide hv
  have HU := hide hu
  clear hv hu
  have hfl : (fsts qs).length = qs.length := by simp [fsts]
  have hfp : (fsts ps).length = ps.length := by simp [fsts]
  have HFL := hide hfl
  have HFP := hide hfp
  clear hfl hfp
  obtain ⟨R, hR⟩ : ∃ R, R = trueB (fsts ps) (fsts qs) := ⟨_, rfl⟩
  rw [← hR]
  have HR := hide hR
  clear hR
  go_enter Try.func5, Try.ntmps5
  go_wp2
  go_loopw [5] (fun i wr => ∃ k : Nat, k ≤ qs.length ∧ i = .int .i64 k ∧ ((fsts qs).take k).all (trueAt (fsts ps)) = true ∧ Below w.heap.size w wr) (fun i _ => qs.length - (intOf i).toNat)
  case atStart => exact ⟨0, by omega, rfl, by simp, Below.refl _ _⟩
  case round =>
    obtain ⟨j, hj, rfl, hall, hnx⟩ := hrel
    have HALL := hide hall
    clear hall
    rename World => wa
    have hsa := hnx.size
    by_cases hjt : j < qs.length
    · obtain ⟨t, ht⟩ : ∃ l, qs[j]? = some l := ⟨qs[j], List.getElem?_eq_getElem hjt⟩
      have HN := hide (all_next (f := trueAt (fsts ps)) (fsts_at ht))
      have HY := hide (all_not (f := trueAt (fsts ps)) (fsts_at ht))
      obtain ⟨q, hq⟩ : ∃ q, q = trueAt (fsts ps) t.1 := ⟨_, rfl⟩
      rw [← hq] at HN HY
      have HQ := hide hq
      have HT := hide ht
      clear hq ht
      have hji : (0 : Int) ≤ (j : Int) := by omega
      have hjj : (j : Int) < (qs.length : Int) := by omega
      go_wp2
      go_loopw [7, 6] (fun i h wr => ∃ k : Nat, k ≤ ps.length ∧ i = .int .i64 k ∧ (∃ hb : Nat, h = .bool (decide (hb = 1)) ∧ decide (hb = 1) = ((fsts ps).take k).any (fun x => sameRB x t.1)) ∧ Below w.heap.size w wr) (fun i _ _ => ps.length - (intOf i).toNat)
      case atStart => exact ⟨0, by omega, rfl, ⟨0, rfl, by simp⟩, hnx⟩
      case round =>
        obtain ⟨k, hk, rfl, ⟨hb, rfl, hhb⟩, hny⟩ := hrel
        have HHB := hide hhb
        clear hhb
        have hsz := hny.size
        by_cases hlt : k < ps.length
        · obtain ⟨l, hl⟩ : ∃ l, ps[k]? = some l := ⟨ps[k], List.getElem?_eq_getElem hlt⟩
          obtain ⟨b, off, cap', hve, hbb, c0, c1, c2, c3, c4, c5, c6, c7, hnr⟩ := HV.out.cells k l hl
          cases hve
          obtain ⟨d, of2, cap3, hve, hdb, d0, d1, d2, d3, d4, d5, d6, d7, hns⟩ := HU.out.cells j t HT.out
          cases hve
          rw [← hny.cell (p := ⟨b, off + k * 8, none⟩) hbb] at c0
          rw [← hny.cell (p := ⟨b, off + k * 8 + 1, none⟩) hbb] at c1
          rw [← hny.cell (p := ⟨b, off + k * 8 + 2, none⟩) hbb] at c2
          rw [← hny.cell (p := ⟨b, off + k * 8 + 3, none⟩) hbb] at c3
          rw [← hny.cell (p := ⟨b, off + k * 8 + 4, none⟩) hbb] at c4
          rw [← hny.cell (p := ⟨b, off + k * 8 + 5, none⟩) hbb] at c5
          rw [← hny.cell (p := ⟨b, off + k * 8 + 6, none⟩) hbb] at c6
          rw [← hny.cell (p := ⟨b, off + k * 8 + 7, none⟩) hbb] at c7
          rw [← hny.cell (p := ⟨d, of2 + j * 8, none⟩) hdb] at d0
          rw [← hny.cell (p := ⟨d, of2 + j * 8 + 1, none⟩) hdb] at d1
          rw [← hny.cell (p := ⟨d, of2 + j * 8 + 2, none⟩) hdb] at d2
          rw [← hny.cell (p := ⟨d, of2 + j * 8 + 3, none⟩) hdb] at d3
          rw [← hny.cell (p := ⟨d, of2 + j * 8 + 4, none⟩) hdb] at d4
          rw [← hny.cell (p := ⟨d, of2 + j * 8 + 5, none⟩) hdb] at d5
          rw [← hny.cell (p := ⟨d, of2 + j * 8 + 6, none⟩) hdb] at d6
          rw [← hny.cell (p := ⟨d, of2 + j * 8 + 7, none⟩) hdb] at d7
          have hbr : b < wr.heap.size := by omega
          have hdr : d < wr.heap.size := by omega
          have hki : (0 : Int) ≤ (k : Int) := by omega
          have hkj : (k : Int) < (ps.length : Int) := by omega
          have hnd : Below w.heap.size w wr.drew := hny.drew
          have HSB := hide (fun W (hb : Below w.heap.size w W) => ssameBody_any (.agg (recC l.1 l.2)) (.agg (recC t.1 t.2)) l.1 t.1 W ⟨_, rfl, NearsAt.then hnr hb⟩ ⟨_, rfl, NearsAt.then hns hb⟩ (by have := tot_mem (List.mem_of_getElem? hl); omega) (by have := tot_mem (List.mem_of_getElem? HT.out); omega))
          unfold recC at HSB
          have HM := hide (any_next (f := fun x => sameRB x t.1) (fsts_at hl))
          have HS := hide (show sameRB l.1 t.1 = (sameBodyB l.1 t.1 && l.1.seq == t.1.seq) from rfl)
          obtain ⟨g, hg⟩ : ∃ q, q = sameBodyB l.1 t.1 := ⟨_, rfl⟩
          rw [← hg] at HSB HS
          clear hg hl hnr hns
          by_cases hb1 : hb = 1
          · have hbd : decide (hb = 1) = true := decide_eq_true hb1
            rw [hbd] at HHB ⊢
            clear hb1
            go_wp2
            refine wp_region_start (S := (fun W => W.cell? ⟨b, off + k * 8, none⟩ = some (.int .i64 l.1.area) ∧ W.cell? ⟨b, off + k * 8 + 1, none⟩ = some (.int .i64 l.1.kind) ∧ W.cell? ⟨b, off + k * 8 + 2, none⟩ = some (.int .i64 l.1.owner) ∧ W.cell? ⟨b, off + k * 8 + 3, none⟩ = some (.int .i64 l.1.key) ∧ W.cell? ⟨b, off + k * 8 + 4, none⟩ = some (.int .i64 l.1.seq) ∧ W.cell? ⟨b, off + k * 8 + 5, none⟩ = some (l.2) ∧ W.cell? ⟨b, off + k * 8 + 6, none⟩ = some (.int .i64 l.1.cost) ∧ W.cell? ⟨b, off + k * 8 + 7, none⟩ = some (.bool l.1.far) ∧ W.cell? ⟨d, of2 + j * 8, none⟩ = some (.int .i64 t.1.area) ∧ W.cell? ⟨d, of2 + j * 8 + 1, none⟩ = some (.int .i64 t.1.kind) ∧ W.cell? ⟨d, of2 + j * 8 + 2, none⟩ = some (.int .i64 t.1.owner) ∧ W.cell? ⟨d, of2 + j * 8 + 3, none⟩ = some (.int .i64 t.1.key) ∧ W.cell? ⟨d, of2 + j * 8 + 4, none⟩ = some (.int .i64 t.1.seq) ∧ W.cell? ⟨d, of2 + j * 8 + 5, none⟩ = some (t.2) ∧ W.cell? ⟨d, of2 + j * 8 + 6, none⟩ = some (.int .i64 t.1.cost) ∧ W.cell? ⟨d, of2 + j * 8 + 7, none⟩ = some (.bool t.1.far))) (by kernel_rfl) 26 rfl ⟨c0, c1, c2, c3, c4, c5, c6, c7, d0, d1, d2, d3, d4, d5, d6, d7⟩ (fun ops hops hHeld => ?_)
            refine take_do 0 (oi := ?_) (v := ?_) ?_ (by rw [hops.out]; kernel_rfl) ?_ ?_ ?_ (by assumption) ?_
            rotate_left 2
            · rw [hops.out]; simp only [List.getElem?_toArray, List.getElem?_cons_succ, List.getElem?_cons_zero]; rfl
            · rw [hops.out]; kernel_rfl
            · intro W hW; (try dsimp only at hW); go_simp <;> with_reducible rfl
            · exact fun _ _ _ h => h
            try simp only [Act.put, List.setIfInBounds_toArray, List.set_cons_zero, List.set_cons_succ]
            refine take_do 1 (oi := ?_) (v := ?_) ?_ (by rw [hops.out]; kernel_rfl) ?_ ?_ ?_ (by assumption) ?_
            rotate_left 2
            · rw [hops.out]; simp only [List.getElem?_toArray, List.getElem?_cons_succ, List.getElem?_cons_zero]; rfl
            · rw [hops.out]; kernel_rfl
            · intro W hW; (try dsimp only at hW); go_simp <;> with_reducible rfl
            · exact fun _ _ _ h => h
            try simp only [Act.put, List.setIfInBounds_toArray, List.set_cons_zero, List.set_cons_succ]
            refine take_skip 2 22 (by rw [hops.out]; kernel_rfl) (by rw [hops.out]; kernel_rfl) (by rw [hops.out]; kernel_rfl) (fun _ _ _ h => h) (by assumption) ?_
            try simp only [Act.put, List.setIfInBounds_toArray, List.set_cons_zero, List.set_cons_succ]
            refine take_skip 3 23 (by rw [hops.out]; kernel_rfl) (by rw [hops.out]; kernel_rfl) (by rw [hops.out]; kernel_rfl) (fun _ _ _ h => h) (by assumption) ?_
            try simp only [Act.put, List.setIfInBounds_toArray, List.set_cons_zero, List.set_cons_succ]
            refine take_skip 4 24 (by rw [hops.out]; kernel_rfl) (by rw [hops.out]; kernel_rfl) (by rw [hops.out]; kernel_rfl) (fun _ _ _ h => h) (by assumption) ?_
            try simp only [Act.put, List.setIfInBounds_toArray, List.set_cons_zero, List.set_cons_succ]
            refine take_skip 5 25 (by rw [hops.out]; kernel_rfl) (by rw [hops.out]; kernel_rfl) (by rw [hops.out]; kernel_rfl) (fun _ _ _ h => h) (by assumption) ?_
            try simp only [Act.put, List.setIfInBounds_toArray, List.set_cons_zero, List.set_cons_succ]
            refine take_skip 6 26 (by rw [hops.out]; kernel_rfl) (by rw [hops.out]; kernel_rfl) (by rw [hops.out]; kernel_rfl) (fun _ _ _ h => h) (by assumption) ?_
            try simp only [Act.put, List.setIfInBounds_toArray, List.set_cons_zero, List.set_cons_succ]
            refine take_skip 7 27 (by rw [hops.out]; kernel_rfl) (by rw [hops.out]; kernel_rfl) (by rw [hops.out]; kernel_rfl) (fun _ _ _ h => h) (by assumption) ?_
            try simp only [Act.put, List.setIfInBounds_toArray, List.set_cons_zero, List.set_cons_succ]
            refine take_skip 8 28 (by rw [hops.out]; kernel_rfl) (by rw [hops.out]; kernel_rfl) (by rw [hops.out]; kernel_rfl) (fun _ _ _ h => h) (by assumption) ?_
            try simp only [Act.put, List.setIfInBounds_toArray, List.set_cons_zero, List.set_cons_succ]
            refine take_skip 9 29 (by rw [hops.out]; kernel_rfl) (by rw [hops.out]; kernel_rfl) (by rw [hops.out]; kernel_rfl) (fun _ _ _ h => h) (by assumption) ?_
            try simp only [Act.put, List.setIfInBounds_toArray, List.set_cons_zero, List.set_cons_succ]
            refine take_skip 10 30 (by rw [hops.out]; kernel_rfl) (by rw [hops.out]; kernel_rfl) (by rw [hops.out]; kernel_rfl) (fun _ _ _ h => h) (by assumption) ?_
            try simp only [Act.put, List.setIfInBounds_toArray, List.set_cons_zero, List.set_cons_succ]
            refine take_skip 11 31 (by rw [hops.out]; kernel_rfl) (by rw [hops.out]; kernel_rfl) (by rw [hops.out]; kernel_rfl) (fun _ _ _ h => h) (by assumption) ?_
            try simp only [Act.put, List.setIfInBounds_toArray, List.set_cons_zero, List.set_cons_succ]
            refine take_skip 12 32 (by rw [hops.out]; kernel_rfl) (by rw [hops.out]; kernel_rfl) (by rw [hops.out]; kernel_rfl) (fun _ _ _ h => h) (by assumption) ?_
            try simp only [Act.put, List.setIfInBounds_toArray, List.set_cons_zero, List.set_cons_succ]
            refine take_skip 13 33 (by rw [hops.out]; kernel_rfl) (by rw [hops.out]; kernel_rfl) (by rw [hops.out]; kernel_rfl) (fun _ _ _ h => h) (by assumption) ?_
            try simp only [Act.put, List.setIfInBounds_toArray, List.set_cons_zero, List.set_cons_succ]
            refine take_skip 14 34 (by rw [hops.out]; kernel_rfl) (by rw [hops.out]; kernel_rfl) (by rw [hops.out]; kernel_rfl) (fun _ _ _ h => h) (by assumption) ?_
            try simp only [Act.put, List.setIfInBounds_toArray, List.set_cons_zero, List.set_cons_succ]
            refine take_skip 15 35 (by rw [hops.out]; kernel_rfl) (by rw [hops.out]; kernel_rfl) (by rw [hops.out]; kernel_rfl) (fun _ _ _ h => h) (by assumption) ?_
            try simp only [Act.put, List.setIfInBounds_toArray, List.set_cons_zero, List.set_cons_succ]
            refine take_skip 16 36 (by rw [hops.out]; kernel_rfl) (by rw [hops.out]; kernel_rfl) (by rw [hops.out]; kernel_rfl) (fun _ _ _ h => h) (by assumption) ?_
            try simp only [Act.put, List.setIfInBounds_toArray, List.set_cons_zero, List.set_cons_succ]
            refine take_skip 17 37 (by rw [hops.out]; kernel_rfl) (by rw [hops.out]; kernel_rfl) (by rw [hops.out]; kernel_rfl) (fun _ _ _ h => h) (by assumption) ?_
            try simp only [Act.put, List.setIfInBounds_toArray, List.set_cons_zero, List.set_cons_succ]
            refine take_skip 18 38 (by rw [hops.out]; kernel_rfl) (by rw [hops.out]; kernel_rfl) (by rw [hops.out]; kernel_rfl) (fun _ _ _ h => h) (by assumption) ?_
            try simp only [Act.put, List.setIfInBounds_toArray, List.set_cons_zero, List.set_cons_succ]
            refine take_skip 19 39 (by rw [hops.out]; kernel_rfl) (by rw [hops.out]; kernel_rfl) (by rw [hops.out]; kernel_rfl) (fun _ _ _ h => h) (by assumption) ?_
            try simp only [Act.put, List.setIfInBounds_toArray, List.set_cons_zero, List.set_cons_succ]
            refine take_skip 20 40 (by rw [hops.out]; kernel_rfl) (by rw [hops.out]; kernel_rfl) (by rw [hops.out]; kernel_rfl) (fun _ _ _ h => h) (by assumption) ?_
            try simp only [Act.put, List.setIfInBounds_toArray, List.set_cons_zero, List.set_cons_succ]
            refine take_skip 21 41 (by rw [hops.out]; kernel_rfl) (by rw [hops.out]; kernel_rfl) (by rw [hops.out]; kernel_rfl) (fun _ _ _ h => h) (by assumption) ?_
            try simp only [Act.put, List.setIfInBounds_toArray, List.set_cons_zero, List.set_cons_succ]
            refine take_skip 22 42 (by rw [hops.out]; kernel_rfl) (by rw [hops.out]; kernel_rfl) (by rw [hops.out]; kernel_rfl) (fun _ _ _ h => h) (by assumption) ?_
            try simp only [Act.put, List.setIfInBounds_toArray, List.set_cons_zero, List.set_cons_succ]
            refine take_skip 23 43 (by rw [hops.out]; kernel_rfl) (by rw [hops.out]; kernel_rfl) (by rw [hops.out]; kernel_rfl) (fun _ _ _ h => h) (by assumption) ?_
            try simp only [Act.put, List.setIfInBounds_toArray, List.set_cons_zero, List.set_cons_succ]
            refine take_do 24 (oi := ?_) (v := ?_) ?_ (by rw [hops.out]; kernel_rfl) ?_ ?_ ?_ (by assumption) ?_
            rotate_left 2
            · rw [hops.out]; simp only [List.getElem?_toArray, List.getElem?_cons_succ, List.getElem?_cons_zero]; rfl
            · rw [hops.out]; kernel_rfl
            · intro W hW; (try dsimp only at hW); go_simp <;> with_reducible rfl
            · exact fun _ _ _ h => h
            try simp only [Act.put, List.setIfInBounds_toArray, List.set_cons_zero, List.set_cons_succ]
            refine take_do 25 (oi := ?_) (v := ?_) ?_ (by rw [hops.out]; kernel_rfl) ?_ ?_ ?_ (by assumption) ?_
            rotate_left 2
            · rw [hops.out]; simp only [List.getElem?_toArray, List.getElem?_cons_succ, List.getElem?_cons_zero]; rfl
            · rw [hops.out]; kernel_rfl
            · intro W hW; (try dsimp only at hW); go_simp <;> with_reducible rfl
            · exact fun _ _ _ h => h
            try simp only [Act.put, List.setIfInBounds_toArray, List.set_cons_zero, List.set_cons_succ]
            refine wpAnyH_done (by rw [hops.out]; kernel_rfl) ?_ _
            clear hops ops
            go_wp2
            go_roundw
            case rel => exact ⟨k + 1, by omega, by go_num, ⟨1, rfl, by rw [HM.out, ← HHB.out]; rfl⟩, hnd⟩
            case measure => simp [intOf]; omega
          · have hbd : decide (hb = 1) = false := decide_eq_false hb1
            rw [hbd] at HHB ⊢
            clear hb1
            cases g
            · go_wp2
              refine wp_region_start (S := (fun W => W.cell? ⟨b, off + k * 8, none⟩ = some (.int .i64 l.1.area) ∧ W.cell? ⟨b, off + k * 8 + 1, none⟩ = some (.int .i64 l.1.kind) ∧ W.cell? ⟨b, off + k * 8 + 2, none⟩ = some (.int .i64 l.1.owner) ∧ W.cell? ⟨b, off + k * 8 + 3, none⟩ = some (.int .i64 l.1.key) ∧ W.cell? ⟨b, off + k * 8 + 4, none⟩ = some (.int .i64 l.1.seq) ∧ W.cell? ⟨b, off + k * 8 + 5, none⟩ = some (l.2) ∧ W.cell? ⟨b, off + k * 8 + 6, none⟩ = some (.int .i64 l.1.cost) ∧ W.cell? ⟨b, off + k * 8 + 7, none⟩ = some (.bool l.1.far) ∧ W.cell? ⟨d, of2 + j * 8, none⟩ = some (.int .i64 t.1.area) ∧ W.cell? ⟨d, of2 + j * 8 + 1, none⟩ = some (.int .i64 t.1.kind) ∧ W.cell? ⟨d, of2 + j * 8 + 2, none⟩ = some (.int .i64 t.1.owner) ∧ W.cell? ⟨d, of2 + j * 8 + 3, none⟩ = some (.int .i64 t.1.key) ∧ W.cell? ⟨d, of2 + j * 8 + 4, none⟩ = some (.int .i64 t.1.seq) ∧ W.cell? ⟨d, of2 + j * 8 + 5, none⟩ = some (t.2) ∧ W.cell? ⟨d, of2 + j * 8 + 6, none⟩ = some (.int .i64 t.1.cost) ∧ W.cell? ⟨d, of2 + j * 8 + 7, none⟩ = some (.bool t.1.far))) (by kernel_rfl) 26 rfl ⟨c0, c1, c2, c3, c4, c5, c6, c7, d0, d1, d2, d3, d4, d5, d6, d7⟩ (fun ops hops hHeld => ?_)
              refine take_do 0 (oi := ?_) (v := ?_) ?_ (by rw [hops.out]; kernel_rfl) ?_ ?_ ?_ (by assumption) ?_
              rotate_left 2
              · rw [hops.out]; simp only [List.getElem?_toArray, List.getElem?_cons_succ, List.getElem?_cons_zero]; rfl
              · rw [hops.out]; kernel_rfl
              · intro W hW; (try dsimp only at hW); go_simp <;> with_reducible rfl
              · exact fun _ _ _ h => h
              try simp only [Act.put, List.setIfInBounds_toArray, List.set_cons_zero, List.set_cons_succ]
              refine take_do 1 (oi := ?_) (v := ?_) ?_ (by rw [hops.out]; kernel_rfl) ?_ ?_ ?_ (by assumption) ?_
              rotate_left 2
              · rw [hops.out]; simp only [List.getElem?_toArray, List.getElem?_cons_succ, List.getElem?_cons_zero]; rfl
              · rw [hops.out]; kernel_rfl
              · intro W hW; (try dsimp only at hW); go_simp <;> with_reducible rfl
              · exact fun _ _ _ h => h
              try simp only [Act.put, List.setIfInBounds_toArray, List.set_cons_zero, List.set_cons_succ]
              refine take_do 2 (oi := ?_) (v := ?_) ?_ (by rw [hops.out]; kernel_rfl) ?_ ?_ ?_ (by assumption) ?_
              rotate_left 2
              · rw [hops.out]; simp only [List.getElem?_toArray, List.getElem?_cons_succ, List.getElem?_cons_zero]; rfl
              · rw [hops.out]; kernel_rfl
              · intro W hW; (try dsimp only at hW); go_simp <;> with_reducible rfl
              · exact fun _ _ _ h => h
              try simp only [Act.put, List.setIfInBounds_toArray, List.set_cons_zero, List.set_cons_succ]
              refine take_do 3 (oi := ?_) (v := ?_) ?_ (by rw [hops.out]; kernel_rfl) ?_ ?_ ?_ (by assumption) ?_
              rotate_left 2
              · rw [hops.out]; simp only [List.getElem?_toArray, List.getElem?_cons_succ, List.getElem?_cons_zero]; rfl
              · rw [hops.out]; kernel_rfl
              · intro W hW; (try dsimp only at hW); go_simp <;> with_reducible rfl
              · exact fun _ _ _ h => h
              try simp only [Act.put, List.setIfInBounds_toArray, List.set_cons_zero, List.set_cons_succ]
              refine take_do 4 (oi := ?_) (v := ?_) ?_ (by rw [hops.out]; kernel_rfl) ?_ ?_ ?_ (by assumption) ?_
              rotate_left 2
              · rw [hops.out]; simp only [List.getElem?_toArray, List.getElem?_cons_succ, List.getElem?_cons_zero]; rfl
              · rw [hops.out]; kernel_rfl
              · intro W hW; (try dsimp only at hW); go_simp <;> with_reducible rfl
              · exact fun _ _ _ h => h
              try simp only [Act.put, List.setIfInBounds_toArray, List.set_cons_zero, List.set_cons_succ]
              refine take_do 5 (oi := ?_) (v := ?_) ?_ (by rw [hops.out]; kernel_rfl) ?_ ?_ ?_ (by assumption) ?_
              rotate_left 2
              · rw [hops.out]; simp only [List.getElem?_toArray, List.getElem?_cons_succ, List.getElem?_cons_zero]; rfl
              · rw [hops.out]; kernel_rfl
              · intro W hW; (try dsimp only at hW); go_simp <;> with_reducible rfl
              · exact fun _ _ _ h => h
              try simp only [Act.put, List.setIfInBounds_toArray, List.set_cons_zero, List.set_cons_succ]
              refine take_do 6 (oi := ?_) (v := ?_) ?_ (by rw [hops.out]; kernel_rfl) ?_ ?_ ?_ (by assumption) ?_
              rotate_left 2
              · rw [hops.out]; simp only [List.getElem?_toArray, List.getElem?_cons_succ, List.getElem?_cons_zero]; rfl
              · rw [hops.out]; kernel_rfl
              · intro W hW; (try dsimp only at hW); go_simp <;> with_reducible rfl
              · exact fun _ _ _ h => h
              try simp only [Act.put, List.setIfInBounds_toArray, List.set_cons_zero, List.set_cons_succ]
              refine take_do 7 (oi := ?_) (v := ?_) ?_ (by rw [hops.out]; kernel_rfl) ?_ ?_ ?_ (by assumption) ?_
              rotate_left 2
              · rw [hops.out]; simp only [List.getElem?_toArray, List.getElem?_cons_succ, List.getElem?_cons_zero]; rfl
              · rw [hops.out]; kernel_rfl
              · intro W hW; (try dsimp only at hW); go_simp <;> with_reducible rfl
              · exact fun _ _ _ h => h
              try simp only [Act.put, List.setIfInBounds_toArray, List.set_cons_zero, List.set_cons_succ]
              refine take_do 8 (oi := ?_) (v := ?_) ?_ (by rw [hops.out]; kernel_rfl) ?_ ?_ ?_ (by assumption) ?_
              rotate_left 2
              · rw [hops.out]; simp only [List.getElem?_toArray, List.getElem?_cons_succ, List.getElem?_cons_zero]; rfl
              · rw [hops.out]; kernel_rfl
              · intro W hW; (try dsimp only at hW); go_simp <;> with_reducible rfl
              · exact fun _ _ _ h => h
              try simp only [Act.put, List.setIfInBounds_toArray, List.set_cons_zero, List.set_cons_succ]
              refine take_do 9 (oi := ?_) (v := ?_) ?_ (by rw [hops.out]; kernel_rfl) ?_ ?_ ?_ (by assumption) ?_
              rotate_left 2
              · rw [hops.out]; simp only [List.getElem?_toArray, List.getElem?_cons_succ, List.getElem?_cons_zero]; rfl
              · rw [hops.out]; kernel_rfl
              · intro W hW; (try dsimp only at hW); go_simp <;> with_reducible rfl
              · exact fun _ _ _ h => h
              try simp only [Act.put, List.setIfInBounds_toArray, List.set_cons_zero, List.set_cons_succ]
              refine take_call 10 (oi := ?_) ?_ (by rw [hops.out]; kernel_rfl) ?_ ?_
              rotate_left 1
              · rw [hops.out]; simp only [List.getElem?_toArray, List.getElem?_cons_succ, List.getElem?_cons_zero]; rfl
              · rw [hops.out]; kernel_rfl
              intro K hK
              go_simp
              refine (HSB.out _ hnd).mono ?_
              rintro e w1 ⟨rfl, b1⟩
              have hSn : _ ∧ _ := (show ((fun W => W.cell? ⟨b, off + k * 8, none⟩ = some (.int .i64 l.1.area) ∧ W.cell? ⟨b, off + k * 8 + 1, none⟩ = some (.int .i64 l.1.kind) ∧ W.cell? ⟨b, off + k * 8 + 2, none⟩ = some (.int .i64 l.1.owner) ∧ W.cell? ⟨b, off + k * 8 + 3, none⟩ = some (.int .i64 l.1.key) ∧ W.cell? ⟨b, off + k * 8 + 4, none⟩ = some (.int .i64 l.1.seq) ∧ W.cell? ⟨b, off + k * 8 + 5, none⟩ = some (l.2) ∧ W.cell? ⟨b, off + k * 8 + 6, none⟩ = some (.int .i64 l.1.cost) ∧ W.cell? ⟨b, off + k * 8 + 7, none⟩ = some (.bool l.1.far) ∧ W.cell? ⟨d, of2 + j * 8, none⟩ = some (.int .i64 t.1.area) ∧ W.cell? ⟨d, of2 + j * 8 + 1, none⟩ = some (.int .i64 t.1.kind) ∧ W.cell? ⟨d, of2 + j * 8 + 2, none⟩ = some (.int .i64 t.1.owner) ∧ W.cell? ⟨d, of2 + j * 8 + 3, none⟩ = some (.int .i64 t.1.key) ∧ W.cell? ⟨d, of2 + j * 8 + 4, none⟩ = some (.int .i64 t.1.seq) ∧ W.cell? ⟨d, of2 + j * 8 + 5, none⟩ = some (t.2) ∧ W.cell? ⟨d, of2 + j * 8 + 6, none⟩ = some (.int .i64 t.1.cost) ∧ W.cell? ⟨d, of2 + j * 8 + 7, none⟩ = some (.bool t.1.far))) w1 from by
                obtain ⟨m0, m1, m2, m3, m4, m5, m6, m7, m8, m9, m10, m11, m12, m13, m14, m15⟩ := hHeld
                refine ⟨?_, ?_, ?_, ?_, ?_, ?_, ?_, ?_, ?_, ?_, ?_, ?_, ?_, ?_, ?_, ?_⟩ <;> (refine (b1.cell ?_).trans ?_ <;> assumption))
              refine hK.out _ _ hSn (fun hHeld => ?_)
              clear hK K hSn
              try simp only [Act.put, List.setIfInBounds_toArray, List.set_cons_zero, List.set_cons_succ]
              refine take_do 11 (oi := ?_) (v := ?_) ?_ (by rw [hops.out]; kernel_rfl) ?_ ?_ ?_ (by assumption) ?_
              rotate_left 2
              · rw [hops.out]; simp only [List.getElem?_toArray, List.getElem?_cons_succ, List.getElem?_cons_zero]; rfl
              · rw [hops.out]; kernel_rfl
              · intro W hW; (try dsimp only at hW); go_simp <;> with_reducible rfl
              · exact fun _ _ _ h => h
              try simp only [Act.put, List.setIfInBounds_toArray, List.set_cons_zero, List.set_cons_succ]
              refine take_skip 12 32 (by rw [hops.out]; kernel_rfl) (by rw [hops.out]; kernel_rfl) (by rw [hops.out]; kernel_rfl) (fun _ _ _ h => h) (by assumption) ?_
              try simp only [Act.put, List.setIfInBounds_toArray, List.set_cons_zero, List.set_cons_succ]
              refine take_skip 13 33 (by rw [hops.out]; kernel_rfl) (by rw [hops.out]; kernel_rfl) (by rw [hops.out]; kernel_rfl) (fun _ _ _ h => h) (by assumption) ?_
              try simp only [Act.put, List.setIfInBounds_toArray, List.set_cons_zero, List.set_cons_succ]
              refine take_skip 14 34 (by rw [hops.out]; kernel_rfl) (by rw [hops.out]; kernel_rfl) (by rw [hops.out]; kernel_rfl) (fun _ _ _ h => h) (by assumption) ?_
              try simp only [Act.put, List.setIfInBounds_toArray, List.set_cons_zero, List.set_cons_succ]
              refine take_skip 15 35 (by rw [hops.out]; kernel_rfl) (by rw [hops.out]; kernel_rfl) (by rw [hops.out]; kernel_rfl) (fun _ _ _ h => h) (by assumption) ?_
              try simp only [Act.put, List.setIfInBounds_toArray, List.set_cons_zero, List.set_cons_succ]
              refine take_skip 16 36 (by rw [hops.out]; kernel_rfl) (by rw [hops.out]; kernel_rfl) (by rw [hops.out]; kernel_rfl) (fun _ _ _ h => h) (by assumption) ?_
              try simp only [Act.put, List.setIfInBounds_toArray, List.set_cons_zero, List.set_cons_succ]
              refine take_skip 17 37 (by rw [hops.out]; kernel_rfl) (by rw [hops.out]; kernel_rfl) (by rw [hops.out]; kernel_rfl) (fun _ _ _ h => h) (by assumption) ?_
              try simp only [Act.put, List.setIfInBounds_toArray, List.set_cons_zero, List.set_cons_succ]
              refine take_skip 18 38 (by rw [hops.out]; kernel_rfl) (by rw [hops.out]; kernel_rfl) (by rw [hops.out]; kernel_rfl) (fun _ _ _ h => h) (by assumption) ?_
              try simp only [Act.put, List.setIfInBounds_toArray, List.set_cons_zero, List.set_cons_succ]
              refine take_skip 19 39 (by rw [hops.out]; kernel_rfl) (by rw [hops.out]; kernel_rfl) (by rw [hops.out]; kernel_rfl) (fun _ _ _ h => h) (by assumption) ?_
              try simp only [Act.put, List.setIfInBounds_toArray, List.set_cons_zero, List.set_cons_succ]
              refine take_skip 20 40 (by rw [hops.out]; kernel_rfl) (by rw [hops.out]; kernel_rfl) (by rw [hops.out]; kernel_rfl) (fun _ _ _ h => h) (by assumption) ?_
              try simp only [Act.put, List.setIfInBounds_toArray, List.set_cons_zero, List.set_cons_succ]
              refine take_skip 21 41 (by rw [hops.out]; kernel_rfl) (by rw [hops.out]; kernel_rfl) (by rw [hops.out]; kernel_rfl) (fun _ _ _ h => h) (by assumption) ?_
              try simp only [Act.put, List.setIfInBounds_toArray, List.set_cons_zero, List.set_cons_succ]
              refine take_skip 22 42 (by rw [hops.out]; kernel_rfl) (by rw [hops.out]; kernel_rfl) (by rw [hops.out]; kernel_rfl) (fun _ _ _ h => h) (by assumption) ?_
              try simp only [Act.put, List.setIfInBounds_toArray, List.set_cons_zero, List.set_cons_succ]
              refine take_do 23 (oi := ?_) (v := ?_) ?_ (by rw [hops.out]; kernel_rfl) ?_ ?_ ?_ (by assumption) ?_
              rotate_left 2
              · rw [hops.out]; simp only [List.getElem?_toArray, List.getElem?_cons_succ, List.getElem?_cons_zero]; rfl
              · rw [hops.out]; kernel_rfl
              · intro W hW; (try dsimp only at hW); go_simp <;> with_reducible rfl
              · exact fun _ _ _ h => h
              try simp only [Act.put, List.setIfInBounds_toArray, List.set_cons_zero, List.set_cons_succ]
              refine take_do 24 (oi := ?_) (v := ?_) ?_ (by rw [hops.out]; kernel_rfl) ?_ ?_ ?_ (by assumption) ?_
              rotate_left 2
              · rw [hops.out]; simp only [List.getElem?_toArray, List.getElem?_cons_succ, List.getElem?_cons_zero]; rfl
              · rw [hops.out]; kernel_rfl
              · intro W hW; (try dsimp only at hW); go_simp <;> with_reducible rfl
              · exact fun _ _ _ h => h
              try simp only [Act.put, List.setIfInBounds_toArray, List.set_cons_zero, List.set_cons_succ]
              refine take_do 25 (oi := ?_) (v := ?_) ?_ (by rw [hops.out]; kernel_rfl) ?_ ?_ ?_ (by assumption) ?_
              rotate_left 2
              · rw [hops.out]; simp only [List.getElem?_toArray, List.getElem?_cons_succ, List.getElem?_cons_zero]; rfl
              · rw [hops.out]; kernel_rfl
              · intro W hW; (try dsimp only at hW); go_simp <;> with_reducible rfl
              · exact fun _ _ _ h => h
              try simp only [Act.put, List.setIfInBounds_toArray, List.set_cons_zero, List.set_cons_succ]
              refine wpAnyH_done (by rw [hops.out]; kernel_rfl) ?_ _
              clear hops ops
              go_wp2
              go_roundw
              case rel => exact ⟨k + 1, by omega, by go_num, ⟨0, rfl, by rw [HM.out, ← HHB.out, HS.out]; rfl⟩, hnd.trans (b1.mono hsz)⟩
              case measure => simp [intOf]; omega
            · by_cases hsq : l.1.seq = t.1.seq
              · have hqd : (l.1.seq == t.1.seq) = true := by simpa using hsq
                have HQD := hide hqd
                clear hsq
                go_wp2
                refine wp_region_start (S := (fun W => W.cell? ⟨b, off + k * 8, none⟩ = some (.int .i64 l.1.area) ∧ W.cell? ⟨b, off + k * 8 + 1, none⟩ = some (.int .i64 l.1.kind) ∧ W.cell? ⟨b, off + k * 8 + 2, none⟩ = some (.int .i64 l.1.owner) ∧ W.cell? ⟨b, off + k * 8 + 3, none⟩ = some (.int .i64 l.1.key) ∧ W.cell? ⟨b, off + k * 8 + 4, none⟩ = some (.int .i64 l.1.seq) ∧ W.cell? ⟨b, off + k * 8 + 5, none⟩ = some (l.2) ∧ W.cell? ⟨b, off + k * 8 + 6, none⟩ = some (.int .i64 l.1.cost) ∧ W.cell? ⟨b, off + k * 8 + 7, none⟩ = some (.bool l.1.far) ∧ W.cell? ⟨d, of2 + j * 8, none⟩ = some (.int .i64 t.1.area) ∧ W.cell? ⟨d, of2 + j * 8 + 1, none⟩ = some (.int .i64 t.1.kind) ∧ W.cell? ⟨d, of2 + j * 8 + 2, none⟩ = some (.int .i64 t.1.owner) ∧ W.cell? ⟨d, of2 + j * 8 + 3, none⟩ = some (.int .i64 t.1.key) ∧ W.cell? ⟨d, of2 + j * 8 + 4, none⟩ = some (.int .i64 t.1.seq) ∧ W.cell? ⟨d, of2 + j * 8 + 5, none⟩ = some (t.2) ∧ W.cell? ⟨d, of2 + j * 8 + 6, none⟩ = some (.int .i64 t.1.cost) ∧ W.cell? ⟨d, of2 + j * 8 + 7, none⟩ = some (.bool t.1.far))) (by kernel_rfl) 26 rfl ⟨c0, c1, c2, c3, c4, c5, c6, c7, d0, d1, d2, d3, d4, d5, d6, d7⟩ (fun ops hops hHeld => ?_)
                refine take_do 0 (oi := ?_) (v := ?_) ?_ (by rw [hops.out]; kernel_rfl) ?_ ?_ ?_ (by assumption) ?_
                rotate_left 2
                · rw [hops.out]; simp only [List.getElem?_toArray, List.getElem?_cons_succ, List.getElem?_cons_zero]; rfl
                · rw [hops.out]; kernel_rfl
                · intro W hW; (try dsimp only at hW); go_simp <;> with_reducible rfl
                · exact fun _ _ _ h => h
                try simp only [Act.put, List.setIfInBounds_toArray, List.set_cons_zero, List.set_cons_succ]
                refine take_do 1 (oi := ?_) (v := ?_) ?_ (by rw [hops.out]; kernel_rfl) ?_ ?_ ?_ (by assumption) ?_
                rotate_left 2
                · rw [hops.out]; simp only [List.getElem?_toArray, List.getElem?_cons_succ, List.getElem?_cons_zero]; rfl
                · rw [hops.out]; kernel_rfl
                · intro W hW; (try dsimp only at hW); go_simp <;> with_reducible rfl
                · exact fun _ _ _ h => h
                try simp only [Act.put, List.setIfInBounds_toArray, List.set_cons_zero, List.set_cons_succ]
                refine take_do 2 (oi := ?_) (v := ?_) ?_ (by rw [hops.out]; kernel_rfl) ?_ ?_ ?_ (by assumption) ?_
                rotate_left 2
                · rw [hops.out]; simp only [List.getElem?_toArray, List.getElem?_cons_succ, List.getElem?_cons_zero]; rfl
                · rw [hops.out]; kernel_rfl
                · intro W hW; (try dsimp only at hW); go_simp <;> with_reducible rfl
                · exact fun _ _ _ h => h
                try simp only [Act.put, List.setIfInBounds_toArray, List.set_cons_zero, List.set_cons_succ]
                refine take_do 3 (oi := ?_) (v := ?_) ?_ (by rw [hops.out]; kernel_rfl) ?_ ?_ ?_ (by assumption) ?_
                rotate_left 2
                · rw [hops.out]; simp only [List.getElem?_toArray, List.getElem?_cons_succ, List.getElem?_cons_zero]; rfl
                · rw [hops.out]; kernel_rfl
                · intro W hW; (try dsimp only at hW); go_simp <;> with_reducible rfl
                · exact fun _ _ _ h => h
                try simp only [Act.put, List.setIfInBounds_toArray, List.set_cons_zero, List.set_cons_succ]
                refine take_do 4 (oi := ?_) (v := ?_) ?_ (by rw [hops.out]; kernel_rfl) ?_ ?_ ?_ (by assumption) ?_
                rotate_left 2
                · rw [hops.out]; simp only [List.getElem?_toArray, List.getElem?_cons_succ, List.getElem?_cons_zero]; rfl
                · rw [hops.out]; kernel_rfl
                · intro W hW; (try dsimp only at hW); go_simp <;> with_reducible rfl
                · exact fun _ _ _ h => h
                try simp only [Act.put, List.setIfInBounds_toArray, List.set_cons_zero, List.set_cons_succ]
                refine take_do 5 (oi := ?_) (v := ?_) ?_ (by rw [hops.out]; kernel_rfl) ?_ ?_ ?_ (by assumption) ?_
                rotate_left 2
                · rw [hops.out]; simp only [List.getElem?_toArray, List.getElem?_cons_succ, List.getElem?_cons_zero]; rfl
                · rw [hops.out]; kernel_rfl
                · intro W hW; (try dsimp only at hW); go_simp <;> with_reducible rfl
                · exact fun _ _ _ h => h
                try simp only [Act.put, List.setIfInBounds_toArray, List.set_cons_zero, List.set_cons_succ]
                refine take_do 6 (oi := ?_) (v := ?_) ?_ (by rw [hops.out]; kernel_rfl) ?_ ?_ ?_ (by assumption) ?_
                rotate_left 2
                · rw [hops.out]; simp only [List.getElem?_toArray, List.getElem?_cons_succ, List.getElem?_cons_zero]; rfl
                · rw [hops.out]; kernel_rfl
                · intro W hW; (try dsimp only at hW); go_simp <;> with_reducible rfl
                · exact fun _ _ _ h => h
                try simp only [Act.put, List.setIfInBounds_toArray, List.set_cons_zero, List.set_cons_succ]
                refine take_do 7 (oi := ?_) (v := ?_) ?_ (by rw [hops.out]; kernel_rfl) ?_ ?_ ?_ (by assumption) ?_
                rotate_left 2
                · rw [hops.out]; simp only [List.getElem?_toArray, List.getElem?_cons_succ, List.getElem?_cons_zero]; rfl
                · rw [hops.out]; kernel_rfl
                · intro W hW; (try dsimp only at hW); go_simp <;> with_reducible rfl
                · exact fun _ _ _ h => h
                try simp only [Act.put, List.setIfInBounds_toArray, List.set_cons_zero, List.set_cons_succ]
                refine take_do 8 (oi := ?_) (v := ?_) ?_ (by rw [hops.out]; kernel_rfl) ?_ ?_ ?_ (by assumption) ?_
                rotate_left 2
                · rw [hops.out]; simp only [List.getElem?_toArray, List.getElem?_cons_succ, List.getElem?_cons_zero]; rfl
                · rw [hops.out]; kernel_rfl
                · intro W hW; (try dsimp only at hW); go_simp <;> with_reducible rfl
                · exact fun _ _ _ h => h
                try simp only [Act.put, List.setIfInBounds_toArray, List.set_cons_zero, List.set_cons_succ]
                refine take_do 9 (oi := ?_) (v := ?_) ?_ (by rw [hops.out]; kernel_rfl) ?_ ?_ ?_ (by assumption) ?_
                rotate_left 2
                · rw [hops.out]; simp only [List.getElem?_toArray, List.getElem?_cons_succ, List.getElem?_cons_zero]; rfl
                · rw [hops.out]; kernel_rfl
                · intro W hW; (try dsimp only at hW); go_simp <;> with_reducible rfl
                · exact fun _ _ _ h => h
                try simp only [Act.put, List.setIfInBounds_toArray, List.set_cons_zero, List.set_cons_succ]
                refine take_call 10 (oi := ?_) ?_ (by rw [hops.out]; kernel_rfl) ?_ ?_
                rotate_left 1
                · rw [hops.out]; simp only [List.getElem?_toArray, List.getElem?_cons_succ, List.getElem?_cons_zero]; rfl
                · rw [hops.out]; kernel_rfl
                intro K hK
                go_simp
                refine (HSB.out _ hnd).mono ?_
                rintro e w1 ⟨rfl, b1⟩
                have hSn : _ ∧ _ := (show ((fun W => W.cell? ⟨b, off + k * 8, none⟩ = some (.int .i64 l.1.area) ∧ W.cell? ⟨b, off + k * 8 + 1, none⟩ = some (.int .i64 l.1.kind) ∧ W.cell? ⟨b, off + k * 8 + 2, none⟩ = some (.int .i64 l.1.owner) ∧ W.cell? ⟨b, off + k * 8 + 3, none⟩ = some (.int .i64 l.1.key) ∧ W.cell? ⟨b, off + k * 8 + 4, none⟩ = some (.int .i64 l.1.seq) ∧ W.cell? ⟨b, off + k * 8 + 5, none⟩ = some (l.2) ∧ W.cell? ⟨b, off + k * 8 + 6, none⟩ = some (.int .i64 l.1.cost) ∧ W.cell? ⟨b, off + k * 8 + 7, none⟩ = some (.bool l.1.far) ∧ W.cell? ⟨d, of2 + j * 8, none⟩ = some (.int .i64 t.1.area) ∧ W.cell? ⟨d, of2 + j * 8 + 1, none⟩ = some (.int .i64 t.1.kind) ∧ W.cell? ⟨d, of2 + j * 8 + 2, none⟩ = some (.int .i64 t.1.owner) ∧ W.cell? ⟨d, of2 + j * 8 + 3, none⟩ = some (.int .i64 t.1.key) ∧ W.cell? ⟨d, of2 + j * 8 + 4, none⟩ = some (.int .i64 t.1.seq) ∧ W.cell? ⟨d, of2 + j * 8 + 5, none⟩ = some (t.2) ∧ W.cell? ⟨d, of2 + j * 8 + 6, none⟩ = some (.int .i64 t.1.cost) ∧ W.cell? ⟨d, of2 + j * 8 + 7, none⟩ = some (.bool t.1.far))) w1 from by
                  obtain ⟨m0, m1, m2, m3, m4, m5, m6, m7, m8, m9, m10, m11, m12, m13, m14, m15⟩ := hHeld
                  refine ⟨?_, ?_, ?_, ?_, ?_, ?_, ?_, ?_, ?_, ?_, ?_, ?_, ?_, ?_, ?_, ?_⟩ <;> (refine (b1.cell ?_).trans ?_ <;> assumption))
                refine hK.out _ _ hSn (fun hHeld => ?_)
                clear hK K hSn
                try simp only [Act.put, List.setIfInBounds_toArray, List.set_cons_zero, List.set_cons_succ]
                refine take_do 11 (oi := ?_) (v := ?_) ?_ (by rw [hops.out]; kernel_rfl) ?_ ?_ ?_ (by assumption) ?_
                rotate_left 2
                · rw [hops.out]; simp only [List.getElem?_toArray, List.getElem?_cons_succ, List.getElem?_cons_zero]; rfl
                · rw [hops.out]; kernel_rfl
                · intro W hW; (try dsimp only at hW); go_simp <;> with_reducible rfl
                · exact fun _ _ _ h => h
                try simp only [Act.put, List.setIfInBounds_toArray, List.set_cons_zero, List.set_cons_succ]
                refine take_do 12 (oi := ?_) (v := ?_) ?_ (by rw [hops.out]; kernel_rfl) ?_ ?_ ?_ (by assumption) ?_
                rotate_left 2
                · rw [hops.out]; simp only [List.getElem?_toArray, List.getElem?_cons_succ, List.getElem?_cons_zero]; rfl
                · rw [hops.out]; kernel_rfl
                · intro W hW; (try dsimp only at hW); go_simp <;> with_reducible rfl
                · exact fun _ _ _ h => h
                try simp only [Act.put, List.setIfInBounds_toArray, List.set_cons_zero, List.set_cons_succ]
                refine take_do 13 (oi := ?_) (v := ?_) ?_ (by rw [hops.out]; kernel_rfl) ?_ ?_ ?_ (by assumption) ?_
                rotate_left 2
                · rw [hops.out]; simp only [List.getElem?_toArray, List.getElem?_cons_succ, List.getElem?_cons_zero]; rfl
                · rw [hops.out]; kernel_rfl
                · intro W hW; (try dsimp only at hW); go_simp <;> with_reducible rfl
                · exact fun _ _ _ h => h
                try simp only [Act.put, List.setIfInBounds_toArray, List.set_cons_zero, List.set_cons_succ]
                refine take_do 14 (oi := ?_) (v := ?_) ?_ (by rw [hops.out]; kernel_rfl) ?_ ?_ ?_ (by assumption) ?_
                rotate_left 2
                · rw [hops.out]; simp only [List.getElem?_toArray, List.getElem?_cons_succ, List.getElem?_cons_zero]; rfl
                · rw [hops.out]; kernel_rfl
                · intro W hW; (try dsimp only at hW); go_simp <;> with_reducible rfl
                · exact fun _ _ _ h => h
                try simp only [Act.put, List.setIfInBounds_toArray, List.set_cons_zero, List.set_cons_succ]
                refine take_do 15 (oi := ?_) (v := ?_) ?_ (by rw [hops.out]; kernel_rfl) ?_ ?_ ?_ (by assumption) ?_
                rotate_left 2
                · rw [hops.out]; simp only [List.getElem?_toArray, List.getElem?_cons_succ, List.getElem?_cons_zero]; rfl
                · rw [hops.out]; kernel_rfl
                · intro W hW; (try dsimp only at hW); go_simp <;> with_reducible rfl
                · exact fun _ _ _ h => h
                try simp only [Act.put, List.setIfInBounds_toArray, List.set_cons_zero, List.set_cons_succ]
                refine take_do 16 (oi := ?_) (v := ?_) ?_ (by rw [hops.out]; kernel_rfl) ?_ ?_ ?_ (by assumption) ?_
                rotate_left 2
                · rw [hops.out]; simp only [List.getElem?_toArray, List.getElem?_cons_succ, List.getElem?_cons_zero]; rfl
                · rw [hops.out]; kernel_rfl
                · intro W hW; (try dsimp only at hW); go_simp <;> with_reducible rfl
                · exact fun _ _ _ h => h
                try simp only [Act.put, List.setIfInBounds_toArray, List.set_cons_zero, List.set_cons_succ]
                refine take_do 17 (oi := ?_) (v := ?_) ?_ (by rw [hops.out]; kernel_rfl) ?_ ?_ ?_ (by assumption) ?_
                rotate_left 2
                · rw [hops.out]; simp only [List.getElem?_toArray, List.getElem?_cons_succ, List.getElem?_cons_zero]; rfl
                · rw [hops.out]; kernel_rfl
                · intro W hW; (try dsimp only at hW); go_simp <;> with_reducible rfl
                · exact fun _ _ _ h => h
                try simp only [Act.put, List.setIfInBounds_toArray, List.set_cons_zero, List.set_cons_succ]
                refine take_do 18 (oi := ?_) (v := ?_) ?_ (by rw [hops.out]; kernel_rfl) ?_ ?_ ?_ (by assumption) ?_
                rotate_left 2
                · rw [hops.out]; simp only [List.getElem?_toArray, List.getElem?_cons_succ, List.getElem?_cons_zero]; rfl
                · rw [hops.out]; kernel_rfl
                · intro W hW; (try dsimp only at hW); go_simp <;> with_reducible rfl
                · exact fun _ _ _ h => h
                try simp only [Act.put, List.setIfInBounds_toArray, List.set_cons_zero, List.set_cons_succ]
                refine take_do 19 (oi := ?_) (v := ?_) ?_ (by rw [hops.out]; kernel_rfl) ?_ ?_ ?_ (by assumption) ?_
                rotate_left 2
                · rw [hops.out]; simp only [List.getElem?_toArray, List.getElem?_cons_succ, List.getElem?_cons_zero]; rfl
                · rw [hops.out]; kernel_rfl
                · intro W hW; (try dsimp only at hW); go_simp <;> with_reducible rfl
                · exact fun _ _ _ h => h
                try simp only [Act.put, List.setIfInBounds_toArray, List.set_cons_zero, List.set_cons_succ]
                refine take_do 20 (oi := ?_) (v := ?_) ?_ (by rw [hops.out]; kernel_rfl) ?_ ?_ ?_ (by assumption) ?_
                rotate_left 2
                · rw [hops.out]; simp only [List.getElem?_toArray, List.getElem?_cons_succ, List.getElem?_cons_zero]; rfl
                · rw [hops.out]; kernel_rfl
                · intro W hW; (try dsimp only at hW); go_simp <;> with_reducible rfl
                · exact fun _ _ _ h => h
                try simp only [Act.put, List.setIfInBounds_toArray, List.set_cons_zero, List.set_cons_succ]
                refine take_do 21 (oi := ?_) (v := ?_) ?_ (by rw [hops.out]; kernel_rfl) ?_ ?_ ?_ (by assumption) ?_
                rotate_left 2
                · rw [hops.out]; simp only [List.getElem?_toArray, List.getElem?_cons_succ, List.getElem?_cons_zero]; rfl
                · rw [hops.out]; kernel_rfl
                · intro W hW; (try dsimp only at hW); go_simp <;> with_reducible rfl
                · exact fun _ _ _ h => h
                try simp only [Act.put, List.setIfInBounds_toArray, List.set_cons_zero, List.set_cons_succ]
                refine take_do 22 (oi := ?_) (v := ?_) ?_ (by rw [hops.out]; kernel_rfl) ?_ ?_ ?_ (by assumption) ?_
                rotate_left 2
                · rw [hops.out]; simp only [List.getElem?_toArray, List.getElem?_cons_succ, List.getElem?_cons_zero]; rfl
                · rw [hops.out]; kernel_rfl
                · intro W hW; (try dsimp only at hW); go_simp <;> with_reducible rfl
                · exact fun _ _ _ h => h
                try simp only [Act.put, List.setIfInBounds_toArray, List.set_cons_zero, List.set_cons_succ]
                refine take_do 23 (oi := ?_) (v := ?_) ?_ (by rw [hops.out]; kernel_rfl) ?_ ?_ ?_ (by assumption) ?_
                rotate_left 2
                · rw [hops.out]; simp only [List.getElem?_toArray, List.getElem?_cons_succ, List.getElem?_cons_zero]; rfl
                · rw [hops.out]; kernel_rfl
                · intro W hW; (try dsimp only at hW); go_simp <;> with_reducible rfl
                · exact fun _ _ _ h => h
                try simp only [Act.put, List.setIfInBounds_toArray, List.set_cons_zero, List.set_cons_succ]
                refine take_do 24 (oi := ?_) (v := ?_) ?_ (by rw [hops.out]; kernel_rfl) ?_ ?_ ?_ (by assumption) ?_
                rotate_left 2
                · rw [hops.out]; simp only [List.getElem?_toArray, List.getElem?_cons_succ, List.getElem?_cons_zero]; rfl
                · rw [hops.out]; kernel_rfl
                · intro W hW; (try dsimp only at hW); go_simp <;> with_reducible rfl
                · exact fun _ _ _ h => h
                try simp only [Act.put, List.setIfInBounds_toArray, List.set_cons_zero, List.set_cons_succ]
                refine take_do 25 (oi := ?_) (v := ?_) ?_ (by rw [hops.out]; kernel_rfl) ?_ ?_ ?_ (by assumption) ?_
                rotate_left 2
                · rw [hops.out]; simp only [List.getElem?_toArray, List.getElem?_cons_succ, List.getElem?_cons_zero]; rfl
                · rw [hops.out]; kernel_rfl
                · intro W hW; (try dsimp only at hW); go_simp <;> with_reducible rfl
                · exact fun _ _ _ h => h
                try simp only [Act.put, List.setIfInBounds_toArray, List.set_cons_zero, List.set_cons_succ]
                refine wpAnyH_done (by rw [hops.out]; kernel_rfl) ?_ _
                clear hops ops
                go_wp2
                go_roundw
                case rel => exact ⟨k + 1, by omega, by go_num, ⟨1, rfl, by rw [HM.out, ← HHB.out, HS.out, HQD.out]; rfl⟩, hnd.trans (b1.mono hsz)⟩
                case measure => simp [intOf]; omega
              · have hqd : (l.1.seq == t.1.seq) = false := by simpa using hsq
                have HQD := hide hqd
                clear hsq
                go_wp2
                refine wp_region_start (S := (fun W => W.cell? ⟨b, off + k * 8, none⟩ = some (.int .i64 l.1.area) ∧ W.cell? ⟨b, off + k * 8 + 1, none⟩ = some (.int .i64 l.1.kind) ∧ W.cell? ⟨b, off + k * 8 + 2, none⟩ = some (.int .i64 l.1.owner) ∧ W.cell? ⟨b, off + k * 8 + 3, none⟩ = some (.int .i64 l.1.key) ∧ W.cell? ⟨b, off + k * 8 + 4, none⟩ = some (.int .i64 l.1.seq) ∧ W.cell? ⟨b, off + k * 8 + 5, none⟩ = some (l.2) ∧ W.cell? ⟨b, off + k * 8 + 6, none⟩ = some (.int .i64 l.1.cost) ∧ W.cell? ⟨b, off + k * 8 + 7, none⟩ = some (.bool l.1.far) ∧ W.cell? ⟨d, of2 + j * 8, none⟩ = some (.int .i64 t.1.area) ∧ W.cell? ⟨d, of2 + j * 8 + 1, none⟩ = some (.int .i64 t.1.kind) ∧ W.cell? ⟨d, of2 + j * 8 + 2, none⟩ = some (.int .i64 t.1.owner) ∧ W.cell? ⟨d, of2 + j * 8 + 3, none⟩ = some (.int .i64 t.1.key) ∧ W.cell? ⟨d, of2 + j * 8 + 4, none⟩ = some (.int .i64 t.1.seq) ∧ W.cell? ⟨d, of2 + j * 8 + 5, none⟩ = some (t.2) ∧ W.cell? ⟨d, of2 + j * 8 + 6, none⟩ = some (.int .i64 t.1.cost) ∧ W.cell? ⟨d, of2 + j * 8 + 7, none⟩ = some (.bool t.1.far))) (by kernel_rfl) 26 rfl ⟨c0, c1, c2, c3, c4, c5, c6, c7, d0, d1, d2, d3, d4, d5, d6, d7⟩ (fun ops hops hHeld => ?_)
                refine take_do 0 (oi := ?_) (v := ?_) ?_ (by rw [hops.out]; kernel_rfl) ?_ ?_ ?_ (by assumption) ?_
                rotate_left 2
                · rw [hops.out]; simp only [List.getElem?_toArray, List.getElem?_cons_succ, List.getElem?_cons_zero]; rfl
                · rw [hops.out]; kernel_rfl
                · intro W hW; (try dsimp only at hW); go_simp <;> with_reducible rfl
                · exact fun _ _ _ h => h
                try simp only [Act.put, List.setIfInBounds_toArray, List.set_cons_zero, List.set_cons_succ]
                refine take_do 1 (oi := ?_) (v := ?_) ?_ (by rw [hops.out]; kernel_rfl) ?_ ?_ ?_ (by assumption) ?_
                rotate_left 2
                · rw [hops.out]; simp only [List.getElem?_toArray, List.getElem?_cons_succ, List.getElem?_cons_zero]; rfl
                · rw [hops.out]; kernel_rfl
                · intro W hW; (try dsimp only at hW); go_simp <;> with_reducible rfl
                · exact fun _ _ _ h => h
                try simp only [Act.put, List.setIfInBounds_toArray, List.set_cons_zero, List.set_cons_succ]
                refine take_do 2 (oi := ?_) (v := ?_) ?_ (by rw [hops.out]; kernel_rfl) ?_ ?_ ?_ (by assumption) ?_
                rotate_left 2
                · rw [hops.out]; simp only [List.getElem?_toArray, List.getElem?_cons_succ, List.getElem?_cons_zero]; rfl
                · rw [hops.out]; kernel_rfl
                · intro W hW; (try dsimp only at hW); go_simp <;> with_reducible rfl
                · exact fun _ _ _ h => h
                try simp only [Act.put, List.setIfInBounds_toArray, List.set_cons_zero, List.set_cons_succ]
                refine take_do 3 (oi := ?_) (v := ?_) ?_ (by rw [hops.out]; kernel_rfl) ?_ ?_ ?_ (by assumption) ?_
                rotate_left 2
                · rw [hops.out]; simp only [List.getElem?_toArray, List.getElem?_cons_succ, List.getElem?_cons_zero]; rfl
                · rw [hops.out]; kernel_rfl
                · intro W hW; (try dsimp only at hW); go_simp <;> with_reducible rfl
                · exact fun _ _ _ h => h
                try simp only [Act.put, List.setIfInBounds_toArray, List.set_cons_zero, List.set_cons_succ]
                refine take_do 4 (oi := ?_) (v := ?_) ?_ (by rw [hops.out]; kernel_rfl) ?_ ?_ ?_ (by assumption) ?_
                rotate_left 2
                · rw [hops.out]; simp only [List.getElem?_toArray, List.getElem?_cons_succ, List.getElem?_cons_zero]; rfl
                · rw [hops.out]; kernel_rfl
                · intro W hW; (try dsimp only at hW); go_simp <;> with_reducible rfl
                · exact fun _ _ _ h => h
                try simp only [Act.put, List.setIfInBounds_toArray, List.set_cons_zero, List.set_cons_succ]
                refine take_do 5 (oi := ?_) (v := ?_) ?_ (by rw [hops.out]; kernel_rfl) ?_ ?_ ?_ (by assumption) ?_
                rotate_left 2
                · rw [hops.out]; simp only [List.getElem?_toArray, List.getElem?_cons_succ, List.getElem?_cons_zero]; rfl
                · rw [hops.out]; kernel_rfl
                · intro W hW; (try dsimp only at hW); go_simp <;> with_reducible rfl
                · exact fun _ _ _ h => h
                try simp only [Act.put, List.setIfInBounds_toArray, List.set_cons_zero, List.set_cons_succ]
                refine take_do 6 (oi := ?_) (v := ?_) ?_ (by rw [hops.out]; kernel_rfl) ?_ ?_ ?_ (by assumption) ?_
                rotate_left 2
                · rw [hops.out]; simp only [List.getElem?_toArray, List.getElem?_cons_succ, List.getElem?_cons_zero]; rfl
                · rw [hops.out]; kernel_rfl
                · intro W hW; (try dsimp only at hW); go_simp <;> with_reducible rfl
                · exact fun _ _ _ h => h
                try simp only [Act.put, List.setIfInBounds_toArray, List.set_cons_zero, List.set_cons_succ]
                refine take_do 7 (oi := ?_) (v := ?_) ?_ (by rw [hops.out]; kernel_rfl) ?_ ?_ ?_ (by assumption) ?_
                rotate_left 2
                · rw [hops.out]; simp only [List.getElem?_toArray, List.getElem?_cons_succ, List.getElem?_cons_zero]; rfl
                · rw [hops.out]; kernel_rfl
                · intro W hW; (try dsimp only at hW); go_simp <;> with_reducible rfl
                · exact fun _ _ _ h => h
                try simp only [Act.put, List.setIfInBounds_toArray, List.set_cons_zero, List.set_cons_succ]
                refine take_do 8 (oi := ?_) (v := ?_) ?_ (by rw [hops.out]; kernel_rfl) ?_ ?_ ?_ (by assumption) ?_
                rotate_left 2
                · rw [hops.out]; simp only [List.getElem?_toArray, List.getElem?_cons_succ, List.getElem?_cons_zero]; rfl
                · rw [hops.out]; kernel_rfl
                · intro W hW; (try dsimp only at hW); go_simp <;> with_reducible rfl
                · exact fun _ _ _ h => h
                try simp only [Act.put, List.setIfInBounds_toArray, List.set_cons_zero, List.set_cons_succ]
                refine take_do 9 (oi := ?_) (v := ?_) ?_ (by rw [hops.out]; kernel_rfl) ?_ ?_ ?_ (by assumption) ?_
                rotate_left 2
                · rw [hops.out]; simp only [List.getElem?_toArray, List.getElem?_cons_succ, List.getElem?_cons_zero]; rfl
                · rw [hops.out]; kernel_rfl
                · intro W hW; (try dsimp only at hW); go_simp <;> with_reducible rfl
                · exact fun _ _ _ h => h
                try simp only [Act.put, List.setIfInBounds_toArray, List.set_cons_zero, List.set_cons_succ]
                refine take_call 10 (oi := ?_) ?_ (by rw [hops.out]; kernel_rfl) ?_ ?_
                rotate_left 1
                · rw [hops.out]; simp only [List.getElem?_toArray, List.getElem?_cons_succ, List.getElem?_cons_zero]; rfl
                · rw [hops.out]; kernel_rfl
                intro K hK
                go_simp
                refine (HSB.out _ hnd).mono ?_
                rintro e w1 ⟨rfl, b1⟩
                have hSn : _ ∧ _ := (show ((fun W => W.cell? ⟨b, off + k * 8, none⟩ = some (.int .i64 l.1.area) ∧ W.cell? ⟨b, off + k * 8 + 1, none⟩ = some (.int .i64 l.1.kind) ∧ W.cell? ⟨b, off + k * 8 + 2, none⟩ = some (.int .i64 l.1.owner) ∧ W.cell? ⟨b, off + k * 8 + 3, none⟩ = some (.int .i64 l.1.key) ∧ W.cell? ⟨b, off + k * 8 + 4, none⟩ = some (.int .i64 l.1.seq) ∧ W.cell? ⟨b, off + k * 8 + 5, none⟩ = some (l.2) ∧ W.cell? ⟨b, off + k * 8 + 6, none⟩ = some (.int .i64 l.1.cost) ∧ W.cell? ⟨b, off + k * 8 + 7, none⟩ = some (.bool l.1.far) ∧ W.cell? ⟨d, of2 + j * 8, none⟩ = some (.int .i64 t.1.area) ∧ W.cell? ⟨d, of2 + j * 8 + 1, none⟩ = some (.int .i64 t.1.kind) ∧ W.cell? ⟨d, of2 + j * 8 + 2, none⟩ = some (.int .i64 t.1.owner) ∧ W.cell? ⟨d, of2 + j * 8 + 3, none⟩ = some (.int .i64 t.1.key) ∧ W.cell? ⟨d, of2 + j * 8 + 4, none⟩ = some (.int .i64 t.1.seq) ∧ W.cell? ⟨d, of2 + j * 8 + 5, none⟩ = some (t.2) ∧ W.cell? ⟨d, of2 + j * 8 + 6, none⟩ = some (.int .i64 t.1.cost) ∧ W.cell? ⟨d, of2 + j * 8 + 7, none⟩ = some (.bool t.1.far))) w1 from by
                  obtain ⟨m0, m1, m2, m3, m4, m5, m6, m7, m8, m9, m10, m11, m12, m13, m14, m15⟩ := hHeld
                  refine ⟨?_, ?_, ?_, ?_, ?_, ?_, ?_, ?_, ?_, ?_, ?_, ?_, ?_, ?_, ?_, ?_⟩ <;> (refine (b1.cell ?_).trans ?_ <;> assumption))
                refine hK.out _ _ hSn (fun hHeld => ?_)
                clear hK K hSn
                try simp only [Act.put, List.setIfInBounds_toArray, List.set_cons_zero, List.set_cons_succ]
                refine take_do 11 (oi := ?_) (v := ?_) ?_ (by rw [hops.out]; kernel_rfl) ?_ ?_ ?_ (by assumption) ?_
                rotate_left 2
                · rw [hops.out]; simp only [List.getElem?_toArray, List.getElem?_cons_succ, List.getElem?_cons_zero]; rfl
                · rw [hops.out]; kernel_rfl
                · intro W hW; (try dsimp only at hW); go_simp <;> with_reducible rfl
                · exact fun _ _ _ h => h
                try simp only [Act.put, List.setIfInBounds_toArray, List.set_cons_zero, List.set_cons_succ]
                refine take_do 12 (oi := ?_) (v := ?_) ?_ (by rw [hops.out]; kernel_rfl) ?_ ?_ ?_ (by assumption) ?_
                rotate_left 2
                · rw [hops.out]; simp only [List.getElem?_toArray, List.getElem?_cons_succ, List.getElem?_cons_zero]; rfl
                · rw [hops.out]; kernel_rfl
                · intro W hW; (try dsimp only at hW); go_simp <;> with_reducible rfl
                · exact fun _ _ _ h => h
                try simp only [Act.put, List.setIfInBounds_toArray, List.set_cons_zero, List.set_cons_succ]
                refine take_do 13 (oi := ?_) (v := ?_) ?_ (by rw [hops.out]; kernel_rfl) ?_ ?_ ?_ (by assumption) ?_
                rotate_left 2
                · rw [hops.out]; simp only [List.getElem?_toArray, List.getElem?_cons_succ, List.getElem?_cons_zero]; rfl
                · rw [hops.out]; kernel_rfl
                · intro W hW; (try dsimp only at hW); go_simp <;> with_reducible rfl
                · exact fun _ _ _ h => h
                try simp only [Act.put, List.setIfInBounds_toArray, List.set_cons_zero, List.set_cons_succ]
                refine take_do 14 (oi := ?_) (v := ?_) ?_ (by rw [hops.out]; kernel_rfl) ?_ ?_ ?_ (by assumption) ?_
                rotate_left 2
                · rw [hops.out]; simp only [List.getElem?_toArray, List.getElem?_cons_succ, List.getElem?_cons_zero]; rfl
                · rw [hops.out]; kernel_rfl
                · intro W hW; (try dsimp only at hW); go_simp <;> with_reducible rfl
                · exact fun _ _ _ h => h
                try simp only [Act.put, List.setIfInBounds_toArray, List.set_cons_zero, List.set_cons_succ]
                refine take_do 15 (oi := ?_) (v := ?_) ?_ (by rw [hops.out]; kernel_rfl) ?_ ?_ ?_ (by assumption) ?_
                rotate_left 2
                · rw [hops.out]; simp only [List.getElem?_toArray, List.getElem?_cons_succ, List.getElem?_cons_zero]; rfl
                · rw [hops.out]; kernel_rfl
                · intro W hW; (try dsimp only at hW); go_simp <;> with_reducible rfl
                · exact fun _ _ _ h => h
                try simp only [Act.put, List.setIfInBounds_toArray, List.set_cons_zero, List.set_cons_succ]
                refine take_do 16 (oi := ?_) (v := ?_) ?_ (by rw [hops.out]; kernel_rfl) ?_ ?_ ?_ (by assumption) ?_
                rotate_left 2
                · rw [hops.out]; simp only [List.getElem?_toArray, List.getElem?_cons_succ, List.getElem?_cons_zero]; rfl
                · rw [hops.out]; kernel_rfl
                · intro W hW; (try dsimp only at hW); go_simp <;> with_reducible rfl
                · exact fun _ _ _ h => h
                try simp only [Act.put, List.setIfInBounds_toArray, List.set_cons_zero, List.set_cons_succ]
                refine take_do 17 (oi := ?_) (v := ?_) ?_ (by rw [hops.out]; kernel_rfl) ?_ ?_ ?_ (by assumption) ?_
                rotate_left 2
                · rw [hops.out]; simp only [List.getElem?_toArray, List.getElem?_cons_succ, List.getElem?_cons_zero]; rfl
                · rw [hops.out]; kernel_rfl
                · intro W hW; (try dsimp only at hW); go_simp <;> with_reducible rfl
                · exact fun _ _ _ h => h
                try simp only [Act.put, List.setIfInBounds_toArray, List.set_cons_zero, List.set_cons_succ]
                refine take_do 18 (oi := ?_) (v := ?_) ?_ (by rw [hops.out]; kernel_rfl) ?_ ?_ ?_ (by assumption) ?_
                rotate_left 2
                · rw [hops.out]; simp only [List.getElem?_toArray, List.getElem?_cons_succ, List.getElem?_cons_zero]; rfl
                · rw [hops.out]; kernel_rfl
                · intro W hW; (try dsimp only at hW); go_simp <;> with_reducible rfl
                · exact fun _ _ _ h => h
                try simp only [Act.put, List.setIfInBounds_toArray, List.set_cons_zero, List.set_cons_succ]
                refine take_do 19 (oi := ?_) (v := ?_) ?_ (by rw [hops.out]; kernel_rfl) ?_ ?_ ?_ (by assumption) ?_
                rotate_left 2
                · rw [hops.out]; simp only [List.getElem?_toArray, List.getElem?_cons_succ, List.getElem?_cons_zero]; rfl
                · rw [hops.out]; kernel_rfl
                · intro W hW; (try dsimp only at hW); go_simp <;> with_reducible rfl
                · exact fun _ _ _ h => h
                try simp only [Act.put, List.setIfInBounds_toArray, List.set_cons_zero, List.set_cons_succ]
                refine take_do 20 (oi := ?_) (v := ?_) ?_ (by rw [hops.out]; kernel_rfl) ?_ ?_ ?_ (by assumption) ?_
                rotate_left 2
                · rw [hops.out]; simp only [List.getElem?_toArray, List.getElem?_cons_succ, List.getElem?_cons_zero]; rfl
                · rw [hops.out]; kernel_rfl
                · intro W hW; (try dsimp only at hW); go_simp <;> with_reducible rfl
                · exact fun _ _ _ h => h
                try simp only [Act.put, List.setIfInBounds_toArray, List.set_cons_zero, List.set_cons_succ]
                refine take_do 21 (oi := ?_) (v := ?_) ?_ (by rw [hops.out]; kernel_rfl) ?_ ?_ ?_ (by assumption) ?_
                rotate_left 2
                · rw [hops.out]; simp only [List.getElem?_toArray, List.getElem?_cons_succ, List.getElem?_cons_zero]; rfl
                · rw [hops.out]; kernel_rfl
                · intro W hW; (try dsimp only at hW); go_simp <;> with_reducible rfl
                · exact fun _ _ _ h => h
                try simp only [Act.put, List.setIfInBounds_toArray, List.set_cons_zero, List.set_cons_succ]
                refine take_do 22 (oi := ?_) (v := ?_) ?_ (by rw [hops.out]; kernel_rfl) ?_ ?_ ?_ (by assumption) ?_
                rotate_left 2
                · rw [hops.out]; simp only [List.getElem?_toArray, List.getElem?_cons_succ, List.getElem?_cons_zero]; rfl
                · rw [hops.out]; kernel_rfl
                · intro W hW; (try dsimp only at hW); go_simp <;> with_reducible rfl
                · exact fun _ _ _ h => h
                try simp only [Act.put, List.setIfInBounds_toArray, List.set_cons_zero, List.set_cons_succ]
                refine take_do 23 (oi := ?_) (v := ?_) ?_ (by rw [hops.out]; kernel_rfl) ?_ ?_ ?_ (by assumption) ?_
                rotate_left 2
                · rw [hops.out]; simp only [List.getElem?_toArray, List.getElem?_cons_succ, List.getElem?_cons_zero]; rfl
                · rw [hops.out]; kernel_rfl
                · intro W hW; (try dsimp only at hW); go_simp <;> with_reducible rfl
                · exact fun _ _ _ h => h
                try simp only [Act.put, List.setIfInBounds_toArray, List.set_cons_zero, List.set_cons_succ]
                refine take_do 24 (oi := ?_) (v := ?_) ?_ (by rw [hops.out]; kernel_rfl) ?_ ?_ ?_ (by assumption) ?_
                rotate_left 2
                · rw [hops.out]; simp only [List.getElem?_toArray, List.getElem?_cons_succ, List.getElem?_cons_zero]; rfl
                · rw [hops.out]; kernel_rfl
                · intro W hW; (try dsimp only at hW); go_simp <;> with_reducible rfl
                · exact fun _ _ _ h => h
                try simp only [Act.put, List.setIfInBounds_toArray, List.set_cons_zero, List.set_cons_succ]
                refine take_do 25 (oi := ?_) (v := ?_) ?_ (by rw [hops.out]; kernel_rfl) ?_ ?_ ?_ (by assumption) ?_
                rotate_left 2
                · rw [hops.out]; simp only [List.getElem?_toArray, List.getElem?_cons_succ, List.getElem?_cons_zero]; rfl
                · rw [hops.out]; kernel_rfl
                · intro W hW; (try dsimp only at hW); go_simp <;> with_reducible rfl
                · exact fun _ _ _ h => h
                try simp only [Act.put, List.setIfInBounds_toArray, List.set_cons_zero, List.set_cons_succ]
                refine wpAnyH_done (by rw [hops.out]; kernel_rfl) ?_ _
                clear hops ops
                go_wp2
                go_roundw
                case rel => exact ⟨k + 1, by omega, by go_num, ⟨0, rfl, by rw [HM.out, ← HHB.out, HS.out, HQD.out]; rfl⟩, hnd.trans (b1.mono hsz)⟩
                case measure => simp [intOf]; omega
        · have hfin : decide (hb = 1) = q := by
            rw [HHB.out, HQ.out, show k = (fsts ps).length by rw [HFP.out]; omega, List.take_length]
            rfl
          rw [hfin]
          clear hfin HHB
          cases q
          · have HF := hide (HR.out.trans (HY.out (by trivial)))
            go_wp2
            go_ret
            exact ⟨ret_bool HF.out, hny⟩
          · go_wp2
            go_roundw
            case rel => exact ⟨j + 1, by omega, by go_num, by rw [HN.out, HALL.out]; rfl, hny⟩
            case measure => simp [intOf]; omega
    · have HA := hide (show R = true by
        have h := HALL.out
        rw [show j = (fsts qs).length by rw [HFL.out]; omega, List.take_length] at h
        exact HR.out.trans h)
      go_wp2
      go_ret
      exact ⟨ret_bool HA.out, hnx⟩
end Go.Proofs.Ythgihhngddhejaa
