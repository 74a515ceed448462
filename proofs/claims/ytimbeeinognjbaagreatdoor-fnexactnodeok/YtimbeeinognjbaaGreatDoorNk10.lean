/-
  spec.l08Heard: its contract.
  spec.StoreOk: its contract.
  spec.SelfOk: its contract.
-/
import Derived.Test.YtimbeeinognjbaaGreatDoorNk4
import Derived.Test.YtimbeeinognjbaaGreatDoorNk1
import Derived.Test.YtimbeeinognjbaaGreatDoorNk3
import Derived.Deep.RegionHeld3
import Derived.Test.YtimbeeinognjbaaGreatDoorNk8
import Derived.Test.YtimbeeinognjbaaGreatDoorNk5
import Derived.Test.YtimbeeinognjbaaGreatDoorNk9
namespace Go.Proofs.YtimbeeinognjbaaGreatDoor
open Go.RowKit

set_option linter.unusedSimpArgs false

/-- what spec's l08Heard answers -/
def heardSB (ls : List Lk) (id : Int) (h : List Int) : Bool := decide (h.length % 2 = 0) && (decide (h.length ≤ 60) && ((pairsOf h).all (hitP ls id) && ascB ordH (pairsOf h)))

theorem heardSB_eq {x : NetD} {id : Int} {h : List Int} (hn : netOkI x = true) : heardSB x.ls id h = heardB x.ls id h := by
  cases e : heardB x.ls id h with
  | true =>
    have hl := heard_short hn e
    unfold heardB at e
    unfold heardSB
    simp only [Bool.and_eq_true] at e
    rw [e.1, e.2.1, e.2.2, decide_eq_true hl]
    rfl
  | false =>
    unfold heardB at e
    unfold heardSB
    cases h1 : decide (h.length % 2 = 0) <;> cases h2 : (pairsOf h).all (hitP x.ls id) <;> cases h3 : ascB ordH (pairsOf h) <;> simp_all

theorem asc_all {L : List (Int × Int)} (h : ∀ j, j < L.length → ascAt ordH L j = true) : ascB ordH L = true := all_true h

set_option maxRecDepth 100000 in
set_option maxHeartbeats 4000000 in
theorem sheard_any (v1 v2 v3 v4 : Value) (x : SelfD) (ps : List RP) (w : World) (hl : x.net.ls.length ≤ 1048576) (hh : x.heard.length ≤ 1048576) (hv : SelfIn w v1 v2 v3 v4 x ps w.heap.size) :
    Calls Tryz.prog 44 #[selfV x v1 v2 v3 v4] w fun e w' => e = .returned (.bool (heardSB x.net.ls x.id x.heard)) ∧ Below w.heap.size w w' := by
  obtain ⟨a1, c1, rfl⟩ := hv.links.shape
  obtain ⟨a2, c2, rfl⟩ := hv.things.shape
  obtain ⟨a3, c3, rfl⟩ := hv.heard.shape
  obtain ⟨a4, c4, rfl⟩ := hv.store.shape
  have HX := hide hv
  have HPL := hide (pairs_len x.heard)
  clear hv
  obtain ⟨H, hH⟩ : ∃ H, H = heardSB x.net.ls x.id x.heard := ⟨_, rfl⟩
  rw [← hH]
  have HH := hide hH
  clear hH
  have BA : Below w.heap.size w (w.alloc (.cells #[.int .i64 x.id, .int .i64 x.boot, .int .i64 x.net.n, .slice a1 x.net.ls.length c1, .slice a2 x.net.ts.length c2, .slice a3 x.heard.length c3, .slice a4 ps.length c4] 41)) := (Below.refl _ _).alloc (Nat.le_refl _) _
  have g0 := heap_alloc_new w (.cells #[.int .i64 x.id, .int .i64 x.boot, .int .i64 x.net.n, .slice a1 x.net.ls.length c1, .slice a2 x.net.ts.length c2, .slice a3 x.heard.length c3, .slice a4 ps.length c4] 41)
  have G0 := hide g0
  clear g0
  by_cases hodd : x.heard.length % 2 = 0
  case neg =>
    have hp1 : (x.heard.length : Int) % 2 = 1 := by omega
    have HF := hide (show H = false by rw [HH.out]; unfold heardSB; rw [decide_eq_false hodd]; rfl)
    clear hodd
    go_enter Tryz.func44, Tryz.ntmps44
    go_wp2
    go_ret
    exact ⟨ret_bool HF.out, BA⟩
  have hp1 : ¬ (x.heard.length : Int) % 2 = 1 := by omega
  by_cases h60 : x.heard.length ≤ 60
  case neg =>
    have hp2 : ¬ (x.heard.length : Int) ≤ 60 := by omega
    have HF := hide (show H = false by rw [HH.out]; unfold heardSB; rw [decide_eq_false h60]; simp)
    clear hodd h60
    go_enter Tryz.func44, Tryz.ntmps44
    go_wp2
    go_ret
    exact ⟨ret_bool HF.out, BA⟩
  have hp2 : (x.heard.length : Int) ≤ 60 := by omega
  obtain ⟨L, hL⟩ : ∃ L, L = pairsOf x.heard := ⟨_, rfl⟩
  have HH2 := hide (show H = (L.all (hitP x.net.ls x.id) && ascB ordH L) by rw [HH.out]; unfold heardSB; rw [decide_eq_true hodd, decide_eq_true h60, ← hL]; rfl)
  have HLL := hide (show 2 * L.length = x.heard.length by rw [hL, HPL.out]; omega)
  have HL := hide hL
  clear hL hodd h60
  have hp3 : ((x.heard.length : Int) % 2 == 1) = false := by simpa using hp1
  have hp4 : decide ((60 : Int) < (x.heard.length : Int)) = false := decide_eq_false (by omega)
  go_enter Tryz.func44, Tryz.ntmps44
  go_wp2
  obtain ⟨w1, hw1⟩ : ∃ W, W = w.alloc (.cells #[.int .i64 x.id, .int .i64 x.boot, .int .i64 x.net.n, .slice a1 x.net.ls.length c1, .slice a2 x.net.ts.length c2, .slice a3 x.heard.length c3, .slice a4 ps.length c4] 41) := ⟨_, rfl⟩
  rw [← hw1] at BA G0
  first
    | rw [← hw1]
    | skip
  clear hw1
  go_loopw [3] (fun i wr => ∃ k : Nat, k ≤ L.length ∧ i = .int .i64 (2 * (k : Int)) ∧ Hid (∀ j, j < k → okAt (hitP x.net.ls x.id) L j = true ∧ ascAt ordH L j = true) ∧ Below w1.heap.size w1 wr) (fun i _ => 70 - (intOf i).toNat)
  case atStart => exact ⟨0, by omega, rfl, hide (by omega), Below.refl _ _⟩
  case round =>
    obtain ⟨k, hk, rfl, HNO, hb⟩ := hrel
    have gr := (hb.block _ (lt_of_heap G0.out)).trans G0.out
    have B2 : Below w.heap.size w wr := BA.trans (hb.mono BA.size)
    have t0 := cells_at gr 0
    have t2 := cells_at gr 2
    have t3 := cells_at gr 3
    have t4 := cells_at gr 4
    have t5 := cells_at gr 5
    simp at t0 t2 t3 t4 t5
    have hgl := lt_of_heap gr
    have GR := hide gr
    clear gr
    by_cases hlt : k < L.length
    · have hll := HLL.out
      have hj0 : 2 * (k : Int) < (x.heard.length : Int) := by omega
      have hj1 : 2 * (k : Int) + 1 < (x.heard.length : Int) := by omega
      obtain ⟨y, hy⟩ : ∃ y, x.heard[2 * k]? = some y := ⟨x.heard[2 * k]'(by omega), List.getElem?_eq_getElem (by omega)⟩
      obtain ⟨z, hz⟩ : ∃ z, x.heard[2 * k + 1]? = some z := ⟨x.heard[2 * k + 1]'(by omega), List.getElem?_eq_getElem (by omega)⟩
      have hLk : L[k]? = some (y, z) := by rw [HL.out]; exact pairs_at _ _ _ _ hy hz
      obtain ⟨b, off, cap', hve, hbb, d0⟩ := HX.out.heard.cell (2 * k) y hy
      cases hve
      obtain ⟨b', off', cap2, hve2, hbb2, d1⟩ := HX.out.heard.cell (2 * k + 1) z hz
      cases hve2
      rw [← B2.cell (p := ⟨b, off + 2 * k, none⟩) hbb] at d0
      rw [← B2.cell (p := ⟨b, off + (2 * k + 1), none⟩) hbb] at d1
      have q0 : (0 : Int) ≤ 2 * (k : Int) := by omega
      have q1 : (0 : Int) ≤ 2 * (k : Int) + 1 := by omega
      have q4 : (2 * (k : Int)).toNat = 2 * k := by omega
      have q5 : (2 * (k : Int) + 1).toNat = 2 * k + 1 := by omega
      have q6 : IntKind.i64.wrap (2 * (k : Int) + 1) = 2 * (k : Int) + 1 := wrap_fit _ (by omega) (by omega)
      have HC := hide (scost_any (.int .i64 x.net.n) (.slice a1 x.net.ls.length c1) (.slice a2 x.net.ts.length c2) x.net.ls x.id y z wr hl (RowAt.then HX.out.links B2))
      obtain ⟨C, hC⟩ : ∃ C, C = costN x.net.ls x.id y z := ⟨_, rfl⟩
      rw [← hC] at HC
      have HOK := hide (show okAt (hitP x.net.ls x.id) L k = !(C == 0) by rw [okAt_eq hLk, hC]; rfl)
      have HLK := hide hLk
      clear hC hy hz hll hLk
      go_wp2_with fail
      refine HC.out.mono ?_
      rintro e w3 ⟨rfl, b3⟩
      have hbs := hb.size
      have B3 : Below w1.heap.size w1 w3 := hb.trans (b3.mono hbs)
      have B4 : Below w.heap.size w w3 := BA.trans (B3.mono BA.size)
      have g3 := (b3.block _ hgl).trans GR.out
      clear HC t0 t2 t3 t4 t5 d0 d1
      have t5 := cells_at g3 5
      simp at t5
      clear g3
      by_cases hc0 : C = 0
      · have HF := hide (show H = false by
          rw [HH2.out]
          have : L.all (hitP x.net.ls x.id) = false := by
            rw [List.all_eq_false]
            refine ⟨L[k], List.getElem_mem hlt, ?_⟩
            have h := HOK.out
            rw [okAt_eq (List.getElem?_eq_getElem hlt), hc0] at h
            rw [h]
            simp
          rw [this, Bool.false_and])
        subst hc0
        go_wp2
        go_ret
        exact ⟨ret_bool HF.out, B4⟩
      · have HT := hide (show okAt (hitP x.net.ls x.id) L k = true by rw [HOK.out]; simpa using hc0)
        rcases (show k = 0 ∨ ∃ m, k = m + 1 by cases k with
          | zero => exact .inl rfl
          | succ m => exact .inr ⟨m, rfl⟩) with hk0 | ⟨m, hm⟩
        · have HA0 := hide (show ∀ j, j < k + 1 → okAt (hitP x.net.ls x.id) L j = true ∧ ascAt ordH L j = true from fun j hj => by
            obtain rfl : j = 0 := by omega
            refine ⟨?_, rfl⟩
            have h := HT.out
            rw [hk0] at h
            exact h)
          have hnk : ¬ (0 : Int) < 2 * (k : Int) := by omega
          clear hk0
          go_wp2
          go_roundw
          case rel => exact ⟨k + 1, by omega, by go_num, HA0, B3⟩
          case measure => simp [intOf]; omega
        · have hll := HLL.out
          obtain ⟨p, hp⟩ : ∃ p, x.heard[2 * m]? = some p := ⟨x.heard[2 * m]'(by omega), List.getElem?_eq_getElem (by omega)⟩
          obtain ⟨q, hq⟩ : ∃ q, x.heard[2 * m + 1]? = some q := ⟨x.heard[2 * m + 1]'(by omega), List.getElem?_eq_getElem (by omega)⟩
          have hLm : L[m]? = some (p, q) := by rw [HL.out]; exact pairs_at _ _ _ _ hp hq
          obtain ⟨b', off', cap2, hve2, hbb2, e0⟩ := HX.out.heard.cell (2 * m) p hp
          cases hve2
          obtain ⟨b', off', cap2, hve2, hbb2, e1⟩ := HX.out.heard.cell (2 * m + 1) q hq
          cases hve2
          rw [← B4.cell (p := ⟨b, off + 2 * m, none⟩) hbb] at e0
          rw [← B4.cell (p := ⟨b, off + (2 * m + 1), none⟩) hbb] at e1
          have HAT := hide (show ascAt ordH L k = decide (ordH (p, q) (y, z) < 0) by rw [hm]; exact ascAt_eq hLm (by rw [← hm]; exact HLK.out))
          have r1 : 2 * (k : Int) - 2 = 2 * (m : Int) := by omega
          have r2 : 2 * (k : Int) - 1 = 2 * (m : Int) + 1 := by omega
          have r3 : IntKind.i64.wrap (2 * (m : Int)) = 2 * (m : Int) := wrap_fit _ (by omega) (by omega)
          have r4 : IntKind.i64.wrap (2 * (m : Int) + 1) = 2 * (m : Int) + 1 := wrap_fit _ (by omega) (by omega)
          have r5 : (2 * (m : Int)).toNat = 2 * m := by omega
          have r6 : (2 * (m : Int) + 1).toNat = 2 * m + 1 := by omega
          have r7 : (0 : Int) ≤ 2 * (m : Int) := by omega
          have r8 : 2 * (m : Int) < (x.heard.length : Int) := by omega
          have r9 : 2 * (m : Int) + 1 < (x.heard.length : Int) := by omega
          have r10 : (0 : Int) ≤ 2 * (m : Int) + 1 := by omega
          have hnk : (0 : Int) < 2 * (k : Int) := by omega
          have HM := hide hm
          clear hp hq hLm hll hm
          have HBAD := hide (show ¬ ordH (p, q) (y, z) < 0 → H = false from fun h => by
            rw [HH2.out]
            have : ascB ordH L = false := all_false hlt (by rw [HAT.out]; exact decide_eq_false h)
            rw [this, Bool.and_false])
          have HGOOD := hide (show ordH (p, q) (y, z) < 0 → ∀ j, j < k + 1 → okAt (hitP x.net.ls x.id) L j = true ∧ ascAt ordH L j = true from fun h j hj => by
            by_cases e : j = k
            · subst e
              exact ⟨HT.out, by rw [HAT.out]; exact decide_eq_true h⟩
            · exact HNO.out j (by omega))
          by_cases hpy : y < p
          · have HF := hide (HBAD.out (fun h => by have := (ordH_lt _ _).1 h; simp only [] at this; omega))
            clear HBAD HGOOD
            go_wp2
            go_ret
            exact ⟨ret_bool HF.out, B4⟩
          · by_cases hpe : p = y
            · by_cases hqz : z ≤ q
              · have HF := hide (HBAD.out (fun h => by have := (ordH_lt _ _).1 h; simp only [] at this; omega))
                clear HBAD HGOOD
                subst hpe
                go_wp2
                go_ret
                exact ⟨ret_bool HF.out, B4⟩
              · have HG := hide (HGOOD.out ((ordH_lt _ _).2 (by simp only []; omega)))
                clear HBAD HGOOD
                have z1 : decide (y < p) = false := decide_eq_false hpy
                have z2 : (p == y) = true := by simpa using hpe
                have z3 : decide (z ≤ q) = false := decide_eq_false hqz
                clear hpy hqz hpe
                go_wp2
                go_roundw
                case rel => exact ⟨k + 1, by omega, by go_num, HG, B3⟩
                case measure => simp [intOf]; omega
            · have HG := hide (HGOOD.out ((ordH_lt _ _).2 (by simp only []; omega)))
              clear HBAD HGOOD
              have z1 : decide (y < p) = false := decide_eq_false hpy
              have z2 : (p == y) = false := by simpa using hpe
              clear hpy hpe
              go_wp2
              go_roundw
              case rel => exact ⟨k + 1, by omega, by go_num, HG, B3⟩
              case measure => simp [intOf]; omega
    · have hll := HLL.out
      have hkj : ¬ 2 * (k : Int) < (x.heard.length : Int) := by omega
      have HF := hide (show H = true by
        rw [HH2.out]
        have h1 : L.all (hitP x.net.ls x.id) = true := by
          rw [List.all_eq_true]
          intro q hq
          obtain ⟨i, hi, e⟩ := List.mem_iff_getElem.1 hq
          have h := (HNO.out i (by omega)).1
          rw [okAt_eq (List.getElem?_eq_getElem hi), e] at h
          exact h
        rw [h1, asc_all (fun j hj => (HNO.out j (by omega)).2)]
        rfl)
      clear hll HNO
      go_wp2
      go_ret
      exact ⟨ret_bool HF.out, B2⟩
end Go.Proofs.YtimbeeinognjbaaGreatDoor
namespace Go.Proofs.YtimbeeinognjbaaGreatDoor
open Go.RowKit

set_option linter.unusedSimpArgs false

theorem store_asc {xs : List RecD} {k : Nat} (hk : k < xs.length) (h : ascAt ordR xs k = false) : storeB xs = false := by unfold storeB ascB; rw [all_false hk h]; simp

set_option maxRecDepth 100000 in
set_option maxHeartbeats 20000000 in
theorem sstoreOk_any (v : Value) (ps : List RP) (w : World) (hn : tot ps ≤ 1048576) (hv : RecsAt w v ps w.heap.size) :
    Calls Tryz.prog 45 #[v] w fun e w' => e = .returned (.bool (storeB (fsts ps))) ∧ Below w.heap.size w w' := by
  have hnl := tot_len ps
  obtain ⟨a, cap, rfl⟩ := hv.shape
  have HV := hide hv
  clear hv
  have hfl : (fsts ps).length = ps.length := by simp [fsts]
  by_cases hlong : (150 : Int) < (ps.length : Int)
  · have HF := hide (store_long (xs := fsts ps) (by omega))
    clear hfl
    go_enter Tryz.func45, Tryz.ntmps45
    go_wp2
    go_ret
    exact ⟨ret_bool HF.out, Below.refl _ _⟩
  have HFL := hide hfl
  clear hfl
  go_enter Tryz.func45, Tryz.ntmps45
  go_wp2
  go_loopw [3] (fun i wr => ∃ k : Nat, k ≤ ps.length ∧ i = .int .i64 k ∧ (∀ j, j < k → okAt recOkB (fsts ps) j = true) ∧ (∀ j, j < k → ascAt ordR (fsts ps) j = true) ∧ Below w.heap.size w wr) (fun i _ => ps.length - (intOf i).toNat)
  case atStart => exact ⟨0, by omega, rfl, by omega, by omega, Below.refl _ _⟩
  case round =>
    obtain ⟨k, hk, rfl, hall, hasc, hnx⟩ := hrel
    have HALL := hide hall
    have HASC := hide hasc
    clear hall hasc
    have hsz := hnx.size
    by_cases hlt : k < ps.length
    · obtain ⟨l, hl⟩ : ∃ p, ps[k]? = some p := ⟨ps[k], List.getElem?_eq_getElem hlt⟩
      obtain ⟨b, off, cap', hve, hbb, c0, c1, c2, c3, c4, c5, c6, c7, hnr⟩ := HV.out.cells k l hl
      cases hve
      rw [← hnx.cell (p := ⟨b, off + k * 8, none⟩) hbb] at c0
      rw [← hnx.cell (p := ⟨b, off + k * 8 + 1, none⟩) hbb] at c1
      rw [← hnx.cell (p := ⟨b, off + k * 8 + 2, none⟩) hbb] at c2
      rw [← hnx.cell (p := ⟨b, off + k * 8 + 3, none⟩) hbb] at c3
      rw [← hnx.cell (p := ⟨b, off + k * 8 + 4, none⟩) hbb] at c4
      rw [← hnx.cell (p := ⟨b, off + k * 8 + 5, none⟩) hbb] at c5
      rw [← hnx.cell (p := ⟨b, off + k * 8 + 6, none⟩) hbb] at c6
      rw [← hnx.cell (p := ⟨b, off + k * 8 + 7, none⟩) hbb] at c7
      have HOK := hide (fun W (hb : Below w.heap.size w W) => srecOk_any l.2 l.1 W (by have := tot_mem (List.mem_of_getElem? hl); omega) ((RowAt.later hnr hb (Nat.le_refl _)).more hb.size))
      unfold recC at HOK
      have HAT1 := hide (okAt_eq (ok := recOkB) (fsts_at hl))
      obtain ⟨qo, hqo⟩ : ∃ q, q = recOkB l.1 := ⟨_, rfl⟩
      rw [← hqo] at HOK HAT1
      have HL := hide (fsts_at hl)
      clear hqo hl hnr
      have hbr : b < wr.heap.size := by omega
      have hki : (0 : Int) ≤ (k : Int) := by omega
      have hkj : (k : Int) < (ps.length : Int) := by omega
      have hnd : Below w.heap.size w wr.drew := hnx.drew
      cases qo
      · have HF := hide (store_bad (by rw [HFL.out]; exact hlt) HAT1.out)
        go_wp2
        refine wp_region_start (S := (fun W => W.cell? ⟨b, off + k * 8, none⟩ = some (.int .i64 l.1.area) ∧ W.cell? ⟨b, off + k * 8 + 1, none⟩ = some (.int .i64 l.1.kind) ∧ W.cell? ⟨b, off + k * 8 + 2, none⟩ = some (.int .i64 l.1.owner) ∧ W.cell? ⟨b, off + k * 8 + 3, none⟩ = some (.int .i64 l.1.key) ∧ W.cell? ⟨b, off + k * 8 + 4, none⟩ = some (.int .i64 l.1.seq) ∧ W.cell? ⟨b, off + k * 8 + 5, none⟩ = some (l.2) ∧ W.cell? ⟨b, off + k * 8 + 6, none⟩ = some (.int .i64 l.1.cost) ∧ W.cell? ⟨b, off + k * 8 + 7, none⟩ = some (.bool l.1.far))) (by kernel_rfl) 23 rfl ⟨c0, c1, c2, c3, c4, c5, c6, c7⟩ (fun ops hops hHeld => ?_)
        refine take_do 0 (oi := ?_) (v := ?_) ?_ (by rw [hops.out]; kernel_rfl) ?_ ?_ ?_ (by assumption) ?_
        rotate_left 2
        · rw [hops.out]; simp only [List.getElem?_toArray, List.getElem?_cons_succ, List.getElem?_cons_zero]; rfl
        · rw [hops.out]; kernel_rfl
        · intro W hW; (try dsimp only at hW); go_simp <;> with_reducible rfl
        · exact fun _ _ _ h => h
        try simp only [Act.put, List.setIfInBounds_toArray, List.set_cons_zero, List.set_cons_succ]
        refine take_do 1 (oi := ?_) (v := ?_) ?_ (by rw [hops.out]; kernel_rfl) ?_ ?_ ?_ (by assumption) ?_
        rotate_left 2
        · rw [hops.out]; simp only [List.getElem?_toArray, List.getElem?_cons_succ, List.getElem?_cons_zero]; rfl
        · rw [hops.out]; kernel_rfl
        · intro W hW; (try dsimp only at hW); go_simp <;> with_reducible rfl
        · exact fun _ _ _ h => h
        try simp only [Act.put, List.setIfInBounds_toArray, List.set_cons_zero, List.set_cons_succ]
        refine take_do 2 (oi := ?_) (v := ?_) ?_ (by rw [hops.out]; kernel_rfl) ?_ ?_ ?_ (by assumption) ?_
        rotate_left 2
        · rw [hops.out]; simp only [List.getElem?_toArray, List.getElem?_cons_succ, List.getElem?_cons_zero]; rfl
        · rw [hops.out]; kernel_rfl
        · intro W hW; (try dsimp only at hW); go_simp <;> with_reducible rfl
        · exact fun _ _ _ h => h
        try simp only [Act.put, List.setIfInBounds_toArray, List.set_cons_zero, List.set_cons_succ]
        refine take_do 3 (oi := ?_) (v := ?_) ?_ (by rw [hops.out]; kernel_rfl) ?_ ?_ ?_ (by assumption) ?_
        rotate_left 2
        · rw [hops.out]; simp only [List.getElem?_toArray, List.getElem?_cons_succ, List.getElem?_cons_zero]; rfl
        · rw [hops.out]; kernel_rfl
        · intro W hW; (try dsimp only at hW); go_simp <;> with_reducible rfl
        · exact fun _ _ _ h => h
        try simp only [Act.put, List.setIfInBounds_toArray, List.set_cons_zero, List.set_cons_succ]
        refine take_call 4 (oi := ?_) ?_ (by rw [hops.out]; kernel_rfl) ?_ ?_
        rotate_left 1
        · rw [hops.out]; simp only [List.getElem?_toArray, List.getElem?_cons_succ, List.getElem?_cons_zero]; rfl
        · rw [hops.out]; kernel_rfl
        intro K hK
        go_simp
        refine (HOK.out _ hnd).mono ?_
        rintro e w1 ⟨rfl, b1⟩
        have hSn : _ ∧ _ := (show ((fun W => W.cell? ⟨b, off + k * 8, none⟩ = some (.int .i64 l.1.area) ∧ W.cell? ⟨b, off + k * 8 + 1, none⟩ = some (.int .i64 l.1.kind) ∧ W.cell? ⟨b, off + k * 8 + 2, none⟩ = some (.int .i64 l.1.owner) ∧ W.cell? ⟨b, off + k * 8 + 3, none⟩ = some (.int .i64 l.1.key) ∧ W.cell? ⟨b, off + k * 8 + 4, none⟩ = some (.int .i64 l.1.seq) ∧ W.cell? ⟨b, off + k * 8 + 5, none⟩ = some (l.2) ∧ W.cell? ⟨b, off + k * 8 + 6, none⟩ = some (.int .i64 l.1.cost) ∧ W.cell? ⟨b, off + k * 8 + 7, none⟩ = some (.bool l.1.far))) w1 from by
          obtain ⟨m0, m1, m2, m3, m4, m5, m6, m7⟩ := hHeld
          refine ⟨?_, ?_, ?_, ?_, ?_, ?_, ?_, ?_⟩ <;> (refine (b1.cell ?_).trans ?_ <;> assumption))
        refine hK.out _ _ hSn (fun hHeld => ?_)
        clear hK K hSn
        try simp only [Act.put, List.setIfInBounds_toArray, List.set_cons_zero, List.set_cons_succ]
        refine take_do 5 (oi := ?_) (v := ?_) ?_ (by rw [hops.out]; kernel_rfl) ?_ ?_ ?_ (by assumption) ?_
        rotate_left 2
        · rw [hops.out]; simp only [List.getElem?_toArray, List.getElem?_cons_succ, List.getElem?_cons_zero]; rfl
        · rw [hops.out]; kernel_rfl
        · intro W hW; (try dsimp only at hW); go_simp <;> with_reducible rfl
        · exact fun _ _ _ h => h
        try simp only [Act.put, List.setIfInBounds_toArray, List.set_cons_zero, List.set_cons_succ]
        refine take_do 6 (oi := ?_) (v := ?_) ?_ (by rw [hops.out]; kernel_rfl) ?_ ?_ ?_ (by assumption) ?_
        rotate_left 2
        · rw [hops.out]; simp only [List.getElem?_toArray, List.getElem?_cons_succ, List.getElem?_cons_zero]; rfl
        · rw [hops.out]; kernel_rfl
        · intro W hW; (try dsimp only at hW); go_simp <;> with_reducible rfl
        · exact fun _ _ _ h => h
        try simp only [Act.put, List.setIfInBounds_toArray, List.set_cons_zero, List.set_cons_succ]
        refine take_skip 7 20 (by rw [hops.out]; kernel_rfl) (by rw [hops.out]; kernel_rfl) (by rw [hops.out]; kernel_rfl) (fun _ _ _ h => h) (by assumption) ?_
        try simp only [Act.put, List.setIfInBounds_toArray, List.set_cons_zero, List.set_cons_succ]
        refine take_skip 8 21 (by rw [hops.out]; kernel_rfl) (by rw [hops.out]; kernel_rfl) (by rw [hops.out]; kernel_rfl) (fun _ _ _ h => h) (by assumption) ?_
        try simp only [Act.put, List.setIfInBounds_toArray, List.set_cons_zero, List.set_cons_succ]
        refine take_skip 9 22 (by rw [hops.out]; kernel_rfl) (by rw [hops.out]; kernel_rfl) (by rw [hops.out]; kernel_rfl) (fun _ _ _ h => h) (by assumption) ?_
        try simp only [Act.put, List.setIfInBounds_toArray, List.set_cons_zero, List.set_cons_succ]
        refine take_skip 10 23 (by rw [hops.out]; kernel_rfl) (by rw [hops.out]; kernel_rfl) (by rw [hops.out]; kernel_rfl) (fun _ _ _ h => h) (by assumption) ?_
        try simp only [Act.put, List.setIfInBounds_toArray, List.set_cons_zero, List.set_cons_succ]
        refine take_skip 11 24 (by rw [hops.out]; kernel_rfl) (by rw [hops.out]; kernel_rfl) (by rw [hops.out]; kernel_rfl) (fun _ _ _ h => h) (by assumption) ?_
        try simp only [Act.put, List.setIfInBounds_toArray, List.set_cons_zero, List.set_cons_succ]
        refine take_skip 12 25 (by rw [hops.out]; kernel_rfl) (by rw [hops.out]; kernel_rfl) (by rw [hops.out]; kernel_rfl) (fun _ _ _ h => h) (by assumption) ?_
        try simp only [Act.put, List.setIfInBounds_toArray, List.set_cons_zero, List.set_cons_succ]
        refine take_skip 13 26 (by rw [hops.out]; kernel_rfl) (by rw [hops.out]; kernel_rfl) (by rw [hops.out]; kernel_rfl) (fun _ _ _ h => h) (by assumption) ?_
        try simp only [Act.put, List.setIfInBounds_toArray, List.set_cons_zero, List.set_cons_succ]
        refine take_skip 14 27 (by rw [hops.out]; kernel_rfl) (by rw [hops.out]; kernel_rfl) (by rw [hops.out]; kernel_rfl) (fun _ _ _ h => h) (by assumption) ?_
        try simp only [Act.put, List.setIfInBounds_toArray, List.set_cons_zero, List.set_cons_succ]
        refine take_skip 15 28 (by rw [hops.out]; kernel_rfl) (by rw [hops.out]; kernel_rfl) (by rw [hops.out]; kernel_rfl) (fun _ _ _ h => h) (by assumption) ?_
        try simp only [Act.put, List.setIfInBounds_toArray, List.set_cons_zero, List.set_cons_succ]
        refine take_skip 16 29 (by rw [hops.out]; kernel_rfl) (by rw [hops.out]; kernel_rfl) (by rw [hops.out]; kernel_rfl) (fun _ _ _ h => h) (by assumption) ?_
        try simp only [Act.put, List.setIfInBounds_toArray, List.set_cons_zero, List.set_cons_succ]
        refine take_skip 17 30 (by rw [hops.out]; kernel_rfl) (by rw [hops.out]; kernel_rfl) (by rw [hops.out]; kernel_rfl) (fun _ _ _ h => h) (by assumption) ?_
        try simp only [Act.put, List.setIfInBounds_toArray, List.set_cons_zero, List.set_cons_succ]
        refine take_skip 18 31 (by rw [hops.out]; kernel_rfl) (by rw [hops.out]; kernel_rfl) (by rw [hops.out]; kernel_rfl) (fun _ _ _ h => h) (by assumption) ?_
        try simp only [Act.put, List.setIfInBounds_toArray, List.set_cons_zero, List.set_cons_succ]
        refine take_skip 19 32 (by rw [hops.out]; kernel_rfl) (by rw [hops.out]; kernel_rfl) (by rw [hops.out]; kernel_rfl) (fun _ _ _ h => h) (by assumption) ?_
        try simp only [Act.put, List.setIfInBounds_toArray, List.set_cons_zero, List.set_cons_succ]
        refine take_skip 20 33 (by rw [hops.out]; kernel_rfl) (by rw [hops.out]; kernel_rfl) (by rw [hops.out]; kernel_rfl) (fun _ _ _ h => h) (by assumption) ?_
        try simp only [Act.put, List.setIfInBounds_toArray, List.set_cons_zero, List.set_cons_succ]
        refine take_skip 21 34 (by rw [hops.out]; kernel_rfl) (by rw [hops.out]; kernel_rfl) (by rw [hops.out]; kernel_rfl) (fun _ _ _ h => h) (by assumption) ?_
        try simp only [Act.put, List.setIfInBounds_toArray, List.set_cons_zero, List.set_cons_succ]
        refine take_do 22 (oi := ?_) (v := ?_) ?_ (by rw [hops.out]; kernel_rfl) ?_ ?_ ?_ (by assumption) ?_
        rotate_left 2
        · rw [hops.out]; simp only [List.getElem?_toArray, List.getElem?_cons_succ, List.getElem?_cons_zero]; rfl
        · rw [hops.out]; kernel_rfl
        · intro W hW; (try dsimp only at hW); go_simp <;> with_reducible rfl
        · exact fun _ _ _ h => h
        try simp only [Act.put, List.setIfInBounds_toArray, List.set_cons_zero, List.set_cons_succ]
        refine wpAnyH_done (by rw [hops.out]; kernel_rfl) ?_ _
        clear hops ops
        go_wp2
        go_ret
        exact ⟨ret_bool HF.out, hnd.trans (b1.mono hsz)⟩
      by_cases hk0 : k = 0
      · have hk1 : ¬ (0 : Int) < (k : Int) := by omega
        have HAT2 := hide (show ascAt ordR (fsts ps) k = true by rw [hk0]; rfl)
        clear hk0
        go_wp2
        refine wp_region_start (S := (fun W => W.cell? ⟨b, off + k * 8, none⟩ = some (.int .i64 l.1.area) ∧ W.cell? ⟨b, off + k * 8 + 1, none⟩ = some (.int .i64 l.1.kind) ∧ W.cell? ⟨b, off + k * 8 + 2, none⟩ = some (.int .i64 l.1.owner) ∧ W.cell? ⟨b, off + k * 8 + 3, none⟩ = some (.int .i64 l.1.key) ∧ W.cell? ⟨b, off + k * 8 + 4, none⟩ = some (.int .i64 l.1.seq) ∧ W.cell? ⟨b, off + k * 8 + 5, none⟩ = some (l.2) ∧ W.cell? ⟨b, off + k * 8 + 6, none⟩ = some (.int .i64 l.1.cost) ∧ W.cell? ⟨b, off + k * 8 + 7, none⟩ = some (.bool l.1.far))) (by kernel_rfl) 23 rfl ⟨c0, c1, c2, c3, c4, c5, c6, c7⟩ (fun ops hops hHeld => ?_)
        refine take_do 0 (oi := ?_) (v := ?_) ?_ (by rw [hops.out]; kernel_rfl) ?_ ?_ ?_ (by assumption) ?_
        rotate_left 2
        · rw [hops.out]; simp only [List.getElem?_toArray, List.getElem?_cons_succ, List.getElem?_cons_zero]; rfl
        · rw [hops.out]; kernel_rfl
        · intro W hW; (try dsimp only at hW); go_simp <;> with_reducible rfl
        · exact fun _ _ _ h => h
        try simp only [Act.put, List.setIfInBounds_toArray, List.set_cons_zero, List.set_cons_succ]
        refine take_do 1 (oi := ?_) (v := ?_) ?_ (by rw [hops.out]; kernel_rfl) ?_ ?_ ?_ (by assumption) ?_
        rotate_left 2
        · rw [hops.out]; simp only [List.getElem?_toArray, List.getElem?_cons_succ, List.getElem?_cons_zero]; rfl
        · rw [hops.out]; kernel_rfl
        · intro W hW; (try dsimp only at hW); go_simp <;> with_reducible rfl
        · exact fun _ _ _ h => h
        try simp only [Act.put, List.setIfInBounds_toArray, List.set_cons_zero, List.set_cons_succ]
        refine take_do 2 (oi := ?_) (v := ?_) ?_ (by rw [hops.out]; kernel_rfl) ?_ ?_ ?_ (by assumption) ?_
        rotate_left 2
        · rw [hops.out]; simp only [List.getElem?_toArray, List.getElem?_cons_succ, List.getElem?_cons_zero]; rfl
        · rw [hops.out]; kernel_rfl
        · intro W hW; (try dsimp only at hW); go_simp <;> with_reducible rfl
        · exact fun _ _ _ h => h
        try simp only [Act.put, List.setIfInBounds_toArray, List.set_cons_zero, List.set_cons_succ]
        refine take_do 3 (oi := ?_) (v := ?_) ?_ (by rw [hops.out]; kernel_rfl) ?_ ?_ ?_ (by assumption) ?_
        rotate_left 2
        · rw [hops.out]; simp only [List.getElem?_toArray, List.getElem?_cons_succ, List.getElem?_cons_zero]; rfl
        · rw [hops.out]; kernel_rfl
        · intro W hW; (try dsimp only at hW); go_simp <;> with_reducible rfl
        · exact fun _ _ _ h => h
        try simp only [Act.put, List.setIfInBounds_toArray, List.set_cons_zero, List.set_cons_succ]
        refine take_call 4 (oi := ?_) ?_ (by rw [hops.out]; kernel_rfl) ?_ ?_
        rotate_left 1
        · rw [hops.out]; simp only [List.getElem?_toArray, List.getElem?_cons_succ, List.getElem?_cons_zero]; rfl
        · rw [hops.out]; kernel_rfl
        intro K hK
        go_simp
        refine (HOK.out _ hnd).mono ?_
        rintro e w1 ⟨rfl, b1⟩
        have hSn : _ ∧ _ := (show ((fun W => W.cell? ⟨b, off + k * 8, none⟩ = some (.int .i64 l.1.area) ∧ W.cell? ⟨b, off + k * 8 + 1, none⟩ = some (.int .i64 l.1.kind) ∧ W.cell? ⟨b, off + k * 8 + 2, none⟩ = some (.int .i64 l.1.owner) ∧ W.cell? ⟨b, off + k * 8 + 3, none⟩ = some (.int .i64 l.1.key) ∧ W.cell? ⟨b, off + k * 8 + 4, none⟩ = some (.int .i64 l.1.seq) ∧ W.cell? ⟨b, off + k * 8 + 5, none⟩ = some (l.2) ∧ W.cell? ⟨b, off + k * 8 + 6, none⟩ = some (.int .i64 l.1.cost) ∧ W.cell? ⟨b, off + k * 8 + 7, none⟩ = some (.bool l.1.far))) w1 from by
          obtain ⟨m0, m1, m2, m3, m4, m5, m6, m7⟩ := hHeld
          refine ⟨?_, ?_, ?_, ?_, ?_, ?_, ?_, ?_⟩ <;> (refine (b1.cell ?_).trans ?_ <;> assumption))
        refine hK.out _ _ hSn (fun hHeld => ?_)
        clear hK K hSn
        try simp only [Act.put, List.setIfInBounds_toArray, List.set_cons_zero, List.set_cons_succ]
        refine take_do 5 (oi := ?_) (v := ?_) ?_ (by rw [hops.out]; kernel_rfl) ?_ ?_ ?_ (by assumption) ?_
        rotate_left 2
        · rw [hops.out]; simp only [List.getElem?_toArray, List.getElem?_cons_succ, List.getElem?_cons_zero]; rfl
        · rw [hops.out]; kernel_rfl
        · intro W hW; (try dsimp only at hW); go_simp <;> with_reducible rfl
        · exact fun _ _ _ h => h
        try simp only [Act.put, List.setIfInBounds_toArray, List.set_cons_zero, List.set_cons_succ]
        refine take_do 6 (oi := ?_) (v := ?_) ?_ (by rw [hops.out]; kernel_rfl) ?_ ?_ ?_ (by assumption) ?_
        rotate_left 2
        · rw [hops.out]; simp only [List.getElem?_toArray, List.getElem?_cons_succ, List.getElem?_cons_zero]; rfl
        · rw [hops.out]; kernel_rfl
        · intro W hW; (try dsimp only at hW); go_simp <;> with_reducible rfl
        · exact fun _ _ _ h => h
        try simp only [Act.put, List.setIfInBounds_toArray, List.set_cons_zero, List.set_cons_succ]
        refine take_do 7 (oi := ?_) (v := ?_) ?_ (by rw [hops.out]; kernel_rfl) ?_ ?_ ?_ (by assumption) ?_
        rotate_left 2
        · rw [hops.out]; simp only [List.getElem?_toArray, List.getElem?_cons_succ, List.getElem?_cons_zero]; rfl
        · rw [hops.out]; kernel_rfl
        · intro W hW; (try dsimp only at hW); go_simp <;> with_reducible rfl
        · exact fun _ _ _ h => h
        try simp only [Act.put, List.setIfInBounds_toArray, List.set_cons_zero, List.set_cons_succ]
        refine take_do 8 (oi := ?_) (v := .bool false) ?_ (by rw [hops.out]; kernel_rfl) ?_ ?_ ?_ (by assumption) ?_
        rotate_left 1
        · rw [hops.out]; simp only [List.getElem?_toArray, List.getElem?_cons_succ, List.getElem?_cons_zero]; rfl
        · rw [hops.out]; kernel_rfl
        · intro W hW; (try dsimp only at hW); go_simp <;> (first | with_reducible rfl | (simp; omega) | omega)
        · exact fun _ _ _ h => h
        try simp only [Act.put, List.setIfInBounds_toArray, List.set_cons_zero, List.set_cons_succ]
        refine take_do 9 (oi := ?_) (v := ?_) ?_ (by rw [hops.out]; kernel_rfl) ?_ ?_ ?_ (by assumption) ?_
        rotate_left 2
        · rw [hops.out]; simp only [List.getElem?_toArray, List.getElem?_cons_succ, List.getElem?_cons_zero]; rfl
        · rw [hops.out]; kernel_rfl
        · intro W hW; (try dsimp only at hW); go_simp <;> with_reducible rfl
        · exact fun _ _ _ h => h
        try simp only [Act.put, List.setIfInBounds_toArray, List.set_cons_zero, List.set_cons_succ]
        refine take_skip 10 23 (by rw [hops.out]; kernel_rfl) (by rw [hops.out]; kernel_rfl) (by rw [hops.out]; kernel_rfl) (fun _ _ _ h => h) (by assumption) ?_
        try simp only [Act.put, List.setIfInBounds_toArray, List.set_cons_zero, List.set_cons_succ]
        refine take_skip 11 24 (by rw [hops.out]; kernel_rfl) (by rw [hops.out]; kernel_rfl) (by rw [hops.out]; kernel_rfl) (fun _ _ _ h => h) (by assumption) ?_
        try simp only [Act.put, List.setIfInBounds_toArray, List.set_cons_zero, List.set_cons_succ]
        refine take_skip 12 25 (by rw [hops.out]; kernel_rfl) (by rw [hops.out]; kernel_rfl) (by rw [hops.out]; kernel_rfl) (fun _ _ _ h => h) (by assumption) ?_
        try simp only [Act.put, List.setIfInBounds_toArray, List.set_cons_zero, List.set_cons_succ]
        refine take_skip 13 26 (by rw [hops.out]; kernel_rfl) (by rw [hops.out]; kernel_rfl) (by rw [hops.out]; kernel_rfl) (fun _ _ _ h => h) (by assumption) ?_
        try simp only [Act.put, List.setIfInBounds_toArray, List.set_cons_zero, List.set_cons_succ]
        refine take_skip 14 27 (by rw [hops.out]; kernel_rfl) (by rw [hops.out]; kernel_rfl) (by rw [hops.out]; kernel_rfl) (fun _ _ _ h => h) (by assumption) ?_
        try simp only [Act.put, List.setIfInBounds_toArray, List.set_cons_zero, List.set_cons_succ]
        refine take_skip 15 28 (by rw [hops.out]; kernel_rfl) (by rw [hops.out]; kernel_rfl) (by rw [hops.out]; kernel_rfl) (fun _ _ _ h => h) (by assumption) ?_
        try simp only [Act.put, List.setIfInBounds_toArray, List.set_cons_zero, List.set_cons_succ]
        refine take_skip 16 29 (by rw [hops.out]; kernel_rfl) (by rw [hops.out]; kernel_rfl) (by rw [hops.out]; kernel_rfl) (fun _ _ _ h => h) (by assumption) ?_
        try simp only [Act.put, List.setIfInBounds_toArray, List.set_cons_zero, List.set_cons_succ]
        refine take_skip 17 30 (by rw [hops.out]; kernel_rfl) (by rw [hops.out]; kernel_rfl) (by rw [hops.out]; kernel_rfl) (fun _ _ _ h => h) (by assumption) ?_
        try simp only [Act.put, List.setIfInBounds_toArray, List.set_cons_zero, List.set_cons_succ]
        refine take_skip 18 31 (by rw [hops.out]; kernel_rfl) (by rw [hops.out]; kernel_rfl) (by rw [hops.out]; kernel_rfl) (fun _ _ _ h => h) (by assumption) ?_
        try simp only [Act.put, List.setIfInBounds_toArray, List.set_cons_zero, List.set_cons_succ]
        refine take_skip 19 32 (by rw [hops.out]; kernel_rfl) (by rw [hops.out]; kernel_rfl) (by rw [hops.out]; kernel_rfl) (fun _ _ _ h => h) (by assumption) ?_
        try simp only [Act.put, List.setIfInBounds_toArray, List.set_cons_zero, List.set_cons_succ]
        refine take_skip 20 33 (by rw [hops.out]; kernel_rfl) (by rw [hops.out]; kernel_rfl) (by rw [hops.out]; kernel_rfl) (fun _ _ _ h => h) (by assumption) ?_
        try simp only [Act.put, List.setIfInBounds_toArray, List.set_cons_zero, List.set_cons_succ]
        refine take_do 21 (oi := ?_) (v := ?_) ?_ (by rw [hops.out]; kernel_rfl) ?_ ?_ ?_ (by assumption) ?_
        rotate_left 2
        · rw [hops.out]; simp only [List.getElem?_toArray, List.getElem?_cons_succ, List.getElem?_cons_zero]; rfl
        · rw [hops.out]; kernel_rfl
        · intro W hW; (try dsimp only at hW); go_simp <;> with_reducible rfl
        · exact fun _ _ _ h => h
        try simp only [Act.put, List.setIfInBounds_toArray, List.set_cons_zero, List.set_cons_succ]
        refine take_do 22 (oi := ?_) (v := ?_) ?_ (by rw [hops.out]; kernel_rfl) ?_ ?_ ?_ (by assumption) ?_
        rotate_left 2
        · rw [hops.out]; simp only [List.getElem?_toArray, List.getElem?_cons_succ, List.getElem?_cons_zero]; rfl
        · rw [hops.out]; kernel_rfl
        · intro W hW; (try dsimp only at hW); go_simp <;> with_reducible rfl
        · exact fun _ _ _ h => h
        try simp only [Act.put, List.setIfInBounds_toArray, List.set_cons_zero, List.set_cons_succ]
        refine wpAnyH_done (by rw [hops.out]; kernel_rfl) ?_ _
        clear hops ops
        go_wp2
        exact ⟨⟨k + 1, by omega, by go_num, next_true HALL.out HAT1.out, next_true HASC.out HAT2.out, hnd.trans (b1.mono hsz)⟩, by simp [intOf]; omega⟩
      · obtain ⟨j, hj⟩ : ∃ j, k = j + 1 := ⟨k - 1, by omega⟩
        obtain ⟨p, hp⟩ : ∃ p, ps[j]? = some p := ⟨ps[j], List.getElem?_eq_getElem (by omega)⟩
        obtain ⟨b', off', cap2, hve2, hbb2, d0, d1, d2, d3, d4, d5, d6, d7, _⟩ := HV.out.cells j p hp
        cases hve2
        rw [← hnx.cell (p := ⟨b, off + j * 8, none⟩) hbb] at d0
        rw [← hnx.cell (p := ⟨b, off + j * 8 + 1, none⟩) hbb] at d1
        rw [← hnx.cell (p := ⟨b, off + j * 8 + 2, none⟩) hbb] at d2
        rw [← hnx.cell (p := ⟨b, off + j * 8 + 3, none⟩) hbb] at d3
        rw [← hnx.cell (p := ⟨b, off + j * 8 + 4, none⟩) hbb] at d4
        rw [← hnx.cell (p := ⟨b, off + j * 8 + 5, none⟩) hbb] at d5
        rw [← hnx.cell (p := ⟨b, off + j * 8 + 6, none⟩) hbb] at d6
        rw [← hnx.cell (p := ⟨b, off + j * 8 + 7, none⟩) hbb] at d7
        have hat2 : ascAt ordR (fsts ps) k = decide (ordR p.1 l.1 < 0) := by rw [hj]; exact ascAt_eq (fsts_at hp) (by rw [← hj]; exact HL.out)
        rw [ordR_neg] at hat2
        have hj1 : (k : Int) - 1 = (j : Int) := by omega
        have hj2 : (0 : Int) ≤ (j : Int) := by omega
        have hj3 : (j : Int) < (ps.length : Int) := by omega
        have hj4 : (0 : Int) < (k : Int) := by omega
        have hj5 : IntKind.i64.wrap (j : Int) = (j : Int) := wrap_fit _ (by omega) (by omega)
        have HBF := hide (fun W => sbefore_any p.2 l.2 p.1 l.1 W)
        unfold recC at HBF
        obtain ⟨qb, hqb⟩ : ∃ q, q = beforeB p.1 l.1 := ⟨_, rfl⟩
        rw [← hqb] at HBF hat2
        have HAT2 := hide hat2
        clear hqb hp hat2 hj hk0 hbb2
        cases qb
        · have HF := hide (store_asc (by rw [HFL.out]; exact hlt) HAT2.out)
          go_wp2
          refine wp_region_start (S := (fun W => W.cell? ⟨b, off + k * 8, none⟩ = some (.int .i64 l.1.area) ∧ W.cell? ⟨b, off + k * 8 + 1, none⟩ = some (.int .i64 l.1.kind) ∧ W.cell? ⟨b, off + k * 8 + 2, none⟩ = some (.int .i64 l.1.owner) ∧ W.cell? ⟨b, off + k * 8 + 3, none⟩ = some (.int .i64 l.1.key) ∧ W.cell? ⟨b, off + k * 8 + 4, none⟩ = some (.int .i64 l.1.seq) ∧ W.cell? ⟨b, off + k * 8 + 5, none⟩ = some (l.2) ∧ W.cell? ⟨b, off + k * 8 + 6, none⟩ = some (.int .i64 l.1.cost) ∧ W.cell? ⟨b, off + k * 8 + 7, none⟩ = some (.bool l.1.far) ∧ W.cell? ⟨b, off + j * 8, none⟩ = some (.int .i64 p.1.area) ∧ W.cell? ⟨b, off + j * 8 + 1, none⟩ = some (.int .i64 p.1.kind) ∧ W.cell? ⟨b, off + j * 8 + 2, none⟩ = some (.int .i64 p.1.owner) ∧ W.cell? ⟨b, off + j * 8 + 3, none⟩ = some (.int .i64 p.1.key) ∧ W.cell? ⟨b, off + j * 8 + 4, none⟩ = some (.int .i64 p.1.seq) ∧ W.cell? ⟨b, off + j * 8 + 5, none⟩ = some (p.2) ∧ W.cell? ⟨b, off + j * 8 + 6, none⟩ = some (.int .i64 p.1.cost) ∧ W.cell? ⟨b, off + j * 8 + 7, none⟩ = some (.bool p.1.far))) (by kernel_rfl) 23 rfl ⟨c0, c1, c2, c3, c4, c5, c6, c7, d0, d1, d2, d3, d4, d5, d6, d7⟩ (fun ops hops hHeld => ?_)
          refine take_do 0 (oi := ?_) (v := ?_) ?_ (by rw [hops.out]; kernel_rfl) ?_ ?_ ?_ (by assumption) ?_
          rotate_left 2
          · rw [hops.out]; simp only [List.getElem?_toArray, List.getElem?_cons_succ, List.getElem?_cons_zero]; rfl
          · rw [hops.out]; kernel_rfl
          · intro W hW; (try dsimp only at hW); go_simp <;> with_reducible rfl
          · exact fun _ _ _ h => h
          try simp only [Act.put, List.setIfInBounds_toArray, List.set_cons_zero, List.set_cons_succ]
          refine take_do 1 (oi := ?_) (v := ?_) ?_ (by rw [hops.out]; kernel_rfl) ?_ ?_ ?_ (by assumption) ?_
          rotate_left 2
          · rw [hops.out]; simp only [List.getElem?_toArray, List.getElem?_cons_succ, List.getElem?_cons_zero]; rfl
          · rw [hops.out]; kernel_rfl
          · intro W hW; (try dsimp only at hW); go_simp <;> with_reducible rfl
          · exact fun _ _ _ h => h
          try simp only [Act.put, List.setIfInBounds_toArray, List.set_cons_zero, List.set_cons_succ]
          refine take_do 2 (oi := ?_) (v := ?_) ?_ (by rw [hops.out]; kernel_rfl) ?_ ?_ ?_ (by assumption) ?_
          rotate_left 2
          · rw [hops.out]; simp only [List.getElem?_toArray, List.getElem?_cons_succ, List.getElem?_cons_zero]; rfl
          · rw [hops.out]; kernel_rfl
          · intro W hW; (try dsimp only at hW); go_simp <;> with_reducible rfl
          · exact fun _ _ _ h => h
          try simp only [Act.put, List.setIfInBounds_toArray, List.set_cons_zero, List.set_cons_succ]
          refine take_do 3 (oi := ?_) (v := ?_) ?_ (by rw [hops.out]; kernel_rfl) ?_ ?_ ?_ (by assumption) ?_
          rotate_left 2
          · rw [hops.out]; simp only [List.getElem?_toArray, List.getElem?_cons_succ, List.getElem?_cons_zero]; rfl
          · rw [hops.out]; kernel_rfl
          · intro W hW; (try dsimp only at hW); go_simp <;> with_reducible rfl
          · exact fun _ _ _ h => h
          try simp only [Act.put, List.setIfInBounds_toArray, List.set_cons_zero, List.set_cons_succ]
          refine take_call 4 (oi := ?_) ?_ (by rw [hops.out]; kernel_rfl) ?_ ?_
          rotate_left 1
          · rw [hops.out]; simp only [List.getElem?_toArray, List.getElem?_cons_succ, List.getElem?_cons_zero]; rfl
          · rw [hops.out]; kernel_rfl
          intro K hK
          go_simp
          refine (HOK.out _ hnd).mono ?_
          rintro e w1 ⟨rfl, b1⟩
          have hSn : _ ∧ _ := (show ((fun W => W.cell? ⟨b, off + k * 8, none⟩ = some (.int .i64 l.1.area) ∧ W.cell? ⟨b, off + k * 8 + 1, none⟩ = some (.int .i64 l.1.kind) ∧ W.cell? ⟨b, off + k * 8 + 2, none⟩ = some (.int .i64 l.1.owner) ∧ W.cell? ⟨b, off + k * 8 + 3, none⟩ = some (.int .i64 l.1.key) ∧ W.cell? ⟨b, off + k * 8 + 4, none⟩ = some (.int .i64 l.1.seq) ∧ W.cell? ⟨b, off + k * 8 + 5, none⟩ = some (l.2) ∧ W.cell? ⟨b, off + k * 8 + 6, none⟩ = some (.int .i64 l.1.cost) ∧ W.cell? ⟨b, off + k * 8 + 7, none⟩ = some (.bool l.1.far) ∧ W.cell? ⟨b, off + j * 8, none⟩ = some (.int .i64 p.1.area) ∧ W.cell? ⟨b, off + j * 8 + 1, none⟩ = some (.int .i64 p.1.kind) ∧ W.cell? ⟨b, off + j * 8 + 2, none⟩ = some (.int .i64 p.1.owner) ∧ W.cell? ⟨b, off + j * 8 + 3, none⟩ = some (.int .i64 p.1.key) ∧ W.cell? ⟨b, off + j * 8 + 4, none⟩ = some (.int .i64 p.1.seq) ∧ W.cell? ⟨b, off + j * 8 + 5, none⟩ = some (p.2) ∧ W.cell? ⟨b, off + j * 8 + 6, none⟩ = some (.int .i64 p.1.cost) ∧ W.cell? ⟨b, off + j * 8 + 7, none⟩ = some (.bool p.1.far))) w1 from by
            obtain ⟨m0, m1, m2, m3, m4, m5, m6, m7, n0, n1, n2, n3, n4, n5, n6, n7⟩ := hHeld
            refine ⟨?_, ?_, ?_, ?_, ?_, ?_, ?_, ?_, ?_, ?_, ?_, ?_, ?_, ?_, ?_, ?_⟩ <;> (refine (b1.cell ?_).trans ?_ <;> assumption))
          refine hK.out _ _ hSn (fun hHeld => ?_)
          clear hK K hSn
          try simp only [Act.put, List.setIfInBounds_toArray, List.set_cons_zero, List.set_cons_succ]
          have hbr : b < w1.heap.size := Nat.lt_of_lt_of_le hbr b1.size
          refine take_do 5 (oi := ?_) (v := ?_) ?_ (by rw [hops.out]; kernel_rfl) ?_ ?_ ?_ (by assumption) ?_
          rotate_left 2
          · rw [hops.out]; simp only [List.getElem?_toArray, List.getElem?_cons_succ, List.getElem?_cons_zero]; rfl
          · rw [hops.out]; kernel_rfl
          · intro W hW; (try dsimp only at hW); go_simp <;> with_reducible rfl
          · exact fun _ _ _ h => h
          try simp only [Act.put, List.setIfInBounds_toArray, List.set_cons_zero, List.set_cons_succ]
          refine take_do 6 (oi := ?_) (v := ?_) ?_ (by rw [hops.out]; kernel_rfl) ?_ ?_ ?_ (by assumption) ?_
          rotate_left 2
          · rw [hops.out]; simp only [List.getElem?_toArray, List.getElem?_cons_succ, List.getElem?_cons_zero]; rfl
          · rw [hops.out]; kernel_rfl
          · intro W hW; (try dsimp only at hW); go_simp <;> with_reducible rfl
          · exact fun _ _ _ h => h
          try simp only [Act.put, List.setIfInBounds_toArray, List.set_cons_zero, List.set_cons_succ]
          refine take_do 7 (oi := ?_) (v := ?_) ?_ (by rw [hops.out]; kernel_rfl) ?_ ?_ ?_ (by assumption) ?_
          rotate_left 2
          · rw [hops.out]; simp only [List.getElem?_toArray, List.getElem?_cons_succ, List.getElem?_cons_zero]; rfl
          · rw [hops.out]; kernel_rfl
          · intro W hW; (try dsimp only at hW); go_simp <;> with_reducible rfl
          · exact fun _ _ _ h => h
          try simp only [Act.put, List.setIfInBounds_toArray, List.set_cons_zero, List.set_cons_succ]
          refine take_do 8 (oi := ?_) (v := .bool true) ?_ (by rw [hops.out]; kernel_rfl) ?_ ?_ ?_ (by assumption) ?_
          rotate_left 1
          · rw [hops.out]; simp only [List.getElem?_toArray, List.getElem?_cons_succ, List.getElem?_cons_zero]; rfl
          · rw [hops.out]; kernel_rfl
          · intro W hW; (try dsimp only at hW); go_simp <;> (first | with_reducible rfl | (simp; omega) | omega)
          · exact fun _ _ _ h => h
          try simp only [Act.put, List.setIfInBounds_toArray, List.set_cons_zero, List.set_cons_succ]
          refine take_do 9 (oi := ?_) (v := ?_) ?_ (by rw [hops.out]; kernel_rfl) ?_ ?_ ?_ (by assumption) ?_
          rotate_left 2
          · rw [hops.out]; simp only [List.getElem?_toArray, List.getElem?_cons_succ, List.getElem?_cons_zero]; rfl
          · rw [hops.out]; kernel_rfl
          · intro W hW; (try dsimp only at hW); go_simp <;> with_reducible rfl
          · exact fun _ _ _ h => h
          try simp only [Act.put, List.setIfInBounds_toArray, List.set_cons_zero, List.set_cons_succ]
          refine take_do 10 (oi := ?_) (v := ?_) ?_ (by rw [hops.out]; kernel_rfl) ?_ ?_ ?_ (by assumption) ?_
          rotate_left 2
          · rw [hops.out]; simp only [List.getElem?_toArray, List.getElem?_cons_succ, List.getElem?_cons_zero]; rfl
          · rw [hops.out]; kernel_rfl
          · intro W hW; (try dsimp only at hW); go_simp <;> with_reducible rfl
          · exact fun _ _ _ h => h
          try simp only [Act.put, List.setIfInBounds_toArray, List.set_cons_zero, List.set_cons_succ]
          refine take_do 11 (oi := ?_) (v := ?_) ?_ (by rw [hops.out]; kernel_rfl) ?_ ?_ ?_ (by assumption) ?_
          rotate_left 2
          · rw [hops.out]; simp only [List.getElem?_toArray, List.getElem?_cons_succ, List.getElem?_cons_zero]; rfl
          · rw [hops.out]; kernel_rfl
          · intro W hW; (try dsimp only at hW); go_simp <;> with_reducible rfl
          · exact fun _ _ _ h => h
          try simp only [Act.put, List.setIfInBounds_toArray, List.set_cons_zero, List.set_cons_succ]
          refine take_do 12 (oi := ?_) (v := ?_) ?_ (by rw [hops.out]; kernel_rfl) ?_ ?_ ?_ (by assumption) ?_
          rotate_left 2
          · rw [hops.out]; simp only [List.getElem?_toArray, List.getElem?_cons_succ, List.getElem?_cons_zero]; rfl
          · rw [hops.out]; kernel_rfl
          · intro W hW; (try dsimp only at hW); go_simp <;> with_reducible rfl
          · exact fun _ _ _ h => h
          try simp only [Act.put, List.setIfInBounds_toArray, List.set_cons_zero, List.set_cons_succ]
          refine take_do 13 (oi := ?_) (v := ?_) ?_ (by rw [hops.out]; kernel_rfl) ?_ ?_ ?_ (by assumption) ?_
          rotate_left 2
          · rw [hops.out]; simp only [List.getElem?_toArray, List.getElem?_cons_succ, List.getElem?_cons_zero]; rfl
          · rw [hops.out]; kernel_rfl
          · intro W hW; (try dsimp only at hW); go_simp <;> with_reducible rfl
          · exact fun _ _ _ h => h
          try simp only [Act.put, List.setIfInBounds_toArray, List.set_cons_zero, List.set_cons_succ]
          refine take_do 14 (oi := ?_) (v := ?_) ?_ (by rw [hops.out]; kernel_rfl) ?_ ?_ ?_ (by assumption) ?_
          rotate_left 2
          · rw [hops.out]; simp only [List.getElem?_toArray, List.getElem?_cons_succ, List.getElem?_cons_zero]; rfl
          · rw [hops.out]; kernel_rfl
          · intro W hW; (try dsimp only at hW); go_simp <;> with_reducible rfl
          · exact fun _ _ _ h => h
          try simp only [Act.put, List.setIfInBounds_toArray, List.set_cons_zero, List.set_cons_succ]
          refine take_do 15 (oi := ?_) (v := ?_) ?_ (by rw [hops.out]; kernel_rfl) ?_ ?_ ?_ (by assumption) ?_
          rotate_left 2
          · rw [hops.out]; simp only [List.getElem?_toArray, List.getElem?_cons_succ, List.getElem?_cons_zero]; rfl
          · rw [hops.out]; kernel_rfl
          · intro W hW; (try dsimp only at hW); go_simp <;> with_reducible rfl
          · exact fun _ _ _ h => h
          try simp only [Act.put, List.setIfInBounds_toArray, List.set_cons_zero, List.set_cons_succ]
          refine take_do 16 (oi := ?_) (v := ?_) ?_ (by rw [hops.out]; kernel_rfl) ?_ ?_ ?_ (by assumption) ?_
          rotate_left 2
          · rw [hops.out]; simp only [List.getElem?_toArray, List.getElem?_cons_succ, List.getElem?_cons_zero]; rfl
          · rw [hops.out]; kernel_rfl
          · intro W hW; (try dsimp only at hW); go_simp <;> with_reducible rfl
          · exact fun _ _ _ h => h
          try simp only [Act.put, List.setIfInBounds_toArray, List.set_cons_zero, List.set_cons_succ]
          refine take_do 17 (oi := ?_) (v := ?_) ?_ (by rw [hops.out]; kernel_rfl) ?_ ?_ ?_ (by assumption) ?_
          rotate_left 2
          · rw [hops.out]; simp only [List.getElem?_toArray, List.getElem?_cons_succ, List.getElem?_cons_zero]; rfl
          · rw [hops.out]; kernel_rfl
          · intro W hW; (try dsimp only at hW); go_simp <;> with_reducible rfl
          · exact fun _ _ _ h => h
          try simp only [Act.put, List.setIfInBounds_toArray, List.set_cons_zero, List.set_cons_succ]
          refine take_do 18 (oi := ?_) (v := ?_) ?_ (by rw [hops.out]; kernel_rfl) ?_ ?_ ?_ (by assumption) ?_
          rotate_left 2
          · rw [hops.out]; simp only [List.getElem?_toArray, List.getElem?_cons_succ, List.getElem?_cons_zero]; rfl
          · rw [hops.out]; kernel_rfl
          · intro W hW; (try dsimp only at hW); go_simp <;> with_reducible rfl
          · exact fun _ _ _ h => h
          try simp only [Act.put, List.setIfInBounds_toArray, List.set_cons_zero, List.set_cons_succ]
          refine take_call 19 (oi := ?_) ?_ (by rw [hops.out]; kernel_rfl) ?_ ?_
          rotate_left 1
          · rw [hops.out]; simp only [List.getElem?_toArray, List.getElem?_cons_succ, List.getElem?_cons_zero]; rfl
          · rw [hops.out]; kernel_rfl
          intro K hK
          go_simp
          refine (HBF.out _).mono ?_
          rintro e w2 ⟨rfl, b2⟩
          have hSn : _ ∧ _ := (show ((fun W => W.cell? ⟨b, off + k * 8, none⟩ = some (.int .i64 l.1.area) ∧ W.cell? ⟨b, off + k * 8 + 1, none⟩ = some (.int .i64 l.1.kind) ∧ W.cell? ⟨b, off + k * 8 + 2, none⟩ = some (.int .i64 l.1.owner) ∧ W.cell? ⟨b, off + k * 8 + 3, none⟩ = some (.int .i64 l.1.key) ∧ W.cell? ⟨b, off + k * 8 + 4, none⟩ = some (.int .i64 l.1.seq) ∧ W.cell? ⟨b, off + k * 8 + 5, none⟩ = some (l.2) ∧ W.cell? ⟨b, off + k * 8 + 6, none⟩ = some (.int .i64 l.1.cost) ∧ W.cell? ⟨b, off + k * 8 + 7, none⟩ = some (.bool l.1.far) ∧ W.cell? ⟨b, off + j * 8, none⟩ = some (.int .i64 p.1.area) ∧ W.cell? ⟨b, off + j * 8 + 1, none⟩ = some (.int .i64 p.1.kind) ∧ W.cell? ⟨b, off + j * 8 + 2, none⟩ = some (.int .i64 p.1.owner) ∧ W.cell? ⟨b, off + j * 8 + 3, none⟩ = some (.int .i64 p.1.key) ∧ W.cell? ⟨b, off + j * 8 + 4, none⟩ = some (.int .i64 p.1.seq) ∧ W.cell? ⟨b, off + j * 8 + 5, none⟩ = some (p.2) ∧ W.cell? ⟨b, off + j * 8 + 6, none⟩ = some (.int .i64 p.1.cost) ∧ W.cell? ⟨b, off + j * 8 + 7, none⟩ = some (.bool p.1.far))) w2 from by
            obtain ⟨m0, m1, m2, m3, m4, m5, m6, m7, n0, n1, n2, n3, n4, n5, n6, n7⟩ := hHeld
            refine ⟨?_, ?_, ?_, ?_, ?_, ?_, ?_, ?_, ?_, ?_, ?_, ?_, ?_, ?_, ?_, ?_⟩ <;> (refine (b2.cell ?_).trans ?_ <;> assumption))
          refine hK.out _ _ hSn (fun hHeld => ?_)
          clear hK K hSn
          try simp only [Act.put, List.setIfInBounds_toArray, List.set_cons_zero, List.set_cons_succ]
          refine take_do 20 (oi := ?_) (v := ?_) ?_ (by rw [hops.out]; kernel_rfl) ?_ ?_ ?_ (by assumption) ?_
          rotate_left 2
          · rw [hops.out]; simp only [List.getElem?_toArray, List.getElem?_cons_succ, List.getElem?_cons_zero]; rfl
          · rw [hops.out]; kernel_rfl
          · intro W hW; (try dsimp only at hW); go_simp <;> with_reducible rfl
          · exact fun _ _ _ h => h
          try simp only [Act.put, List.setIfInBounds_toArray, List.set_cons_zero, List.set_cons_succ]
          refine take_do 21 (oi := ?_) (v := ?_) ?_ (by rw [hops.out]; kernel_rfl) ?_ ?_ ?_ (by assumption) ?_
          rotate_left 2
          · rw [hops.out]; simp only [List.getElem?_toArray, List.getElem?_cons_succ, List.getElem?_cons_zero]; rfl
          · rw [hops.out]; kernel_rfl
          · intro W hW; (try dsimp only at hW); go_simp <;> with_reducible rfl
          · exact fun _ _ _ h => h
          try simp only [Act.put, List.setIfInBounds_toArray, List.set_cons_zero, List.set_cons_succ]
          refine take_do 22 (oi := ?_) (v := ?_) ?_ (by rw [hops.out]; kernel_rfl) ?_ ?_ ?_ (by assumption) ?_
          rotate_left 2
          · rw [hops.out]; simp only [List.getElem?_toArray, List.getElem?_cons_succ, List.getElem?_cons_zero]; rfl
          · rw [hops.out]; kernel_rfl
          · intro W hW; (try dsimp only at hW); go_simp <;> with_reducible rfl
          · exact fun _ _ _ h => h
          try simp only [Act.put, List.setIfInBounds_toArray, List.set_cons_zero, List.set_cons_succ]
          refine wpAnyH_done (by rw [hops.out]; kernel_rfl) ?_ _
          clear hops ops
          go_wp2
          go_ret
          exact ⟨ret_bool HF.out, (hnd.trans (b1.mono hsz)).trans (b2.mono (by have := b1.size; have : wr.drew.heap.size = wr.heap.size := rfl; omega))⟩
        · go_wp2
          refine wp_region_start (S := (fun W => W.cell? ⟨b, off + k * 8, none⟩ = some (.int .i64 l.1.area) ∧ W.cell? ⟨b, off + k * 8 + 1, none⟩ = some (.int .i64 l.1.kind) ∧ W.cell? ⟨b, off + k * 8 + 2, none⟩ = some (.int .i64 l.1.owner) ∧ W.cell? ⟨b, off + k * 8 + 3, none⟩ = some (.int .i64 l.1.key) ∧ W.cell? ⟨b, off + k * 8 + 4, none⟩ = some (.int .i64 l.1.seq) ∧ W.cell? ⟨b, off + k * 8 + 5, none⟩ = some (l.2) ∧ W.cell? ⟨b, off + k * 8 + 6, none⟩ = some (.int .i64 l.1.cost) ∧ W.cell? ⟨b, off + k * 8 + 7, none⟩ = some (.bool l.1.far) ∧ W.cell? ⟨b, off + j * 8, none⟩ = some (.int .i64 p.1.area) ∧ W.cell? ⟨b, off + j * 8 + 1, none⟩ = some (.int .i64 p.1.kind) ∧ W.cell? ⟨b, off + j * 8 + 2, none⟩ = some (.int .i64 p.1.owner) ∧ W.cell? ⟨b, off + j * 8 + 3, none⟩ = some (.int .i64 p.1.key) ∧ W.cell? ⟨b, off + j * 8 + 4, none⟩ = some (.int .i64 p.1.seq) ∧ W.cell? ⟨b, off + j * 8 + 5, none⟩ = some (p.2) ∧ W.cell? ⟨b, off + j * 8 + 6, none⟩ = some (.int .i64 p.1.cost) ∧ W.cell? ⟨b, off + j * 8 + 7, none⟩ = some (.bool p.1.far))) (by kernel_rfl) 23 rfl ⟨c0, c1, c2, c3, c4, c5, c6, c7, d0, d1, d2, d3, d4, d5, d6, d7⟩ (fun ops hops hHeld => ?_)
          refine take_do 0 (oi := ?_) (v := ?_) ?_ (by rw [hops.out]; kernel_rfl) ?_ ?_ ?_ (by assumption) ?_
          rotate_left 2
          · rw [hops.out]; simp only [List.getElem?_toArray, List.getElem?_cons_succ, List.getElem?_cons_zero]; rfl
          · rw [hops.out]; kernel_rfl
          · intro W hW; (try dsimp only at hW); go_simp <;> with_reducible rfl
          · exact fun _ _ _ h => h
          try simp only [Act.put, List.setIfInBounds_toArray, List.set_cons_zero, List.set_cons_succ]
          refine take_do 1 (oi := ?_) (v := ?_) ?_ (by rw [hops.out]; kernel_rfl) ?_ ?_ ?_ (by assumption) ?_
          rotate_left 2
          · rw [hops.out]; simp only [List.getElem?_toArray, List.getElem?_cons_succ, List.getElem?_cons_zero]; rfl
          · rw [hops.out]; kernel_rfl
          · intro W hW; (try dsimp only at hW); go_simp <;> with_reducible rfl
          · exact fun _ _ _ h => h
          try simp only [Act.put, List.setIfInBounds_toArray, List.set_cons_zero, List.set_cons_succ]
          refine take_do 2 (oi := ?_) (v := ?_) ?_ (by rw [hops.out]; kernel_rfl) ?_ ?_ ?_ (by assumption) ?_
          rotate_left 2
          · rw [hops.out]; simp only [List.getElem?_toArray, List.getElem?_cons_succ, List.getElem?_cons_zero]; rfl
          · rw [hops.out]; kernel_rfl
          · intro W hW; (try dsimp only at hW); go_simp <;> with_reducible rfl
          · exact fun _ _ _ h => h
          try simp only [Act.put, List.setIfInBounds_toArray, List.set_cons_zero, List.set_cons_succ]
          refine take_do 3 (oi := ?_) (v := ?_) ?_ (by rw [hops.out]; kernel_rfl) ?_ ?_ ?_ (by assumption) ?_
          rotate_left 2
          · rw [hops.out]; simp only [List.getElem?_toArray, List.getElem?_cons_succ, List.getElem?_cons_zero]; rfl
          · rw [hops.out]; kernel_rfl
          · intro W hW; (try dsimp only at hW); go_simp <;> with_reducible rfl
          · exact fun _ _ _ h => h
          try simp only [Act.put, List.setIfInBounds_toArray, List.set_cons_zero, List.set_cons_succ]
          refine take_call 4 (oi := ?_) ?_ (by rw [hops.out]; kernel_rfl) ?_ ?_
          rotate_left 1
          · rw [hops.out]; simp only [List.getElem?_toArray, List.getElem?_cons_succ, List.getElem?_cons_zero]; rfl
          · rw [hops.out]; kernel_rfl
          intro K hK
          go_simp
          refine (HOK.out _ hnd).mono ?_
          rintro e w1 ⟨rfl, b1⟩
          have hSn : _ ∧ _ := (show ((fun W => W.cell? ⟨b, off + k * 8, none⟩ = some (.int .i64 l.1.area) ∧ W.cell? ⟨b, off + k * 8 + 1, none⟩ = some (.int .i64 l.1.kind) ∧ W.cell? ⟨b, off + k * 8 + 2, none⟩ = some (.int .i64 l.1.owner) ∧ W.cell? ⟨b, off + k * 8 + 3, none⟩ = some (.int .i64 l.1.key) ∧ W.cell? ⟨b, off + k * 8 + 4, none⟩ = some (.int .i64 l.1.seq) ∧ W.cell? ⟨b, off + k * 8 + 5, none⟩ = some (l.2) ∧ W.cell? ⟨b, off + k * 8 + 6, none⟩ = some (.int .i64 l.1.cost) ∧ W.cell? ⟨b, off + k * 8 + 7, none⟩ = some (.bool l.1.far) ∧ W.cell? ⟨b, off + j * 8, none⟩ = some (.int .i64 p.1.area) ∧ W.cell? ⟨b, off + j * 8 + 1, none⟩ = some (.int .i64 p.1.kind) ∧ W.cell? ⟨b, off + j * 8 + 2, none⟩ = some (.int .i64 p.1.owner) ∧ W.cell? ⟨b, off + j * 8 + 3, none⟩ = some (.int .i64 p.1.key) ∧ W.cell? ⟨b, off + j * 8 + 4, none⟩ = some (.int .i64 p.1.seq) ∧ W.cell? ⟨b, off + j * 8 + 5, none⟩ = some (p.2) ∧ W.cell? ⟨b, off + j * 8 + 6, none⟩ = some (.int .i64 p.1.cost) ∧ W.cell? ⟨b, off + j * 8 + 7, none⟩ = some (.bool p.1.far))) w1 from by
            obtain ⟨m0, m1, m2, m3, m4, m5, m6, m7, n0, n1, n2, n3, n4, n5, n6, n7⟩ := hHeld
            refine ⟨?_, ?_, ?_, ?_, ?_, ?_, ?_, ?_, ?_, ?_, ?_, ?_, ?_, ?_, ?_, ?_⟩ <;> (refine (b1.cell ?_).trans ?_ <;> assumption))
          refine hK.out _ _ hSn (fun hHeld => ?_)
          clear hK K hSn
          try simp only [Act.put, List.setIfInBounds_toArray, List.set_cons_zero, List.set_cons_succ]
          have hbr : b < w1.heap.size := Nat.lt_of_lt_of_le hbr b1.size
          refine take_do 5 (oi := ?_) (v := ?_) ?_ (by rw [hops.out]; kernel_rfl) ?_ ?_ ?_ (by assumption) ?_
          rotate_left 2
          · rw [hops.out]; simp only [List.getElem?_toArray, List.getElem?_cons_succ, List.getElem?_cons_zero]; rfl
          · rw [hops.out]; kernel_rfl
          · intro W hW; (try dsimp only at hW); go_simp <;> with_reducible rfl
          · exact fun _ _ _ h => h
          try simp only [Act.put, List.setIfInBounds_toArray, List.set_cons_zero, List.set_cons_succ]
          refine take_do 6 (oi := ?_) (v := ?_) ?_ (by rw [hops.out]; kernel_rfl) ?_ ?_ ?_ (by assumption) ?_
          rotate_left 2
          · rw [hops.out]; simp only [List.getElem?_toArray, List.getElem?_cons_succ, List.getElem?_cons_zero]; rfl
          · rw [hops.out]; kernel_rfl
          · intro W hW; (try dsimp only at hW); go_simp <;> with_reducible rfl
          · exact fun _ _ _ h => h
          try simp only [Act.put, List.setIfInBounds_toArray, List.set_cons_zero, List.set_cons_succ]
          refine take_do 7 (oi := ?_) (v := ?_) ?_ (by rw [hops.out]; kernel_rfl) ?_ ?_ ?_ (by assumption) ?_
          rotate_left 2
          · rw [hops.out]; simp only [List.getElem?_toArray, List.getElem?_cons_succ, List.getElem?_cons_zero]; rfl
          · rw [hops.out]; kernel_rfl
          · intro W hW; (try dsimp only at hW); go_simp <;> with_reducible rfl
          · exact fun _ _ _ h => h
          try simp only [Act.put, List.setIfInBounds_toArray, List.set_cons_zero, List.set_cons_succ]
          refine take_do 8 (oi := ?_) (v := .bool true) ?_ (by rw [hops.out]; kernel_rfl) ?_ ?_ ?_ (by assumption) ?_
          rotate_left 1
          · rw [hops.out]; simp only [List.getElem?_toArray, List.getElem?_cons_succ, List.getElem?_cons_zero]; rfl
          · rw [hops.out]; kernel_rfl
          · intro W hW; (try dsimp only at hW); go_simp <;> (first | with_reducible rfl | (simp; omega) | omega)
          · exact fun _ _ _ h => h
          try simp only [Act.put, List.setIfInBounds_toArray, List.set_cons_zero, List.set_cons_succ]
          refine take_do 9 (oi := ?_) (v := ?_) ?_ (by rw [hops.out]; kernel_rfl) ?_ ?_ ?_ (by assumption) ?_
          rotate_left 2
          · rw [hops.out]; simp only [List.getElem?_toArray, List.getElem?_cons_succ, List.getElem?_cons_zero]; rfl
          · rw [hops.out]; kernel_rfl
          · intro W hW; (try dsimp only at hW); go_simp <;> with_reducible rfl
          · exact fun _ _ _ h => h
          try simp only [Act.put, List.setIfInBounds_toArray, List.set_cons_zero, List.set_cons_succ]
          refine take_do 10 (oi := ?_) (v := ?_) ?_ (by rw [hops.out]; kernel_rfl) ?_ ?_ ?_ (by assumption) ?_
          rotate_left 2
          · rw [hops.out]; simp only [List.getElem?_toArray, List.getElem?_cons_succ, List.getElem?_cons_zero]; rfl
          · rw [hops.out]; kernel_rfl
          · intro W hW; (try dsimp only at hW); go_simp <;> with_reducible rfl
          · exact fun _ _ _ h => h
          try simp only [Act.put, List.setIfInBounds_toArray, List.set_cons_zero, List.set_cons_succ]
          refine take_do 11 (oi := ?_) (v := ?_) ?_ (by rw [hops.out]; kernel_rfl) ?_ ?_ ?_ (by assumption) ?_
          rotate_left 2
          · rw [hops.out]; simp only [List.getElem?_toArray, List.getElem?_cons_succ, List.getElem?_cons_zero]; rfl
          · rw [hops.out]; kernel_rfl
          · intro W hW; (try dsimp only at hW); go_simp <;> with_reducible rfl
          · exact fun _ _ _ h => h
          try simp only [Act.put, List.setIfInBounds_toArray, List.set_cons_zero, List.set_cons_succ]
          refine take_do 12 (oi := ?_) (v := ?_) ?_ (by rw [hops.out]; kernel_rfl) ?_ ?_ ?_ (by assumption) ?_
          rotate_left 2
          · rw [hops.out]; simp only [List.getElem?_toArray, List.getElem?_cons_succ, List.getElem?_cons_zero]; rfl
          · rw [hops.out]; kernel_rfl
          · intro W hW; (try dsimp only at hW); go_simp <;> with_reducible rfl
          · exact fun _ _ _ h => h
          try simp only [Act.put, List.setIfInBounds_toArray, List.set_cons_zero, List.set_cons_succ]
          refine take_do 13 (oi := ?_) (v := ?_) ?_ (by rw [hops.out]; kernel_rfl) ?_ ?_ ?_ (by assumption) ?_
          rotate_left 2
          · rw [hops.out]; simp only [List.getElem?_toArray, List.getElem?_cons_succ, List.getElem?_cons_zero]; rfl
          · rw [hops.out]; kernel_rfl
          · intro W hW; (try dsimp only at hW); go_simp <;> with_reducible rfl
          · exact fun _ _ _ h => h
          try simp only [Act.put, List.setIfInBounds_toArray, List.set_cons_zero, List.set_cons_succ]
          refine take_do 14 (oi := ?_) (v := ?_) ?_ (by rw [hops.out]; kernel_rfl) ?_ ?_ ?_ (by assumption) ?_
          rotate_left 2
          · rw [hops.out]; simp only [List.getElem?_toArray, List.getElem?_cons_succ, List.getElem?_cons_zero]; rfl
          · rw [hops.out]; kernel_rfl
          · intro W hW; (try dsimp only at hW); go_simp <;> with_reducible rfl
          · exact fun _ _ _ h => h
          try simp only [Act.put, List.setIfInBounds_toArray, List.set_cons_zero, List.set_cons_succ]
          refine take_do 15 (oi := ?_) (v := ?_) ?_ (by rw [hops.out]; kernel_rfl) ?_ ?_ ?_ (by assumption) ?_
          rotate_left 2
          · rw [hops.out]; simp only [List.getElem?_toArray, List.getElem?_cons_succ, List.getElem?_cons_zero]; rfl
          · rw [hops.out]; kernel_rfl
          · intro W hW; (try dsimp only at hW); go_simp <;> with_reducible rfl
          · exact fun _ _ _ h => h
          try simp only [Act.put, List.setIfInBounds_toArray, List.set_cons_zero, List.set_cons_succ]
          refine take_do 16 (oi := ?_) (v := ?_) ?_ (by rw [hops.out]; kernel_rfl) ?_ ?_ ?_ (by assumption) ?_
          rotate_left 2
          · rw [hops.out]; simp only [List.getElem?_toArray, List.getElem?_cons_succ, List.getElem?_cons_zero]; rfl
          · rw [hops.out]; kernel_rfl
          · intro W hW; (try dsimp only at hW); go_simp <;> with_reducible rfl
          · exact fun _ _ _ h => h
          try simp only [Act.put, List.setIfInBounds_toArray, List.set_cons_zero, List.set_cons_succ]
          refine take_do 17 (oi := ?_) (v := ?_) ?_ (by rw [hops.out]; kernel_rfl) ?_ ?_ ?_ (by assumption) ?_
          rotate_left 2
          · rw [hops.out]; simp only [List.getElem?_toArray, List.getElem?_cons_succ, List.getElem?_cons_zero]; rfl
          · rw [hops.out]; kernel_rfl
          · intro W hW; (try dsimp only at hW); go_simp <;> with_reducible rfl
          · exact fun _ _ _ h => h
          try simp only [Act.put, List.setIfInBounds_toArray, List.set_cons_zero, List.set_cons_succ]
          refine take_do 18 (oi := ?_) (v := ?_) ?_ (by rw [hops.out]; kernel_rfl) ?_ ?_ ?_ (by assumption) ?_
          rotate_left 2
          · rw [hops.out]; simp only [List.getElem?_toArray, List.getElem?_cons_succ, List.getElem?_cons_zero]; rfl
          · rw [hops.out]; kernel_rfl
          · intro W hW; (try dsimp only at hW); go_simp <;> with_reducible rfl
          · exact fun _ _ _ h => h
          try simp only [Act.put, List.setIfInBounds_toArray, List.set_cons_zero, List.set_cons_succ]
          refine take_call 19 (oi := ?_) ?_ (by rw [hops.out]; kernel_rfl) ?_ ?_
          rotate_left 1
          · rw [hops.out]; simp only [List.getElem?_toArray, List.getElem?_cons_succ, List.getElem?_cons_zero]; rfl
          · rw [hops.out]; kernel_rfl
          intro K hK
          go_simp
          refine (HBF.out _).mono ?_
          rintro e w2 ⟨rfl, b2⟩
          have hSn : _ ∧ _ := (show ((fun W => W.cell? ⟨b, off + k * 8, none⟩ = some (.int .i64 l.1.area) ∧ W.cell? ⟨b, off + k * 8 + 1, none⟩ = some (.int .i64 l.1.kind) ∧ W.cell? ⟨b, off + k * 8 + 2, none⟩ = some (.int .i64 l.1.owner) ∧ W.cell? ⟨b, off + k * 8 + 3, none⟩ = some (.int .i64 l.1.key) ∧ W.cell? ⟨b, off + k * 8 + 4, none⟩ = some (.int .i64 l.1.seq) ∧ W.cell? ⟨b, off + k * 8 + 5, none⟩ = some (l.2) ∧ W.cell? ⟨b, off + k * 8 + 6, none⟩ = some (.int .i64 l.1.cost) ∧ W.cell? ⟨b, off + k * 8 + 7, none⟩ = some (.bool l.1.far) ∧ W.cell? ⟨b, off + j * 8, none⟩ = some (.int .i64 p.1.area) ∧ W.cell? ⟨b, off + j * 8 + 1, none⟩ = some (.int .i64 p.1.kind) ∧ W.cell? ⟨b, off + j * 8 + 2, none⟩ = some (.int .i64 p.1.owner) ∧ W.cell? ⟨b, off + j * 8 + 3, none⟩ = some (.int .i64 p.1.key) ∧ W.cell? ⟨b, off + j * 8 + 4, none⟩ = some (.int .i64 p.1.seq) ∧ W.cell? ⟨b, off + j * 8 + 5, none⟩ = some (p.2) ∧ W.cell? ⟨b, off + j * 8 + 6, none⟩ = some (.int .i64 p.1.cost) ∧ W.cell? ⟨b, off + j * 8 + 7, none⟩ = some (.bool p.1.far))) w2 from by
            obtain ⟨m0, m1, m2, m3, m4, m5, m6, m7, n0, n1, n2, n3, n4, n5, n6, n7⟩ := hHeld
            refine ⟨?_, ?_, ?_, ?_, ?_, ?_, ?_, ?_, ?_, ?_, ?_, ?_, ?_, ?_, ?_, ?_⟩ <;> (refine (b2.cell ?_).trans ?_ <;> assumption))
          refine hK.out _ _ hSn (fun hHeld => ?_)
          clear hK K hSn
          try simp only [Act.put, List.setIfInBounds_toArray, List.set_cons_zero, List.set_cons_succ]
          refine take_do 20 (oi := ?_) (v := ?_) ?_ (by rw [hops.out]; kernel_rfl) ?_ ?_ ?_ (by assumption) ?_
          rotate_left 2
          · rw [hops.out]; simp only [List.getElem?_toArray, List.getElem?_cons_succ, List.getElem?_cons_zero]; rfl
          · rw [hops.out]; kernel_rfl
          · intro W hW; (try dsimp only at hW); go_simp <;> with_reducible rfl
          · exact fun _ _ _ h => h
          try simp only [Act.put, List.setIfInBounds_toArray, List.set_cons_zero, List.set_cons_succ]
          refine take_do 21 (oi := ?_) (v := ?_) ?_ (by rw [hops.out]; kernel_rfl) ?_ ?_ ?_ (by assumption) ?_
          rotate_left 2
          · rw [hops.out]; simp only [List.getElem?_toArray, List.getElem?_cons_succ, List.getElem?_cons_zero]; rfl
          · rw [hops.out]; kernel_rfl
          · intro W hW; (try dsimp only at hW); go_simp <;> with_reducible rfl
          · exact fun _ _ _ h => h
          try simp only [Act.put, List.setIfInBounds_toArray, List.set_cons_zero, List.set_cons_succ]
          refine take_do 22 (oi := ?_) (v := ?_) ?_ (by rw [hops.out]; kernel_rfl) ?_ ?_ ?_ (by assumption) ?_
          rotate_left 2
          · rw [hops.out]; simp only [List.getElem?_toArray, List.getElem?_cons_succ, List.getElem?_cons_zero]; rfl
          · rw [hops.out]; kernel_rfl
          · intro W hW; (try dsimp only at hW); go_simp <;> with_reducible rfl
          · exact fun _ _ _ h => h
          try simp only [Act.put, List.setIfInBounds_toArray, List.set_cons_zero, List.set_cons_succ]
          refine wpAnyH_done (by rw [hops.out]; kernel_rfl) ?_ _
          clear hops ops
          go_wp2
          exact ⟨⟨k + 1, by omega, by go_num, next_true HALL.out HAT1.out, next_true HASC.out HAT2.out, (hnd.trans (b1.mono hsz)).trans (b2.mono (by have := b1.size; have : wr.drew.heap.size = wr.heap.size := rfl; omega))⟩, by simp [intOf]; omega⟩
    · have e1 : allOk recOkB (fsts ps) = true := all_true fun i hi => HALL.out i (by have := HFL.out; omega)
      have e3 : ascB ordR (fsts ps) = true := all_true fun i hi => HASC.out i (by have := HFL.out; omega)
      have e2 : storeB (fsts ps) = true := by
        unfold storeB
        rw [e1, e3, decide_eq_true (by have := HFL.out; omega)]
        rfl
      have HE := hide e2
      clear e1 e2 e3
      go_wp2
      go_ret
      exact ⟨ret_bool HE.out, hnx⟩
end Go.Proofs.YtimbeeinognjbaaGreatDoor
namespace Go.Proofs.YtimbeeinognjbaaGreatDoor
open Go.RowKit

set_option linter.unusedSimpArgs false

set_option maxRecDepth 100000 in
set_option maxHeartbeats 4000000 in
theorem sselfOk_any (v1 v2 v3 v4 : Value) (x : SelfD) (ps : List RP) (w : World) (ht : totS x ps ≤ 1048576) (hv : SelfIn w v1 v2 v3 v4 x ps w.heap.size) :
    Calls Tryz.prog 18 #[selfV x v1 v2 v3 v4] w fun e w' => e = .returned (.bool (selfB x ps)) ∧ Below w.heap.size w w' := by
  obtain ⟨⟨a1, c1, rfl⟩, ⟨a2, c2, rfl⟩, ⟨a3, c3, rfl⟩, ⟨a4, c4, rfl⟩⟩ := hv.shapes
  have hlL : x.net.ls.length ≤ 1048576 := by unfold totS at ht; omega
  have hlT : x.net.ts.length ≤ 1048576 := by unfold totS at ht; omega
  have hlH : x.heard.length ≤ 1048576 := by unfold totS at ht; omega
  have hlR : tot ps ≤ 1048576 := by unfold totS at ht; omega
  have HX := hide hv
  clear hv ht
  have BA : Below w.heap.size w (w.alloc (.cells #[.int .i64 x.id, .int .i64 x.boot, .int .i64 x.net.n, .slice a1 x.net.ls.length c1, .slice a2 x.net.ts.length c2, .slice a3 x.heard.length c3, .slice a4 ps.length c4] 41)) := (Below.refl _ _).alloc (Nat.le_refl _) _
  have g0 := heap_alloc_new w (.cells #[.int .i64 x.id, .int .i64 x.boot, .int .i64 x.net.n, .slice a1 x.net.ls.length c1, .slice a2 x.net.ts.length c2, .slice a3 x.heard.length c3, .slice a4 ps.length c4] 41)
  obtain ⟨r1, h1⟩ : ∃ r, r = netOkI x.net := ⟨_, rfl⟩
  obtain ⟨r2, h2⟩ : ∃ r, r = inB x.id 1 x.net.n := ⟨_, rfl⟩
  obtain ⟨r3, h3⟩ : ∃ r, r = inB x.boot 0 90 := ⟨_, rfl⟩
  obtain ⟨r4, h4⟩ : ∃ r, r = heardB x.net.ls x.id x.heard := ⟨_, rfl⟩
  obtain ⟨r5, h5⟩ : ∃ r, r = storeB (fsts ps) := ⟨_, rfl⟩
  have HS := hide (show selfB x ps = (r1 && (r2 && (r3 && (r4 && r5)))) by unfold selfB; rw [h1, h2, h3, h4, h5])
  rw [HS.out]
  have HN := hide (snetOk_any _ x.net (w.alloc (.cells #[.int .i64 x.id, .int .i64 x.boot, .int .i64 x.net.n, .slice a1 x.net.ls.length c1, .slice a2 x.net.ts.length c2, .slice a3 x.heard.length c3, .slice a4 ps.length c4] 41)) hlL hlT (HX.out.then BA).net)
  have HI1 := hide (in_any x.id 1 x.net.n)
  have HI2 := hide (in_any x.boot 0 90)
  have HHD := hide (fun W (hb : Below w.heap.size w W) (hn : r1 = true) => sheard_any _ _ _ _ x ps W hlL hlH (HX.out.then hb))
  have HST := hide (fun W (hb : Below w.heap.size w W) => sstoreOk_any _ ps W hlR (HX.out.then hb).store)
  have HHE := hide (show r1 = true → heardSB x.net.ls x.id x.heard = r4 from fun hn => by rw [h4]; exact heardSB_eq (by rw [← h1]; exact hn))
  rw [← h1] at HN
  rw [← h2] at HI1
  rw [← h3] at HI2
  skip
  rw [← h5] at HST
  have G0 := hide g0
  clear h1 h2 h3 h4 h5 HS g0
  go_enter Tryz.func18, Tryz.ntmps18
  go_wp2_with fail
  obtain ⟨w0, hw0⟩ : ∃ W, W = w.alloc (.cells #[.int .i64 x.id, .int .i64 x.boot, .int .i64 x.net.n, .slice a1 x.net.ls.length c1, .slice a2 x.net.ts.length c2, .slice a3 x.heard.length c3, .slice a4 ps.length c4] 41) := ⟨_, rfl⟩
  rw [← hw0] at BA G0 HN ⊢
  clear hw0
  refine HN.out.mono ?_
  rintro e w1 ⟨rfl, b1⟩
  have g1 := (b1.block _ (lt_of_heap G0.out)).trans G0.out
  have B1 : Below w.heap.size w w1 := BA.trans (b1.mono BA.size)
  cases r1
  · go_wp2
    go_ret
    exact ⟨rfl, B1⟩
  have s0 := cells_at g1 0
  have s1 := cells_at g1 1
  have s2 := cells_at g1 2
  have s3 := cells_at g1 3
  have s4 := cells_at g1 4
  have s5 := cells_at g1 5
  have s6 := cells_at g1 6
  simp at s0 s1 s2 s3 s4 s5 s6
  have G1 := hide g1
  clear g1 b1 HN
  go_wp2_with fail
  refine (HI1.out _).mono ?_
  rintro e w2 ⟨rfl, rfl⟩
  cases r2
  · go_wp2
    go_ret
    exact ⟨rfl, B1⟩
  go_wp2_with fail
  refine (HI2.out _).mono ?_
  rintro e w2 ⟨rfl, rfl⟩
  cases r3
  · go_wp2
    go_ret
    exact ⟨rfl, B1⟩
  go_wp2_with fail
  refine (HHD.out _ B1 (by simp)).mono ?_
  rintro e w3 ⟨rfl, b3⟩
  rw [HHE.out (by simp)]
  have g3 := (b3.block _ (lt_of_heap G1.out)).trans G1.out
  have B3 : Below w.heap.size w w3 := B1.trans (b3.mono B1.size)
  cases r4
  · clear s0 s1 s2 s3 s4 s5 s6
    go_wp2
    go_ret
    exact ⟨rfl, B3⟩
  clear s0 s1 s2 s3 s4 s5 s6
  have s6 := cells_at g3 6
  simp at s6
  clear g3 b3
  go_wp2_with fail
  refine (HST.out _ B3).mono ?_
  rintro e w4 ⟨rfl, b4⟩
  have B4 : Below w.heap.size w w4 := B3.trans (b4.mono B3.size)
  clear b4
  go_wp2
  go_ret
  exact ⟨by simp, B4⟩
end Go.Proofs.YtimbeeinognjbaaGreatDoor
