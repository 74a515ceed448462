/-
  impl.PacketOk: its contract, and those of what it calls.
  impl.PacketOk: its contract.
  Where a key stands in a list: spec.l05At, impl's placeOf.
  spec.Newer, impl.Newer: their contracts.
  Two small laws on rows (cut out of RdN).
-/
import Derived.Test.YtchmmekhfcojgaaGreatDoorPq8
import Derived.Test.YtchmmekhfcojgaaGreatDoorPq9
import Derived.Test.YtchmmekhfcojgaaGreatDoorPq3
import Derived.Test.YtchmmekhfcojgaaGreatDoorPq10
import Derived.Deep.RegionHeld3
import Derived.Test.YtchmmekhfcojgaaGreatDoorPq4
import Derived.Test.YtchmmekhfcojgaaGreatDoorPq5
import Derived.Test.YtchmmekhfcojgaaGreatDoorPq1
import Derived.Deep.QuietTactic
import Derived.BigQuiet
namespace Go.Proofs.YtchmmekhfcojgaaGreatDoor
open Go.RowKit

set_option linter.unusedSimpArgs false

def nodesB (h : List Int) : Bool := allOk (fun z => inB z 1 6) h && ascB cmpN h

def toldB (a : Int) (xs : List RecD) : Bool := allOk (inScope a) xs && storeB xs

def headsB (xs : List RecD) : Bool := allOk (fun r => sameBodyB r (headD r)) xs

def saidB (x : PkD) (xs : List RecD) : Bool :=
  if x.kind = 1 then nodesB x.heard && (xs.length == 0)
  else if x.kind = 2 then (x.heard.length == 0) && (toldB x.area xs && headsB xs)
  else if x.kind = 3 then (x.heard.length == 0) && toldB x.area xs
  else false

def pkB (x : PkD) (xs : List RecD) : Bool := inB x.src 1 6 && (inB x.dst 1 6 && (!(x.src == x.dst) && (inB x.area 0 2 && saidB x xs)))

set_option maxRecDepth 100000 in
set_option maxHeartbeats 4000000 in
theorem ascI_any (v : Value) (ls : List Int) (w : World) (hls : ls.length ≤ 1048576) (hv : HopsAt w v ls w.heap.size) :
    Calls Tryz.prog 83 #[v, .func (.func 84) #[] #[]] w fun e w' => e = .returned (.bool (ascB cmpN ls)) ∧ Below w.heap.size w w' := by
  obtain ⟨a, cap, rfl⟩ := HopsAt.shape hv
  have HV := hide hv
  clear hv
  go_enter Tryz.func83, Tryz.ntmps83
  go_wp2
  go_loopw [5] (fun i wr => ∃ k : Nat, 1 ≤ k ∧ (k ≤ ls.length ∨ k = 1) ∧ i = .int .i64 k ∧ (∀ j, j < k → ascAt cmpN ls j = true) ∧ Below w.heap.size w wr) (fun i _ => ls.length + 1 - (intOf i).toNat)
  case atStart => exact ⟨1, by omega, by omega, rfl, fun j hj => by obtain rfl : j = 0 := by omega
                                                                    rfl, Below.refl _ _⟩
  case round =>
    obtain ⟨k, hk1, hk, rfl, hno, hb⟩ := hrel
    have HNO := hide hno
    clear hno
    by_cases hlt : k < ls.length
    · obtain ⟨l, hl⟩ : ∃ l, ls[k]? = some l := ⟨ls[k], List.getElem?_eq_getElem hlt⟩
      obtain ⟨j, hj⟩ : ∃ j, k = j + 1 := ⟨k - 1, by omega⟩
      obtain ⟨p, hp⟩ : ∃ p, ls[j]? = some p := ⟨ls[j], List.getElem?_eq_getElem (by omega)⟩
      obtain ⟨b, off, cap', hve, hbb, c0⟩ := HopsAt.cell HV.out k l hl
      cases hve
      obtain ⟨b', off', cap2, hve2, hbb2, d0⟩ := HopsAt.cell HV.out j p hp
      cases hve2
      rw [← hb.cell (p := ⟨b, off + k, none⟩) hbb] at c0
      rw [← hb.cell (p := ⟨b, off + j, none⟩) hbb] at d0
      have hat : ascAt cmpN ls k = decide (cmpN p l < 0) := by rw [hj]; exact ascAt_eq hp (by rw [← hj]; exact hl)
      have hzr := hb.size
      have hbr : b < wr.heap.size := by omega
      have hki : (0 : Int) ≤ (k : Int) := by omega
      have hkj : (k : Int) < (ls.length : Int) := by omega
      have hj1 : (k : Int) - 1 = (j : Int) := by omega
      have hj2 : (0 : Int) ≤ (j : Int) := by omega
      have hj3 : (j : Int) < (ls.length : Int) := by omega
      have hj5 : IntKind.i64.wrap (j : Int) = (j : Int) := wrap_fit _ (by omega) (by omega)
      have HORD := hide (compare_any p l)
      have HAT := hide hat
      have HJ := hide hj
      clear hl hp hat hj
      obtain ⟨x, hx⟩ : ∃ x, x = cmpN p l := ⟨_, rfl⟩
      rw [← hx] at HORD HAT
      clear hx
      by_cases hx0 : x < 0
      · have hx1 : ¬ (0 : Int) ≤ x := by omega
        rw [decide_eq_true hx0] at HAT
        go_wp2
        go_region_held3 (fun W => W.cell? ⟨b, off + k, none⟩ = some (.int .i64 l) ∧ W.cell? ⟨b, off + j, none⟩ = some (.int .i64 p)) (first | go_keep | assumption) (first | (go_at_call 84; refine (HORD.out _).mono ?_; rintro e w2 ⟨rfl, rfl⟩))
        go_wp2
        exact ⟨⟨k + 1, by omega, by omega, by go_num, next_true HNO.out HAT.out, hb.drew⟩, by simp [intOf]; omega⟩
      · have hx1 : (0 : Int) ≤ x := by omega
        rw [decide_eq_false hx0] at HAT
        have hf : ascB cmpN ls = false := all_false hlt HAT.out
        have HF := hide hf
        clear hf
        go_wp2
        go_region_held3 (fun W => W.cell? ⟨b, off + k, none⟩ = some (.int .i64 l) ∧ W.cell? ⟨b, off + j, none⟩ = some (.int .i64 p)) (first | go_keep | assumption) (first | (go_at_call 84; refine (HORD.out _).mono ?_; rintro e w2 ⟨rfl, rfl⟩))
        go_wp2
        go_ret
        exact ⟨ret_bool HF.out, hb.drew⟩
    · have hall : ascB cmpN ls = true := all_true fun i hi => HNO.out i (by omega)
      have HA := hide hall
      clear hall
      go_wp2
      go_ret
      exact ⟨ret_bool HA.out, hb⟩

theorem nodes_bad {h : List Int} {k : Nat} (hk : k < h.length) (hb : okAt (fun z => inB z 1 6) h k = false) : nodesB h = false := by unfold nodesB allOk; rw [all_false hk hb]; rfl

set_option maxRecDepth 100000 in
set_option maxHeartbeats 2000000 in
theorem nodesOk_any (v : Value) (h : List Int) (w : World) (hn : h.length ≤ 1048576) (hv : HopsAt w v h w.heap.size) :
    Calls Tryz.prog 54 #[v] w fun e w' => e = .returned (.bool (nodesB h)) ∧ Below w.heap.size w w' := by
  obtain ⟨a, cap, rfl⟩ := HopsAt.shape hv
  have HV := hide hv
  clear hv
  go_enter Tryz.func54, Tryz.ntmps54
  go_wp2
  go_loopw [7] (fun i wr => ∃ k : Nat, k ≤ h.length ∧ i = .int .i64 k ∧ (∀ j, j < k → okAt (fun z => inB z 1 6) h j = true) ∧ wr = w) (fun i _ => h.length - (intOf i).toNat)
  case atStart => exact ⟨0, by omega, rfl, by omega, rfl⟩
  case round =>
    obtain ⟨k, hk, rfl, hall, rfl⟩ := hrel
    have HALL := hide hall
    clear hall
    by_cases hlt : k < h.length
    · obtain ⟨z, hz⟩ : ∃ z, h[k]? = some z := ⟨h[k], List.getElem?_eq_getElem hlt⟩
      obtain ⟨b, off, cap', hve, hbb, c0⟩ := HopsAt.cell HV.out k z hz
      cases hve
      have HAT := okAt_eq (ok := fun z => inB z 1 6) hz
      have HIN := isIn_any z 1 6
      obtain ⟨q, hq⟩ : ∃ q, q = inB z 1 6 := ⟨_, rfl⟩
      rw [← hq] at HAT HIN
      have HAT2 := hide HAT
      have HIN2 := hide HIN
      clear hz HAT HIN hq
      have hki : (0 : Int) ≤ (k : Int) := by omega
      have hkj : (k : Int) < (h.length : Int) := by omega
      go_wp2_with fail
      refine (HIN2.out _).mono ?_
      rintro e w2 ⟨rfl, rfl⟩
      cases q
      · have HF := hide (nodes_bad hlt HAT2.out)
        go_wp2
        go_ret
        exact ⟨ret_bool HF.out, Below.refl _ _⟩
      · go_wp2
        go_roundw
        case rel => exact ⟨k + 1, by omega, by go_num, next_true HALL.out HAT2.out, trivial⟩
        case measure => simp [intOf]; omega
    · have e1 : allOk (fun z => inB z 1 6) h = true := all_true fun i hi => HALL.out i (by omega)
      have e2 : nodesB h = ascB cmpN h := by unfold nodesB; rw [e1]; rfl
      have HE := hide e2
      have HAS := hide (ascI_any _ h wr hn HV.out)
      clear e1 e2
      go_wp2_with fail
      refine HAS.out.mono ?_
      rintro e w2 ⟨rfl, b2⟩
      go_wp2
      go_ret
      exact ⟨ret_bool HE.out, b2⟩

theorem told_bad {a : Int} {xs : List RecD} {k : Nat} (hk : k < xs.length) (h : okAt (inScope a) xs k = false) : toldB a xs = false := by unfold toldB allOk; rw [all_false hk h]; rfl

theorem rows_none (W : World) (B : Nat) : NearsAt W (.slice none 0 0) [] B := ⟨none, 0, rfl, .inl (by simp)⟩

set_option maxRecDepth 100000 in
set_option maxHeartbeats 2000000 in
theorem toldIn_any (a : Int) (v : Value) (ps : List RP) (w : World) (hn : tot ps ≤ 1048576) (hv : RecsAt w v ps w.heap.size) :
    Calls Tryz.prog 55 #[.int .i64 a, v] w fun e w' => e = .returned (.bool (toldB a (fsts ps))) ∧ Below w.heap.size w w' := by
  have hnl := tot_len ps
  obtain ⟨a1, cap, rfl⟩ := hv.shape
  have HV := hide hv
  clear hv
  have HFL := hide (show (fsts ps).length = ps.length by simp [fsts])
  go_enter Tryz.func55, Tryz.ntmps55
  go_wp2
  go_loopw [9] (fun i wr => ∃ k : Nat, k ≤ ps.length ∧ i = .int .i64 k ∧ (∀ j, j < k → okAt (inScope a) (fsts ps) j = true) ∧ Below w.heap.size w wr) (fun i _ => ps.length - (intOf i).toNat)
  case atStart => exact ⟨0, by omega, rfl, by omega, Below.refl _ _⟩
  case round =>
    obtain ⟨k, hk, rfl, hall, hnx⟩ := hrel
    have HALL := hide hall
    clear hall
    have hsz := hnx.size
    by_cases hlt : k < ps.length
    · obtain ⟨p, hp⟩ : ∃ p, ps[k]? = some p := ⟨ps[k], List.getElem?_eq_getElem hlt⟩
      obtain ⟨b, off, cap', hve, hbb, c0, c1, c2, c3, c4, c5, c6, c7, hnr⟩ := HV.out.cells k p hp
      cases hve
      rw [← hnx.cell (p := ⟨b, off + k * 8, none⟩) hbb] at c0
      rw [← hnx.cell (p := ⟨b, off + k * 8 + 1, none⟩) hbb] at c1
      rw [← hnx.cell (p := ⟨b, off + k * 8 + 2, none⟩) hbb] at c2
      rw [← hnx.cell (p := ⟨b, off + k * 8 + 3, none⟩) hbb] at c3
      rw [← hnx.cell (p := ⟨b, off + k * 8 + 4, none⟩) hbb] at c4
      rw [← hnx.cell (p := ⟨b, off + k * 8 + 5, none⟩) hbb] at c5
      rw [← hnx.cell (p := ⟨b, off + k * 8 + 6, none⟩) hbb] at c6
      rw [← hnx.cell (p := ⟨b, off + k * 8 + 7, none⟩) hbb] at c7
      obtain ⟨pa, pc, hpn⟩ := NearsAt.shape hnr
      rw [hpn] at c5
      have HAT2 := hide (okAt_eq (ok := inScope a) (fsts_at hp))
      clear hp hnr hpn
      have hki : (0 : Int) ≤ (k : Int) := by omega
      have hkj : (k : Int) < (ps.length : Int) := by omega
      by_cases h1 : p.1.area = a
      · have hd : (p.1.area != a) = false := by simp [h1]
        have HT := hide (show okAt (inScope a) (fsts ps) k = true by rw [HAT2.out]; simp [inScope, h1])
        clear h1 HAT2
        go_wp2
        go_roundw
        case rel => exact ⟨k + 1, by omega, by go_num, next_true HALL.out HT.out, hnx.alloc hsz _⟩
        case measure => simp [intOf]; omega
      have hd : (p.1.area != a) = true := by simpa using h1
      by_cases h2 : p.1.area = 9
      · have hd2 : (p.1.area != 9) = false := by simp [h2]
        have HT := hide (show okAt (inScope a) (fsts ps) k = true by rw [HAT2.out]; simp [inScope, h2])
        clear h1 h2 HAT2
        go_wp2
        go_roundw
        case rel => exact ⟨k + 1, by omega, by go_num, next_true HALL.out HT.out, hnx.alloc hsz _⟩
        case measure => simp [intOf]; omega
      · have hd2 : (p.1.area != 9) = true := by simpa using h2
        have HT := hide (told_bad (by rw [HFL.out]; exact hlt) (show okAt (inScope a) (fsts ps) k = false by rw [HAT2.out]; simp [inScope, h1, h2]))
        clear h1 h2 HAT2
        go_wp2
        go_ret
        exact ⟨ret_bool HT.out, hnx.alloc hsz _⟩
    · have e1 : allOk (inScope a) (fsts ps) = true := all_true fun i hi => HALL.out i (by have := HFL.out; omega)
      have e2 : toldB a (fsts ps) = storeB (fsts ps) := by unfold toldB; rw [e1]; rfl
      have HE := hide e2
      have HIO := hide (istoreOk_any (.slice a1 ps.length cap) ps wr hn ((HV.out.later hnx (Nat.le_refl _)).more hsz))
      clear e1 e2
      go_wp2_with fail
      refine HIO.out.mono ?_
      rintro e w2 ⟨rfl, b2⟩
      go_wp2
      go_ret
      exact ⟨ret_bool HE.out, hnx.trans (b2.mono hsz)⟩

theorem heads_bad {xs : List RecD} {k : Nat} (hk : k < xs.length) (h : okAt (fun r => sameBodyB r (headD r)) xs k = false) : headsB xs = false := all_false hk h

set_option maxRecDepth 100000 in
set_option maxHeartbeats 4000000 in
theorem allHeaders_any (v : Value) (ps : List RP) (w : World) (hn : tot ps ≤ 1048576) (hv : RecsAt w v ps w.heap.size) :
    Calls Tryz.prog 56 #[v] w fun e w' => e = .returned (.bool (headsB (fsts ps))) ∧ Below w.heap.size w w' := by
  have hnl := tot_len ps
  obtain ⟨a1, cap, rfl⟩ := hv.shape
  have HV := hide hv
  clear hv
  have HFL := hide (show (fsts ps).length = ps.length by simp [fsts])
  go_enter Tryz.func56, Tryz.ntmps56
  go_wp2
  go_loopw [7] (fun i wr => ∃ k : Nat, k ≤ ps.length ∧ i = .int .i64 k ∧ (∀ j, j < k → okAt (fun r => sameBodyB r (headD r)) (fsts ps) j = true) ∧ Below w.heap.size w wr) (fun i _ => ps.length - (intOf i).toNat)
  case atStart => exact ⟨0, by omega, rfl, by omega, Below.refl _ _⟩
  case round =>
    obtain ⟨k, hk, rfl, hall, hnx⟩ := hrel
    have HALL := hide hall
    clear hall
    have hsz := hnx.size
    by_cases hlt : k < ps.length
    · obtain ⟨p, hp⟩ : ∃ p, ps[k]? = some p := ⟨ps[k], List.getElem?_eq_getElem hlt⟩
      obtain ⟨b, off, cap', hve, hbb, c0, c1, c2, c3, c4, c5, c6, c7, hnr⟩ := HV.out.cells k p hp
      cases hve
      rw [← hnx.cell (p := ⟨b, off + k * 8, none⟩) hbb] at c0
      rw [← hnx.cell (p := ⟨b, off + k * 8 + 1, none⟩) hbb] at c1
      rw [← hnx.cell (p := ⟨b, off + k * 8 + 2, none⟩) hbb] at c2
      rw [← hnx.cell (p := ⟨b, off + k * 8 + 3, none⟩) hbb] at c3
      rw [← hnx.cell (p := ⟨b, off + k * 8 + 4, none⟩) hbb] at c4
      rw [← hnx.cell (p := ⟨b, off + k * 8 + 5, none⟩) hbb] at c5
      rw [← hnx.cell (p := ⟨b, off + k * 8 + 6, none⟩) hbb] at c6
      rw [← hnx.cell (p := ⟨b, off + k * 8 + 7, none⟩) hbb] at c7
      have hnr2 : NearsAt wr p.2 p.1.near wr.heap.size := (RowAt.later hnr hnx (Nat.le_refl _)).more hnx.size
      obtain ⟨pa, pc, hpn⟩ := NearsAt.shape hnr
      have hpl : p.1.near.length ≤ 1048576 := by have := tot_mem (List.mem_of_getElem? hp); omega
      have HAT2 := hide (okAt_eq (ok := fun r => sameBodyB r (headD r)) (fsts_at hp))
      have HHD := ihead_any p.1 pa p.1.near.length pc
      have HSB : ∀ W, Below wr.heap.size wr W → Calls Tryz.prog 86 #[.agg (recC p.1 p.2), .agg (recC (headD p.1) (.slice none 0 0))] W fun e w' => e = .returned (.bool (sameBodyB p.1 (headD p.1))) ∧ Below W.heap.size W w' :=
        fun W hb => isameBody_any _ _ p.1 (headD p.1) W ⟨_, rfl, RowAt.then hnr2 hb⟩ ⟨_, rfl, rows_none _ _⟩ hpl (by simp [headD])
      rw [hpn] at c5 HSB
      unfold recC at HHD HSB
      obtain ⟨q, hq⟩ : ∃ q, q = sameBodyB p.1 (headD p.1) := ⟨_, rfl⟩
      rw [← hq] at HSB HAT2
      have H1 := hide HHD
      have H2 := hide HSB
      clear hp hnr hnr2 hpn HHD HSB hq
      have hki : (0 : Int) ≤ (k : Int) := by omega
      have hkj : (k : Int) < (ps.length : Int) := by omega
      go_wp2
      have B0 := (Below.refl wr.heap.size wr).alloc (Nat.le_refl _) (.cells #[.int .i64 p.1.area, .int .i64 p.1.kind, .int .i64 p.1.owner, .int .i64 p.1.key, .int .i64 p.1.seq, .slice pa p.1.near.length pc, .int .i64 p.1.cost, .bool p.1.far] 51)
      have g0 := heap_alloc_new wr (.cells #[.int .i64 p.1.area, .int .i64 p.1.kind, .int .i64 p.1.owner, .int .i64 p.1.key, .int .i64 p.1.seq, .slice pa p.1.near.length pc, .int .i64 p.1.cost, .bool p.1.far] 51)
      generalize wr.alloc (.cells #[.int .i64 p.1.area, .int .i64 p.1.kind, .int .i64 p.1.owner, .int .i64 p.1.key, .int .i64 p.1.seq, .slice pa p.1.near.length pc, .int .i64 p.1.cost, .bool p.1.far] 51) = w1 at *
      have d0 := cells_at g0 0
      have d1 := cells_at g0 1
      have d2 := cells_at g0 2
      have d3 := cells_at g0 3
      have d4 := cells_at g0 4
      have d5 := cells_at g0 5
      have d6 := cells_at g0 6
      have d7 := cells_at g0 7
      simp at d0 d1 d2 d3 d4 d5 d6 d7
      have hz1 := lt_of_heap g0
      clear g0 c0 c1 c2 c3 c4 c5 c6 c7
      go_region_held3 (fun W => W.cell? ⟨wr.heap.size, 0, none⟩ = some (.int .i64 p.1.area) ∧ W.cell? ⟨wr.heap.size, 1, none⟩ = some (.int .i64 p.1.kind) ∧ W.cell? ⟨wr.heap.size, 2, none⟩ = some (.int .i64 p.1.owner) ∧ W.cell? ⟨wr.heap.size, 3, none⟩ = some (.int .i64 p.1.key) ∧ W.cell? ⟨wr.heap.size, 4, none⟩ = some (.int .i64 p.1.seq) ∧ W.cell? ⟨wr.heap.size, 5, none⟩ = some (.slice pa p.1.near.length pc) ∧ W.cell? ⟨wr.heap.size, 6, none⟩ = some (.int .i64 p.1.cost) ∧ W.cell? ⟨wr.heap.size, 7, none⟩ = some (.bool p.1.far)) (first | go_keep | (refine ⟨?_, ?_, ?_, ?_, ?_, ?_, ?_, ?_⟩ <;> (rw [b3.cell (Nat.lt_of_lt_of_le (by assumption) b2.size), b2.cell (by assumption)]; assumption)) | (refine ⟨?_, ?_, ?_, ?_, ?_, ?_, ?_, ?_⟩ <;> (rw [b2.cell (by assumption)]; assumption))) (first | (go_at_call 87; refine (H1.out _).mono ?_; rintro e w2 ⟨rfl, b2⟩) | (go_at_call 86; refine (H2.out _ (B0.drew.trans (b2.mono B0.size))).mono ?_; rintro e w3 ⟨rfl, b3⟩))
      have B3 : Below w.heap.size w w3 := hnx.trans (((B0.drew.trans (b2.mono B0.size)).trans (b3.mono (Nat.le_trans B0.size b2.size))).mono hsz)
      cases q
      · have HF := hide (heads_bad (by rw [HFL.out]; exact hlt) HAT2.out)
        go_wp2
        go_ret
        exact ⟨ret_bool HF.out, B3⟩
      · go_wp2
        go_roundw
        case rel => exact ⟨k + 1, by omega, by go_num, next_true HALL.out HAT2.out, B3⟩
        case measure => simp [intOf]; omega
    · have HE := hide (show headsB (fsts ps) = true from all_true fun i hi => HALL.out i (by have := HFL.out; omega))
      go_wp2
      go_ret
      exact ⟨ret_bool HE.out, hnx⟩
end Go.Proofs.YtchmmekhfcojgaaGreatDoor
namespace Go.Proofs.YtchmmekhfcojgaaGreatDoor
open Go.RowKit

set_option linter.unusedSimpArgs false

theorem said_one {x : PkD} {xs : List RecD} (h : x.kind = 1) : saidB x xs = (nodesB x.heard && (xs.length == 0)) := by unfold saidB; rw [if_pos h]

theorem said_two {x : PkD} {xs : List RecD} (h : x.kind = 2) : saidB x xs = ((x.heard.length == 0) && (toldB x.area xs && headsB xs)) := by unfold saidB; rw [if_neg (by omega), if_pos h]

theorem said_three {x : PkD} {xs : List RecD} (h : x.kind = 3) : saidB x xs = ((x.heard.length == 0) && toldB x.area xs) := by unfold saidB; rw [if_neg (by omega), if_neg (by omega), if_pos h]

theorem said_none {x : PkD} {xs : List RecD} (h1 : ¬ x.kind = 1) (h2 : ¬ x.kind = 2) (h3 : ¬ x.kind = 3) : saidB x xs = false := by unfold saidB; rw [if_neg h1, if_neg h2, if_neg h3]

theorem len_zero (n : Nat) : ((n : Int) == 0) = (n == 0) := by cases n <;> simp <;> omega

set_option maxRecDepth 100000 in
set_option maxHeartbeats 4000000 in
theorem saidOk_any (v1 v2 : Value) (x : PkD) (ps : List RP) (w : World) (ht : totP x ps ≤ 1048576) (hv : PkIn w v1 v2 x ps w.heap.size) :
    Calls Tryz.prog 24 #[pkV x v1 v2] w fun e w' => e = .returned (.bool (saidB x (fsts ps))) ∧ Below w.heap.size w w' := by
  obtain ⟨⟨a1, c1, rfl⟩, ⟨a2, c2, rfl⟩⟩ := hv.shapes
  have hlH : x.heard.length ≤ 1048576 := by unfold totP at ht; omega
  have hlR : tot ps ≤ 1048576 := by unfold totP at ht; omega
  have hfl : (fsts ps).length = ps.length := by simp [fsts]
  have HX := hide hv
  clear hv ht
  have BA : Below w.heap.size w (w.alloc (.cells #[.int .i64 x.kind, .int .i64 x.src, .int .i64 x.dst, .int .i64 x.area, .slice a1 x.heard.length c1, .slice a2 ps.length c2] 27)) := (Below.refl _ _).alloc (Nat.le_refl _) _
  have g0 := heap_alloc_new w (.cells #[.int .i64 x.kind, .int .i64 x.src, .int .i64 x.dst, .int .i64 x.area, .slice a1 x.heard.length c1, .slice a2 ps.length c2] 27)
  have HNO := hide (nodesOk_any _ x.heard (w.alloc (.cells #[.int .i64 x.kind, .int .i64 x.src, .int .i64 x.dst, .int .i64 x.area, .slice a1 x.heard.length c1, .slice a2 ps.length c2] 27)) hlH (HX.out.then BA).heard)
  have HTO := hide (toldIn_any x.area _ ps (w.alloc (.cells #[.int .i64 x.kind, .int .i64 x.src, .int .i64 x.dst, .int .i64 x.area, .slice a1 x.heard.length c1, .slice a2 ps.length c2] 27)) hlR (HX.out.then BA).list)
  have HAH := hide (fun W (hb : Below w.heap.size w W) => allHeaders_any _ ps W hlR (HX.out.then hb).list)
  obtain ⟨r1, h1⟩ : ∃ r, r = nodesB x.heard := ⟨_, rfl⟩
  obtain ⟨r2, h2⟩ : ∃ r, r = toldB x.area (fsts ps) := ⟨_, rfl⟩
  obtain ⟨r3, h3⟩ : ∃ r, r = headsB (fsts ps) := ⟨_, rfl⟩
  have S1 := hide (fun h => (said_one (x := x) (xs := fsts ps) h))
  have S2 := hide (fun h => (said_two (x := x) (xs := fsts ps) h))
  have S3 := hide (fun h => (said_three (x := x) (xs := fsts ps) h))
  rw [← h1] at HNO S1
  rw [← h2] at HTO S2 S3
  rw [← h3] at HAH S2
  rw [hfl] at S1
  clear h1 h2 h3 hfl
  have G0 := hide g0
  clear g0
  obtain ⟨w0, hw0⟩ : ∃ W, W = w.alloc (.cells #[.int .i64 x.kind, .int .i64 x.src, .int .i64 x.dst, .int .i64 x.area, .slice a1 x.heard.length c1, .slice a2 ps.length c2] 27) := ⟨_, rfl⟩
  rw [← hw0] at BA G0 HNO HTO
  have s3 := cells_at G0.out 3
  have s4 := cells_at G0.out 4
  have s5 := cells_at G0.out 5
  simp at s3 s4 s5
  have L1 := len_zero ps.length
  have L2 := len_zero x.heard.length
  by_cases k1 : x.kind = 1
  · rw [S1.out k1]
    have kb : (x.kind == 1) = true := by simpa using k1
    clear k1 S1 S2 S3
    go_enter Tryz.func24, Tryz.ntmps24
    go_wp2_with fail
    rw [← hw0]
    refine HNO.out.mono ?_
    rintro e w1 ⟨rfl, b1⟩
    have B1 : Below w.heap.size w w1 := BA.trans (b1.mono BA.size)
    have g1 := (b1.block _ (lt_of_heap G0.out)).trans G0.out
    have t5 := cells_at g1 5
    simp at t5
    clear g1
    cases r1
    · go_wp2
      go_ret
      exact ⟨rfl, B1⟩
    · go_wp2
      go_ret
      exact ⟨by simp [L1], B1⟩
  have kb1 : (x.kind == 1) = false := by simpa using k1
  by_cases k2 : x.kind = 2
  · rw [S2.out k2]
    have kb : (x.kind == 2) = true := by simpa using k2
    clear k1 k2 S1 S2 S3
    by_cases hl : x.heard.length = 0
    · have hlb : (x.heard.length == 0) = true := by simpa using hl
      rw [hlb] at L2 ⊢
      clear hl
      go_enter Tryz.func24, Tryz.ntmps24
      go_wp2_with fail
      rw [← hw0]
      refine HTO.out.mono ?_
      rintro e w1 ⟨rfl, b1⟩
      have B1 : Below w.heap.size w w1 := BA.trans (b1.mono BA.size)
      have g1 := (b1.block _ (lt_of_heap G0.out)).trans G0.out
      have t5 := cells_at g1 5
      simp at t5
      clear g1
      cases r2
      · go_wp2
        go_ret
        exact ⟨rfl, B1⟩
      · go_wp2_with fail
        refine (HAH.out _ B1).mono ?_
        rintro e w2 ⟨rfl, b2⟩
        have B2 : Below w.heap.size w w2 := B1.trans (b2.mono B1.size)
        clear t5 s3 s4 s5
        go_wp2
        go_ret
        exact ⟨by simp, B2⟩
    · have hlb : (x.heard.length == 0) = false := by simpa using hl
      rw [hlb] at L2 ⊢
      clear hl
      go_enter Tryz.func24, Tryz.ntmps24
      go_wp2_with fail
      go_ret
      rw [← hw0]
      exact ⟨rfl, BA⟩
  have kb2 : (x.kind == 2) = false := by simpa using k2
  by_cases k3 : x.kind = 3
  · rw [S3.out k3]
    have kb : (x.kind == 3) = true := by simpa using k3
    clear k1 k2 k3 S1 S2 S3
    by_cases hl : x.heard.length = 0
    · have hlb : (x.heard.length == 0) = true := by simpa using hl
      rw [hlb] at L2 ⊢
      clear hl
      go_enter Tryz.func24, Tryz.ntmps24
      go_wp2_with fail
      rw [← hw0]
      refine HTO.out.mono ?_
      rintro e w1 ⟨rfl, b1⟩
      have B1 : Below w.heap.size w w1 := BA.trans (b1.mono BA.size)
      clear s3 s4 s5
      go_wp2
      go_ret
      exact ⟨by simp, B1⟩
    · have hlb : (x.heard.length == 0) = false := by simpa using hl
      rw [hlb] at L2 ⊢
      clear hl
      go_enter Tryz.func24, Tryz.ntmps24
      go_wp2_with fail
      go_ret
      rw [← hw0]
      exact ⟨rfl, BA⟩
  · rw [said_none k1 k2 k3]
    have kb3 : (x.kind == 3) = false := by simpa using k3
    clear k1 k2 k3 S1 S2 S3
    go_enter Tryz.func24, Tryz.ntmps24
    go_wp2_with fail
    go_ret
    rw [← hw0]
    exact ⟨rfl, BA⟩

set_option maxRecDepth 100000 in
set_option maxHeartbeats 4000000 in
theorem ipacketOk_any (v1 v2 : Value) (x : PkD) (ps : List RP) (w : World) (ht : totP x ps ≤ 1048576) (hv : PkIn w v1 v2 x ps w.heap.size) :
    Calls Tryz.prog 8 #[pkV x v1 v2] w fun e w' => e = .returned (.bool (pkB x (fsts ps))) ∧ Below w.heap.size w w' := by
  obtain ⟨⟨a1, c1, rfl⟩, ⟨a2, c2, rfl⟩⟩ := hv.shapes
  have HX := hide hv
  clear hv
  have BA : Below w.heap.size w (w.alloc (.cells #[.int .i64 x.kind, .int .i64 x.src, .int .i64 x.dst, .int .i64 x.area, .slice a1 x.heard.length c1, .slice a2 ps.length c2] 27)) := (Below.refl _ _).alloc (Nat.le_refl _) _
  have g0 := heap_alloc_new w (.cells #[.int .i64 x.kind, .int .i64 x.src, .int .i64 x.dst, .int .i64 x.area, .slice a1 x.heard.length c1, .slice a2 ps.length c2] 27)
  have HSA := hide (saidOk_any _ _ x ps (w.alloc (.cells #[.int .i64 x.kind, .int .i64 x.src, .int .i64 x.dst, .int .i64 x.area, .slice a1 x.heard.length c1, .slice a2 ps.length c2] 27)) ht (HX.out.then BA))
  have I1 := hide (isIn_any x.src 1 6)
  have I2 := hide (isIn_any x.dst 1 6)
  have I3 := hide (isIn_any x.area 0 2)
  unfold pkB
  obtain ⟨r1, h1⟩ : ∃ r, r = inB x.src 1 6 := ⟨_, rfl⟩
  obtain ⟨r2, h2⟩ : ∃ r, r = inB x.dst 1 6 := ⟨_, rfl⟩
  obtain ⟨r3, h3⟩ : ∃ r, r = inB x.area 0 2 := ⟨_, rfl⟩
  obtain ⟨r4, h4⟩ : ∃ r, r = saidB x (fsts ps) := ⟨_, rfl⟩
  rw [← h1] at I1 ⊢
  rw [← h2] at I2 ⊢
  rw [← h3] at I3 ⊢
  rw [← h4] at HSA ⊢
  clear h1 h2 h3 h4
  have G0 := hide g0
  clear g0
  obtain ⟨w0, hw0⟩ : ∃ W, W = w.alloc (.cells #[.int .i64 x.kind, .int .i64 x.src, .int .i64 x.dst, .int .i64 x.area, .slice a1 x.heard.length c1, .slice a2 ps.length c2] 27) := ⟨_, rfl⟩
  rw [← hw0] at BA G0 HSA
  have s0 := cells_at G0.out 0
  have s1 := cells_at G0.out 1
  have s2 := cells_at G0.out 2
  have s3 := cells_at G0.out 3
  have s4 := cells_at G0.out 4
  have s5 := cells_at G0.out 5
  simp at s0 s1 s2 s3 s4 s5
  obtain ⟨r5, h5⟩ : ∃ r, r = (x.src == x.dst) := ⟨_, rfl⟩
  rw [← h5]
  have hb0 : (x.src != x.dst) = !r5 := by rw [h5]; rfl
  clear h5
  go_enter Tryz.func8, Tryz.ntmps8
  go_wp2_with fail
  rw [← hw0]
  clear hw0
  refine (I1.out _).mono ?_
  rintro e w1 ⟨rfl, rfl⟩
  cases r1
  · go_wp2
    go_ret
    exact ⟨rfl, BA⟩
  go_wp2_with fail
  refine (I2.out _).mono ?_
  rintro e w1 ⟨rfl, rfl⟩
  cases r2
  · go_wp2
    go_ret
    exact ⟨rfl, BA⟩
  cases r5
  case true =>
    have hb2 : (x.src != x.dst) = false := hb0
    clear hb0
    go_wp2_with fail
    go_ret
    exact ⟨rfl, BA⟩
  have hb2 : (x.src != x.dst) = true := hb0
  clear hb0
  go_wp2_with fail
  refine (I3.out _).mono ?_
  rintro e w1 ⟨rfl, rfl⟩
  cases r3
  · go_wp2
    go_ret
    exact ⟨rfl, BA⟩
  go_wp2_with fail
  refine HSA.out.mono ?_
  rintro e w2 ⟨rfl, b2⟩
  have B2 : Below w.heap.size w w2 := BA.trans (b2.mono BA.size)
  go_wp2
  go_ret
  exact ⟨by simp, B2⟩
end Go.Proofs.YtchmmekhfcojgaaGreatDoor
namespace Go.Proofs.YtchmmekhfcojgaaGreatDoor
open Go.RowKit

/-- the first place of a key, -1 without one -/
def atZ (xs : List RecD) (r : RecD) : Int := match xs.findIdx? (fun x => sameKeyB x r) with
  | some i => (i : Int)
  | none => -1

theorem atZ_found {xs : List RecD} {r x : RecD} {k : Nat} (hk : xs[k]? = some x) (hs : sameKeyB x r = true) (hall : ∀ j, j < k → ∀ y, xs[j]? = some y → sameKeyB y r = false) : atZ xs r = (k : Int) := by
  obtain ⟨h1, e1⟩ := List.getElem?_eq_some_iff.1 hk
  have : xs.findIdx? (fun x => sameKeyB x r) = some k := by
    rw [List.findIdx?_eq_some_iff_getElem]
    refine ⟨h1, by rw [e1]; exact hs, fun j hj => ?_⟩
    have := hall j hj xs[j] (List.getElem?_eq_getElem (by omega))
    simp [this]
  unfold atZ
  rw [this]

theorem atZ_none {xs : List RecD} {r : RecD} (hall : ∀ j, j < xs.length → ∀ y, xs[j]? = some y → sameKeyB y r = false) : atZ xs r = -1 := by
  have : xs.findIdx? (fun x => sameKeyB x r) = none := by
    rw [List.findIdx?_eq_none_iff]
    intro x hx
    obtain ⟨i, hi, e⟩ := List.getElem_of_mem hx
    exact hall i hi x (by rw [← e]; exact List.getElem?_eq_getElem hi)
  unfold atZ
  rw [this]

theorem atZ_cases (xs : List RecD) (r : RecD) : atZ xs r = -1 ∨ ∃ (k : Nat) (x : RecD), atZ xs r = (k : Int) ∧ xs[k]? = some x ∧ sameKeyB x r = true := by
  unfold atZ
  cases h : xs.findIdx? (fun x => sameKeyB x r) with
  | none => exact .inl rfl
  | some i =>
    obtain ⟨h1, h2, _⟩ := List.findIdx?_eq_some_iff_getElem.1 h
    exact .inr ⟨i, xs[i], rfl, List.getElem?_eq_getElem h1, h2⟩

end Go.Proofs.YtchmmekhfcojgaaGreatDoor
namespace Go.Proofs.YtchmmekhfcojgaaGreatDoor
open Go.RowKit

set_option linter.unusedSimpArgs false

end Go.Proofs.YtchmmekhfcojgaaGreatDoor
namespace Go.Proofs.YtchmmekhfcojgaaGreatDoor
open Go.RowKit

theorem kept_other {w w' : World} {base size p : Nat} {e : TypeId} {v : Value} {n : Nat} {xs : List Value} (h : w.ownsRow base e size v n xs) (hg : w.grownBy w' (some p)) (hp : p < base) : w'.ownsRow base e size v n xs := h.kept hg (by
  rcases h.2 with ⟨e, _⟩ | ⟨g, cp, cur, e, hb, _⟩
  · exact .inl (by rw [e]; rfl)
  · refine .inr ?_
    rw [e]
    intro h
    simp [Value.ownBlock] at h
    omega)

theorem nrE_one (a : Nr) : ∀ u ∈ nrE a, u.oneCell' = true := by
  intro u hu
  simp [nrE] at hu
  rcases hu with rfl | rfl <;> rfl

end Go.Proofs.YtchmmekhfcojgaaGreatDoor
