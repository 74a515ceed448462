/-
  impl.PacketOk: its contract, and those of what it calls.
-/
import Derived.Test.YtfccainebmbbdaaDoorRq6
import Derived.Test.YtfccainebmbbdaaDoorRq21
import Derived.Deep.RegionHeld3
namespace Go.Proofs.YtfccainebmbbdaaDoor
open Go.RowKit

set_option linter.unusedSimpArgs false

def nodesB (h : List Int) : Bool := allOk (fun z => inB z 1 6) h && ascB cmpN h

def toldB (a : Int) (xs : List RecD) : Bool := allOk (inScope a) xs && storeB xs

def headsB (xs : List RecD) : Bool := allOk (fun r => sameBodyB r (headD r)) xs

def saidB (x : PkD) (xs : List RecD) : Bool :=
  if x.kind = 1 then nodesB x.heard && (xs.length == 0)
  else if x.kind = 2 then (x.heard.length == 0) && (toldB x.area xs && headsB xs)
  else if x.kind = 3 then (x.heard.length == 0) && toldB x.area xs
  else false

def pkB (x : PkD) (xs : List RecD) : Bool := inB x.src 1 6 && (inB x.dst 1 6 && (!(x.src == x.dst) && (inB x.area 0 2 && saidB x xs)))

set_option maxRecDepth 100000 in
set_option maxHeartbeats 4000000 in
theorem ascI_any (v : Value) (ls : List Int) (w : World) (hls : ls.length ≤ 1048576) (hv : HopsAt w v ls w.heap.size) :
    Calls Tryd.prog 69 #[v, .func (.func 70) #[] #[]] w fun e w' => e = .returned (.bool (ascB cmpN ls)) ∧ Below w.heap.size w w' := by
  obtain ⟨a, cap, rfl⟩ := HopsAt.shape hv
  have HV := hide hv
  clear hv
  go_enter Tryd.func69, Tryd.ntmps69
  go_wp2
  go_loopw [5] (fun i wr => ∃ k : Nat, 1 ≤ k ∧ (k ≤ ls.length ∨ k = 1) ∧ i = .int .i64 k ∧ (∀ j, j < k → ascAt cmpN ls j = true) ∧ Below w.heap.size w wr) (fun i _ => ls.length + 1 - (intOf i).toNat)
  case atStart => exact ⟨1, by omega, by omega, rfl, fun j hj => by obtain rfl : j = 0 := by omega
                                                                    rfl, Below.refl _ _⟩
  case round =>
    obtain ⟨k, hk1, hk, rfl, hno, hb⟩ := hrel
    have HNO := hide hno
    clear hno
    by_cases hlt : k < ls.length
    · obtain ⟨l, hl⟩ : ∃ l, ls[k]? = some l := ⟨ls[k], List.getElem?_eq_getElem hlt⟩
      obtain ⟨j, hj⟩ : ∃ j, k = j + 1 := ⟨k - 1, by omega⟩
      obtain ⟨p, hp⟩ : ∃ p, ls[j]? = some p := ⟨ls[j], List.getElem?_eq_getElem (by omega)⟩
      obtain ⟨b, off, cap', hve, hbb, c0⟩ := HopsAt.cell HV.out k l hl
      cases hve
      obtain ⟨b', off', cap2, hve2, hbb2, d0⟩ := HopsAt.cell HV.out j p hp
      cases hve2
      rw [← hb.cell (p := ⟨b, off + k, none⟩) hbb] at c0
      rw [← hb.cell (p := ⟨b, off + j, none⟩) hbb] at d0
      have hat : ascAt cmpN ls k = decide (cmpN p l < 0) := by rw [hj]; exact ascAt_eq hp (by rw [← hj]; exact hl)
      have hzr := hb.size
      have hbr : b < wr.heap.size := by omega
      have hki : (0 : Int) ≤ (k : Int) := by omega
      have hkj : (k : Int) < (ls.length : Int) := by omega
      have hj1 : (k : Int) - 1 = (j : Int) := by omega
      have hj2 : (0 : Int) ≤ (j : Int) := by omega
      have hj3 : (j : Int) < (ls.length : Int) := by omega
      have hj5 : IntKind.i64.wrap (j : Int) = (j : Int) := wrap_fit _ (by omega) (by omega)
      have HORD := hide (compare_any p l)
      have HAT := hide hat
      have HJ := hide hj
      clear hl hp hat hj
      obtain ⟨x, hx⟩ : ∃ x, x = cmpN p l := ⟨_, rfl⟩
      rw [← hx] at HORD HAT
      clear hx
      by_cases hx0 : x < 0
      · have hx1 : ¬ (0 : Int) ≤ x := by omega
        rw [decide_eq_true hx0] at HAT
        go_wp2
        go_region_held3 (fun W => W.cell? ⟨b, off + k, none⟩ = some (.int .i64 l) ∧ W.cell? ⟨b, off + j, none⟩ = some (.int .i64 p)) (first | go_keep | assumption) (first | (go_at_call 70; refine (HORD.out _).mono ?_; rintro e w2 ⟨rfl, rfl⟩))
        go_wp2
        exact ⟨⟨k + 1, by omega, by omega, by go_num, next_true HNO.out HAT.out, hb.drew⟩, by simp [intOf]; omega⟩
      · have hx1 : (0 : Int) ≤ x := by omega
        rw [decide_eq_false hx0] at HAT
        have hf : ascB cmpN ls = false := all_false hlt HAT.out
        have HF := hide hf
        clear hf
        go_wp2
        go_region_held3 (fun W => W.cell? ⟨b, off + k, none⟩ = some (.int .i64 l) ∧ W.cell? ⟨b, off + j, none⟩ = some (.int .i64 p)) (first | go_keep | assumption) (first | (go_at_call 70; refine (HORD.out _).mono ?_; rintro e w2 ⟨rfl, rfl⟩))
        go_wp2
        go_ret
        exact ⟨ret_bool HF.out, hb.drew⟩
    · have hall : ascB cmpN ls = true := all_true fun i hi => HNO.out i (by omega)
      have HA := hide hall
      clear hall
      go_wp2
      go_ret
      exact ⟨ret_bool HA.out, hb⟩

theorem nodes_bad {h : List Int} {k : Nat} (hk : k < h.length) (hb : okAt (fun z => inB z 1 6) h k = false) : nodesB h = false := by unfold nodesB allOk; rw [all_false hk hb]; rfl

set_option maxRecDepth 100000 in
set_option maxHeartbeats 2000000 in
theorem nodesOk_any (v : Value) (h : List Int) (w : World) (hn : h.length ≤ 1048576) (hv : HopsAt w v h w.heap.size) :
    Calls Tryd.prog 58 #[v] w fun e w' => e = .returned (.bool (nodesB h)) ∧ Below w.heap.size w w' := by
  obtain ⟨a, cap, rfl⟩ := HopsAt.shape hv
  have HV := hide hv
  clear hv
  go_enter Tryd.func58, Tryd.ntmps58
  go_wp2
  go_loopw [7] (fun i wr => ∃ k : Nat, k ≤ h.length ∧ i = .int .i64 k ∧ (∀ j, j < k → okAt (fun z => inB z 1 6) h j = true) ∧ wr = w) (fun i _ => h.length - (intOf i).toNat)
  case atStart => exact ⟨0, by omega, rfl, by omega, rfl⟩
  case round =>
    obtain ⟨k, hk, rfl, hall, rfl⟩ := hrel
    have HALL := hide hall
    clear hall
    by_cases hlt : k < h.length
    · obtain ⟨z, hz⟩ : ∃ z, h[k]? = some z := ⟨h[k], List.getElem?_eq_getElem hlt⟩
      obtain ⟨b, off, cap', hve, hbb, c0⟩ := HopsAt.cell HV.out k z hz
      cases hve
      have HAT := okAt_eq (ok := fun z => inB z 1 6) hz
      have HIN := isIn_any z 1 6
      obtain ⟨q, hq⟩ : ∃ q, q = inB z 1 6 := ⟨_, rfl⟩
      rw [← hq] at HAT HIN
      have HAT2 := hide HAT
      have HIN2 := hide HIN
      clear hz HAT HIN hq
      have hki : (0 : Int) ≤ (k : Int) := by omega
      have hkj : (k : Int) < (h.length : Int) := by omega
      go_wp2_with fail
      refine (HIN2.out _).mono ?_
      rintro e w2 ⟨rfl, rfl⟩
      cases q
      · have HF := hide (nodes_bad hlt HAT2.out)
        go_wp2
        go_ret
        exact ⟨ret_bool HF.out, Below.refl _ _⟩
      · go_wp2
        go_roundw
        case rel => exact ⟨k + 1, by omega, by go_num, next_true HALL.out HAT2.out, trivial⟩
        case measure => simp [intOf]; omega
    · have e1 : allOk (fun z => inB z 1 6) h = true := all_true fun i hi => HALL.out i (by omega)
      have e2 : nodesB h = ascB cmpN h := by unfold nodesB; rw [e1]; rfl
      have HE := hide e2
      have HAS := hide (ascI_any _ h wr hn HV.out)
      clear e1 e2
      go_wp2_with fail
      refine HAS.out.mono ?_
      rintro e w2 ⟨rfl, b2⟩
      go_wp2
      go_ret
      exact ⟨ret_bool HE.out, b2⟩

theorem told_bad {a : Int} {xs : List RecD} {k : Nat} (hk : k < xs.length) (h : okAt (inScope a) xs k = false) : toldB a xs = false := by unfold toldB allOk; rw [all_false hk h]; rfl

theorem rows_none (W : World) (B : Nat) : NearsAt W (.slice none 0 0) [] B := ⟨none, 0, rfl, .inl (by simp)⟩

set_option maxRecDepth 100000 in
set_option maxHeartbeats 2000000 in
theorem toldIn_any (a : Int) (v : Value) (ps : List RP) (w : World) (hn : tot ps ≤ 1048576) (hv : RecsAt w v ps w.heap.size) :
    Calls Tryd.prog 59 #[.int .i64 a, v] w fun e w' => e = .returned (.bool (toldB a (fsts ps))) ∧ Below w.heap.size w w' := by
  have hnl := tot_len ps
  obtain ⟨a1, cap, rfl⟩ := hv.shape
  have HV := hide hv
  clear hv
  have HFL := hide (show (fsts ps).length = ps.length by simp [fsts])
  go_enter Tryd.func59, Tryd.ntmps59
  go_wp2
  go_loopw [9] (fun i wr => ∃ k : Nat, k ≤ ps.length ∧ i = .int .i64 k ∧ (∀ j, j < k → okAt (inScope a) (fsts ps) j = true) ∧ Below w.heap.size w wr) (fun i _ => ps.length - (intOf i).toNat)
  case atStart => exact ⟨0, by omega, rfl, by omega, Below.refl _ _⟩
  case round =>
    obtain ⟨k, hk, rfl, hall, hnx⟩ := hrel
    have HALL := hide hall
    clear hall
    have hsz := hnx.size
    by_cases hlt : k < ps.length
    · obtain ⟨p, hp⟩ : ∃ p, ps[k]? = some p := ⟨ps[k], List.getElem?_eq_getElem hlt⟩
      obtain ⟨b, off, cap', hve, hbb, c0, c1, c2, c3, c4, c5, c6, c7, hnr⟩ := HV.out.cells k p hp
      cases hve
      rw [← hnx.cell (p := ⟨b, off + k * 8, none⟩) hbb] at c0
      rw [← hnx.cell (p := ⟨b, off + k * 8 + 1, none⟩) hbb] at c1
      rw [← hnx.cell (p := ⟨b, off + k * 8 + 2, none⟩) hbb] at c2
      rw [← hnx.cell (p := ⟨b, off + k * 8 + 3, none⟩) hbb] at c3
      rw [← hnx.cell (p := ⟨b, off + k * 8 + 4, none⟩) hbb] at c4
      rw [← hnx.cell (p := ⟨b, off + k * 8 + 5, none⟩) hbb] at c5
      rw [← hnx.cell (p := ⟨b, off + k * 8 + 6, none⟩) hbb] at c6
      rw [← hnx.cell (p := ⟨b, off + k * 8 + 7, none⟩) hbb] at c7
      obtain ⟨pa, pc, hpn⟩ := NearsAt.shape hnr
      rw [hpn] at c5
      have HAT2 := hide (okAt_eq (ok := inScope a) (fsts_at hp))
      clear hp hnr hpn
      have hki : (0 : Int) ≤ (k : Int) := by omega
      have hkj : (k : Int) < (ps.length : Int) := by omega
      by_cases h1 : p.1.area = a
      · have hd : (p.1.area != a) = false := by simp [h1]
        have HT := hide (show okAt (inScope a) (fsts ps) k = true by rw [HAT2.out]; simp [inScope, h1])
        clear h1 HAT2
        go_wp2
        go_roundw
        case rel => exact ⟨k + 1, by omega, by go_num, next_true HALL.out HT.out, hnx.alloc hsz _⟩
        case measure => simp [intOf]; omega
      have hd : (p.1.area != a) = true := by simpa using h1
      by_cases h2 : p.1.area = 9
      · have hd2 : (p.1.area != 9) = false := by simp [h2]
        have HT := hide (show okAt (inScope a) (fsts ps) k = true by rw [HAT2.out]; simp [inScope, h2])
        clear h1 h2 HAT2
        go_wp2
        go_roundw
        case rel => exact ⟨k + 1, by omega, by go_num, next_true HALL.out HT.out, hnx.alloc hsz _⟩
        case measure => simp [intOf]; omega
      · have hd2 : (p.1.area != 9) = true := by simpa using h2
        have HT := hide (told_bad (by rw [HFL.out]; exact hlt) (show okAt (inScope a) (fsts ps) k = false by rw [HAT2.out]; simp [inScope, h1, h2]))
        clear h1 h2 HAT2
        go_wp2
        go_ret
        exact ⟨ret_bool HT.out, hnx.alloc hsz _⟩
    · have e1 : allOk (inScope a) (fsts ps) = true := all_true fun i hi => HALL.out i (by have := HFL.out; omega)
      have e2 : toldB a (fsts ps) = storeB (fsts ps) := by unfold toldB; rw [e1]; rfl
      have HE := hide e2
      have HIO := hide (istoreOk_any (.slice a1 ps.length cap) ps wr hn ((HV.out.later hnx (Nat.le_refl _)).more hsz))
      clear e1 e2
      go_wp2_with fail
      refine HIO.out.mono ?_
      rintro e w2 ⟨rfl, b2⟩
      go_wp2
      go_ret
      exact ⟨ret_bool HE.out, hnx.trans (b2.mono hsz)⟩

theorem heads_bad {xs : List RecD} {k : Nat} (hk : k < xs.length) (h : okAt (fun r => sameBodyB r (headD r)) xs k = false) : headsB xs = false := all_false hk h

set_option maxRecDepth 100000 in
set_option maxHeartbeats 4000000 in
theorem allHeaders_any (v : Value) (ps : List RP) (w : World) (hn : tot ps ≤ 1048576) (hv : RecsAt w v ps w.heap.size) :
    Calls Tryd.prog 60 #[v] w fun e w' => e = .returned (.bool (headsB (fsts ps))) ∧ Below w.heap.size w w' := by
  have hnl := tot_len ps
  obtain ⟨a1, cap, rfl⟩ := hv.shape
  have HV := hide hv
  clear hv
  have HFL := hide (show (fsts ps).length = ps.length by simp [fsts])
  go_enter Tryd.func60, Tryd.ntmps60
  go_wp2
  go_loopw [7] (fun i wr => ∃ k : Nat, k ≤ ps.length ∧ i = .int .i64 k ∧ (∀ j, j < k → okAt (fun r => sameBodyB r (headD r)) (fsts ps) j = true) ∧ Below w.heap.size w wr) (fun i _ => ps.length - (intOf i).toNat)
  case atStart => exact ⟨0, by omega, rfl, by omega, Below.refl _ _⟩
  case round =>
    obtain ⟨k, hk, rfl, hall, hnx⟩ := hrel
    have HALL := hide hall
    clear hall
    have hsz := hnx.size
    by_cases hlt : k < ps.length
    · obtain ⟨p, hp⟩ : ∃ p, ps[k]? = some p := ⟨ps[k], List.getElem?_eq_getElem hlt⟩
      obtain ⟨b, off, cap', hve, hbb, c0, c1, c2, c3, c4, c5, c6, c7, hnr⟩ := HV.out.cells k p hp
      cases hve
      rw [← hnx.cell (p := ⟨b, off + k * 8, none⟩) hbb] at c0
      rw [← hnx.cell (p := ⟨b, off + k * 8 + 1, none⟩) hbb] at c1
      rw [← hnx.cell (p := ⟨b, off + k * 8 + 2, none⟩) hbb] at c2
      rw [← hnx.cell (p := ⟨b, off + k * 8 + 3, none⟩) hbb] at c3
      rw [← hnx.cell (p := ⟨b, off + k * 8 + 4, none⟩) hbb] at c4
      rw [← hnx.cell (p := ⟨b, off + k * 8 + 5, none⟩) hbb] at c5
      rw [← hnx.cell (p := ⟨b, off + k * 8 + 6, none⟩) hbb] at c6
      rw [← hnx.cell (p := ⟨b, off + k * 8 + 7, none⟩) hbb] at c7
      have hnr2 : NearsAt wr p.2 p.1.near wr.heap.size := (RowAt.later hnr hnx (Nat.le_refl _)).more hnx.size
      obtain ⟨pa, pc, hpn⟩ := NearsAt.shape hnr
      have hpl : p.1.near.length ≤ 1048576 := by have := tot_mem (List.mem_of_getElem? hp); omega
      have HAT2 := hide (okAt_eq (ok := fun r => sameBodyB r (headD r)) (fsts_at hp))
      have HHD := ihead_any p.1 pa p.1.near.length pc
      have HSB : ∀ W, Below wr.heap.size wr W → Calls Tryd.prog 72 #[.agg (recC p.1 p.2), .agg (recC (headD p.1) (.slice none 0 0))] W fun e w' => e = .returned (.bool (sameBodyB p.1 (headD p.1))) ∧ Below W.heap.size W w' :=
        fun W hb => isameBody_any _ _ p.1 (headD p.1) W ⟨_, rfl, RowAt.then hnr2 hb⟩ ⟨_, rfl, rows_none _ _⟩ hpl (by simp [headD])
      rw [hpn] at c5 HSB
      unfold recC at HHD HSB
      obtain ⟨q, hq⟩ : ∃ q, q = sameBodyB p.1 (headD p.1) := ⟨_, rfl⟩
      rw [← hq] at HSB HAT2
      have H1 := hide HHD
      have H2 := hide HSB
      clear hp hnr hnr2 hpn HHD HSB hq
      have hki : (0 : Int) ≤ (k : Int) := by omega
      have hkj : (k : Int) < (ps.length : Int) := by omega
      go_wp2
      have B0 := (Below.refl wr.heap.size wr).alloc (Nat.le_refl _) (.cells #[.int .i64 p.1.area, .int .i64 p.1.kind, .int .i64 p.1.owner, .int .i64 p.1.key, .int .i64 p.1.seq, .slice pa p.1.near.length pc, .int .i64 p.1.cost, .bool p.1.far] 39)
      have g0 := heap_alloc_new wr (.cells #[.int .i64 p.1.area, .int .i64 p.1.kind, .int .i64 p.1.owner, .int .i64 p.1.key, .int .i64 p.1.seq, .slice pa p.1.near.length pc, .int .i64 p.1.cost, .bool p.1.far] 39)
      generalize wr.alloc (.cells #[.int .i64 p.1.area, .int .i64 p.1.kind, .int .i64 p.1.owner, .int .i64 p.1.key, .int .i64 p.1.seq, .slice pa p.1.near.length pc, .int .i64 p.1.cost, .bool p.1.far] 39) = w1 at *
      have d0 := cells_at g0 0
      have d1 := cells_at g0 1
      have d2 := cells_at g0 2
      have d3 := cells_at g0 3
      have d4 := cells_at g0 4
      have d5 := cells_at g0 5
      have d6 := cells_at g0 6
      have d7 := cells_at g0 7
      simp at d0 d1 d2 d3 d4 d5 d6 d7
      have hz1 := lt_of_heap g0
      clear g0 c0 c1 c2 c3 c4 c5 c6 c7
      go_region_held3 (fun W => W.cell? ⟨wr.heap.size, 0, none⟩ = some (.int .i64 p.1.area) ∧ W.cell? ⟨wr.heap.size, 1, none⟩ = some (.int .i64 p.1.kind) ∧ W.cell? ⟨wr.heap.size, 2, none⟩ = some (.int .i64 p.1.owner) ∧ W.cell? ⟨wr.heap.size, 3, none⟩ = some (.int .i64 p.1.key) ∧ W.cell? ⟨wr.heap.size, 4, none⟩ = some (.int .i64 p.1.seq) ∧ W.cell? ⟨wr.heap.size, 5, none⟩ = some (.slice pa p.1.near.length pc) ∧ W.cell? ⟨wr.heap.size, 6, none⟩ = some (.int .i64 p.1.cost) ∧ W.cell? ⟨wr.heap.size, 7, none⟩ = some (.bool p.1.far)) (first | go_keep | (refine ⟨?_, ?_, ?_, ?_, ?_, ?_, ?_, ?_⟩ <;> (rw [b3.cell (Nat.lt_of_lt_of_le (by assumption) b2.size), b2.cell (by assumption)]; assumption)) | (refine ⟨?_, ?_, ?_, ?_, ?_, ?_, ?_, ?_⟩ <;> (rw [b2.cell (by assumption)]; assumption))) (first | (go_at_call 73; refine (H1.out _).mono ?_; rintro e w2 ⟨rfl, b2⟩) | (go_at_call 72; refine (H2.out _ (B0.drew.trans (b2.mono B0.size))).mono ?_; rintro e w3 ⟨rfl, b3⟩))
      have B3 : Below w.heap.size w w3 := hnx.trans (((B0.drew.trans (b2.mono B0.size)).trans (b3.mono (Nat.le_trans B0.size b2.size))).mono hsz)
      cases q
      · have HF := hide (heads_bad (by rw [HFL.out]; exact hlt) HAT2.out)
        go_wp2
        go_ret
        exact ⟨ret_bool HF.out, B3⟩
      · go_wp2
        go_roundw
        case rel => exact ⟨k + 1, by omega, by go_num, next_true HALL.out HAT2.out, B3⟩
        case measure => simp [intOf]; omega
    · have HE := hide (show headsB (fsts ps) = true from all_true fun i hi => HALL.out i (by have := HFL.out; omega))
      go_wp2
      go_ret
      exact ⟨ret_bool HE.out, hnx⟩
end Go.Proofs.YtfccainebmbbdaaDoor
