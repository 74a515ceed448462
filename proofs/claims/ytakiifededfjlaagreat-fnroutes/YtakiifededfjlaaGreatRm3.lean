/-
  spec.l05Put: its contract.
  Lists that ascend, lists all of whose elements are right.
  spec.l04Near: its contract.
-/
import Derived.Test.YtakiifededfjlaaGreatRm2
import Derived.Test.YtakiifededfjlaaGreatRm1
namespace Go.Proofs.YtakiifededfjlaaGreat
open Go.RowKit
set_option linter.unusedSimpArgs false
set_option linter.unusedVariables false
set_option maxRecDepth 100000
set_option maxHeartbeats 8000000
def putL (ps : List RP) (r : RP) : List RP := ps.filter (fun p => Zaz p.1 r.1) ++ [r] ++ ps.filter (fun p => Zaz r.1 p.1)
theorem ZdB {ps : List RP} {k : Nat} {p : RP} (f : RP -> Bool) (h : ps[k]? = some p) : (ps.take (k + 1)).filter f = (ps.take k).filter f ++ (if f p then [p] else []) := by
 obtain ⟨hk, e⟩ := List.getElem?_eq_some_iff.1 h
 rw [List.take_succ_eq_append_getElem hk, List.filter_append, e]
 congr 1
 by_cases hf : f p <;> simp [hf]
theorem Zm6 (v : Value) (ps : List RP) (hi : Nat) (r : RP) (w : World) (hv : RecsIn w hi v ps) (hhi : hi <= w.heap.size) (hn : tot ps <= 1048576) (hr : ZaT w 0 hi r) :
  Calls Tryz.prog 25 #[v, .agg (recC r.1 r.2)] w fun e w' => ∃ x, e = .returned x /\ RecsIn w' w'.heap.size x (putL ps r) /\ Below w.heap.size w w' /\ ∀ k, x.ownBlock = some k -> w.heap.size <= k := by
 unfold putL
 have hnl := ZbL ps
 obtain ⟨a1, c1, rfl⟩ := Zac hv.row
 obtain ⟨ra, rc, hrn⟩ := Zac hr.1
 have HRN := hide hrn
 have HR := hide hr
 have HV := hide hv
 unfold recC
 rw [hrn]
 clear hv hr hrn
 have BX : Below w.heap.size w (w.alloc (.cells #[.int .i64 r.1.area, .int .i64 r.1.kind, .int .i64 r.1.owner, .int .i64 r.1.key, .int .i64 r.1.seq, .slice ra r.1.near.length rc, .int .i64 r.1.cost, .bool r.1.far] 64)) := (Below.refl _ _).alloc (Nat.le_refl _) _
 have hx := heap_alloc_new w (.cells #[.int .i64 r.1.area, .int .i64 r.1.kind, .int .i64 r.1.owner, .int .i64 r.1.key, .int .i64 r.1.seq, .slice ra r.1.near.length rc, .int .i64 r.1.cost, .bool r.1.far] 64)
 obtain ⟨w0, hw0⟩ : ∃ w0, w0 = w.alloc (.cells #[.int .i64 r.1.area, .int .i64 r.1.kind, .int .i64 r.1.owner, .int .i64 r.1.key, .int .i64 r.1.seq, .slice ra r.1.near.length rc, .int .i64 r.1.cost, .bool r.1.far] 64) := ⟨_, rfl⟩
 have hs0 : w0.heap.size = w.heap.size + 1 := by rw [hw0]; simp
 rw [<- hw0] at BX hx
 have R0 := hide (World.ownsRow_lit (e := 64) (size := 8) w0 #[] 0 (show w.heap.size + 1 <= w0.heap.size by omega) (by unfold maxLen; omega) (by simp))
 have B0 := hide (show Below w0.heap.size w0 (w0.alloc (.cells #[] 64)) from (Below.refl _ _).alloc (Nat.le_refl _) _)
 have HX := hide hx
 clear hx
 go_enter Tryz.func25, Tryz.ntmps25
 go_wp2
 rw [<- hw0]
 rw [hs0] at R0
 have hs0l : w.heap.size + 1 <= w0.heap.size := by omega
 have hs0r : w0.heap.size <= w.heap.size + 1 := by omega
 clear hs0 hw0
 generalize w0.alloc (.cells #[] 64) = wL at *
 go_loopw [6, 5] (fun i o wr => ∃ (k : Nat) (u : Value) (l : List RP), k <= ps.length /\ i = .int .i64 k /\ o = u /\ Hid (l = (ps.take k).filter (fun p => Zaz p.1 r.1)) /\ wr.ownsRow (w.heap.size + 1) 64 8 u l.length (flat encP l) /\ Below w0.heap.size w0 wr) (fun i _ _ => ps.length - (intOf i).toNat)
 case atStart => exact ⟨0, _, [], by omega, rfl, rfl, rfl, by simpa [flat] using R0.out, B0.out⟩
 case round =>
  obtain ⟨k, u, l, hk, rfl, rfl, HL, hown, hnx⟩ := hrel
  obtain ⟨ua, uc, rfl⟩ := Zac hown
  have hsz := hnx.size
  have BWR : Below w.heap.size w wr := BX.trans (hnx.mono (by omega))
  have HQL := hide (show l.length <= 2097153 by rw [(HL).out]; have h2 := List.length_filter_le (fun p : RP => Zaz p.1 r.1) (ps.take k); simp at h2 |-; omega)
  by_cases hlt : k < ps.length
  ·obtain ⟨p, hp⟩ : ∃ p, ps[k]? = some p := ⟨ps[k], List.getElem?_eq_getElem hlt⟩
   have hat := HV.out.at
   obtain ⟨b, off, cap', hve, hbb, c0, c1, c2, c3, c4, c5, c6, c7, hnr⟩ := hat.cells k p hp
   cases hve
   obtain ⟨pa, pc, hpn⟩ := ZaC.shape hnr
   rw [hpn] at c5
   rw [<- BWR.cell (p := ⟨b, off + k * 8, none⟩) (Nat.lt_of_lt_of_le hbb hhi)] at c0
   rw [<- BWR.cell (p := ⟨b, off + k * 8 + 1, none⟩) (Nat.lt_of_lt_of_le hbb hhi)] at c1
   rw [<- BWR.cell (p := ⟨b, off + k * 8 + 2, none⟩) (Nat.lt_of_lt_of_le hbb hhi)] at c2
   rw [<- BWR.cell (p := ⟨b, off + k * 8 + 3, none⟩) (Nat.lt_of_lt_of_le hbb hhi)] at c3
   rw [<- BWR.cell (p := ⟨b, off + k * 8 + 4, none⟩) (Nat.lt_of_lt_of_le hbb hhi)] at c4
   rw [<- BWR.cell (p := ⟨b, off + k * 8 + 5, none⟩) (Nat.lt_of_lt_of_le hbb hhi)] at c5
   rw [<- BWR.cell (p := ⟨b, off + k * 8 + 6, none⟩) (Nat.lt_of_lt_of_le hbb hhi)] at c6
   rw [<- BWR.cell (p := ⟨b, off + k * 8 + 7, none⟩) (Nat.lt_of_lt_of_le hbb hhi)] at c7
   have hxx := (hnx.block _ (Zab HX.out)).trans HX.out
   have d0 := Zaa hxx 0
   have d1 := Zaa hxx 1
   have d2 := Zaa hxx 2
   have d3 := Zaa hxx 3
   have d4 := Zaa hxx 4
   have d5 := Zaa hxx 5
   have d6 := Zaa hxx 6
   have d7 := Zaa hxx 7
   simp at d0 d1 d2 d3 d4 d5 d6 d7
   have hb1 : b < wr.heap.size := by omega
   have hb2 : w.heap.size < wr.heap.size := by omega
   have hki : (0 : Int) <= (k : Int) := by omega
   have hkj : (k : Int) < (ps.length : Int) := by omega
   have hq := fun W => Zee p.2 r.2 p.1 r.1 W
   unfold recC at hq
   rw [hpn, HRN.out] at hq
   have hpe : p = (p.1, .slice pa p.1.near.length pc) := Prod.ext rfl hpn
   obtain ⟨q, hqq⟩ : ∃ q, q = Zaz p.1 r.1 := ⟨_, rfl⟩
   rw [<- hqq] at hq
   have HK := hide hq
   have hft := ZdB (fun p => Zaz p.1 r.1) hp
   rw [<- hqq] at hft
   have HFT := hide hft
   have HPE := hide hpe
   have OW := hide hown
   clear hq hqq hp hat hxx hnr hpn hft hpe hown
   cases q
   ·go_wp2
    go_region_held3 (fun W => W.cell? ⟨b, off + k * 8, none⟩ = some (.int .i64 p.1.area) /\ W.cell? ⟨b, off + k * 8 + 1, none⟩ = some (.int .i64 p.1.kind) /\ W.cell? ⟨b, off + k * 8 + 2, none⟩ = some (.int .i64 p.1.owner) /\ W.cell? ⟨b, off + k * 8 + 3, none⟩ = some (.int .i64 p.1.key) /\ W.cell? ⟨b, off + k * 8 + 4, none⟩ = some (.int .i64 p.1.seq) /\ W.cell? ⟨b, off + k * 8 + 5, none⟩ = some (.slice pa p.1.near.length pc) /\ W.cell? ⟨b, off + k * 8 + 6, none⟩ = some (.int .i64 p.1.cost) /\ W.cell? ⟨b, off + k * 8 + 7, none⟩ = some (.bool p.1.far) /\ W.cell? ⟨w.heap.size, 0, none⟩ = some (.int .i64 r.1.area) /\ W.cell? ⟨w.heap.size, 1, none⟩ = some (.int .i64 r.1.kind) /\ W.cell? ⟨w.heap.size, 2, none⟩ = some (.int .i64 r.1.owner) /\ W.cell? ⟨w.heap.size, 3, none⟩ = some (.int .i64 r.1.key) /\ W.cell? ⟨w.heap.size, 4, none⟩ = some (.int .i64 r.1.seq) /\ W.cell? ⟨w.heap.size, 5, none⟩ = some (.slice ra r.1.near.length rc) /\ W.cell? ⟨w.heap.size, 6, none⟩ = some (.int .i64 r.1.cost) /\ W.cell? ⟨w.heap.size, 7, none⟩ = some (.bool r.1.far)) (first | go_keep | (refine ⟨?_, ?_, ?_, ?_, ?_, ?_, ?_, ?_, ?_, ?_, ?_, ?_, ?_, ?_, ?_, ?_⟩ <;> (rw [hbc.cell (by assumption)]; assumption))) (first | (go_at_call 58; refine (HK.out _).mono ?_; rintro e w1 ⟨rfl, hbc⟩))
    have B1 : Below w0.heap.size w0 w1 := hnx.trans ((Below.refl _ _).drew.trans (hbc.mono hsz))
    have OW1 := hide (Zae OW.out ((Below.refl wr.heap.size wr).drew.trans hbc) (Nat.le_refl _))
    have HFT2 := hide (show l = (ps.take (k + 1)).filter (fun p => Zaz p.1 r.1) by rw [(HL).out, HFT.out]; simp)
    go_wp2
    go_roundw
    case rel => exact ⟨k + 1, _, _, by omega, by go_num, rfl, HFT2, OW1.out, B1⟩
    case measure => simp [intOf]; omega
   ·go_wp2
    go_region_held3 (fun W => W.cell? ⟨b, off + k * 8, none⟩ = some (.int .i64 p.1.area) /\ W.cell? ⟨b, off + k * 8 + 1, none⟩ = some (.int .i64 p.1.kind) /\ W.cell? ⟨b, off + k * 8 + 2, none⟩ = some (.int .i64 p.1.owner) /\ W.cell? ⟨b, off + k * 8 + 3, none⟩ = some (.int .i64 p.1.key) /\ W.cell? ⟨b, off + k * 8 + 4, none⟩ = some (.int .i64 p.1.seq) /\ W.cell? ⟨b, off + k * 8 + 5, none⟩ = some (.slice pa p.1.near.length pc) /\ W.cell? ⟨b, off + k * 8 + 6, none⟩ = some (.int .i64 p.1.cost) /\ W.cell? ⟨b, off + k * 8 + 7, none⟩ = some (.bool p.1.far) /\ W.cell? ⟨w.heap.size, 0, none⟩ = some (.int .i64 r.1.area) /\ W.cell? ⟨w.heap.size, 1, none⟩ = some (.int .i64 r.1.kind) /\ W.cell? ⟨w.heap.size, 2, none⟩ = some (.int .i64 r.1.owner) /\ W.cell? ⟨w.heap.size, 3, none⟩ = some (.int .i64 r.1.key) /\ W.cell? ⟨w.heap.size, 4, none⟩ = some (.int .i64 r.1.seq) /\ W.cell? ⟨w.heap.size, 5, none⟩ = some (.slice ra r.1.near.length rc) /\ W.cell? ⟨w.heap.size, 6, none⟩ = some (.int .i64 r.1.cost) /\ W.cell? ⟨w.heap.size, 7, none⟩ = some (.bool r.1.far)) (first | go_keep | (refine ⟨?_, ?_, ?_, ?_, ?_, ?_, ?_, ?_, ?_, ?_, ?_, ?_, ?_, ?_, ?_, ?_⟩ <;> (rw [hbc.cell (by assumption)]; assumption))) (first | (go_at_call 58; refine (HK.out _).mono ?_; rintro e w1 ⟨rfl, hbc⟩))
    have B1 : Below w0.heap.size w0 w1 := hnx.trans ((Below.refl _ _).drew.trans (hbc.mono hsz))
    have OW1 := hide (Zae OW.out ((Below.refl wr.heap.size wr).drew.trans hbc) (Nat.le_refl _))
    have b1s := B1.size
    have m0 := (hbc.cell (p := ⟨b, off + k * 8, none⟩) hb1).trans c0
    have m1 := (hbc.cell (p := ⟨b, off + k * 8 + 1, none⟩) hb1).trans c1
    have m2 := (hbc.cell (p := ⟨b, off + k * 8 + 2, none⟩) hb1).trans c2
    have m3 := (hbc.cell (p := ⟨b, off + k * 8 + 3, none⟩) hb1).trans c3
    have m4 := (hbc.cell (p := ⟨b, off + k * 8 + 4, none⟩) hb1).trans c4
    have m5 := (hbc.cell (p := ⟨b, off + k * 8 + 5, none⟩) hb1).trans c5
    have m6 := (hbc.cell (p := ⟨b, off + k * 8 + 6, none⟩) hb1).trans c6
    have m7 := (hbc.cell (p := ⟨b, off + k * 8 + 7, none⟩) hb1).trans c7
    have HFT2 := hide (show l ++ [(p.1, .slice pa p.1.near.length pc)] = (ps.take (k + 1)).filter (fun p => Zaz p.1 r.1) by rw [(HL).out, HFT.out, <- HPE.out]; simp)
    go_wp2_with (first
     | (at_builtin; refine ZaJ Zck (by omega) (by omega) _ rfl _ _ 31 rfl (w.heap.size + 1) 64 Tryz.underlying31 (.agg (recC ZbN (.slice none 0 0))) rfl Tryz.infoRec _ (l) (p.1, .slice pa p.1.near.length pc) (ZcA _ _ _ _) rfl (OW1.out.alloc _) ⟨w1.heap.size, 0, none⟩ 1 rfl (Zan (cs := encP (p.1, .slice pa p.1.near.length pc))) (by have := HQL.out; omega) (by simp; omega) ?_))
    intro v' w4 hown' hgrow
    obtain ⟨va, vc, rfl⟩ := Zac hown'
    have B4 : Below w0.heap.size w0 w4 := (B1.alloc b1s _).grown hgrow (by simp; omega) (fun j hj => by have := (OW1.out.lt j hj).1; omega)
    have OW4 := hide hown'
    clear hown' hgrow
    go_wp2
    go_roundw
    case rel => exact ⟨k + 1, _, _, by omega, by go_num, rfl, HFT2, by simpa using OW4.out, B4⟩
    case measure => simp [intOf]; omega
  ·have hkn : k = ps.length := by omega
   have htk : ps.take k = ps := by rw [hkn, List.take_length]
   rw [htk] at HL
   have OW := hide hown
   clear hown hkn htk
   have hxx := (hnx.block _ (Zab HX.out)).trans HX.out
   have d0 := Zaa hxx 0
   have d1 := Zaa hxx 1
   have d2 := Zaa hxx 2
   have d3 := Zaa hxx 3
   have d4 := Zaa hxx 4
   have d5 := Zaa hxx 5
   have d6 := Zaa hxx 6
   have d7 := Zaa hxx 7
   simp at d0 d1 d2 d3 d4 d5 d6 d7
   clear hxx
   go_wp2_with (first
    | (at_builtin; refine ZaJ Zck (by omega) (by omega) _ rfl _ _ 31 rfl (w.heap.size + 1) 64 Tryz.underlying31 (.agg (recC ZbN (.slice none 0 0))) rfl Tryz.infoRec _ (l) (r.1, .slice ra r.1.near.length rc) (ZcA _ _ _ _) rfl (OW.out.alloc _) ⟨wr.heap.size, 0, none⟩ 1 rfl (Zan (cs := encP (r.1, .slice ra r.1.near.length rc))) (by have := HQL.out; omega) (by simp; omega) ?_))
   intro v' w4 hown' hgrow
   obtain ⟨va, vc, rfl⟩ := Zac hown'
   have B2 := hide ((hnx.alloc hsz _).grown hgrow (by simp; omega) (fun j hj => by have := (OW.out.lt j hj).1; omega))
   have HRE := hide (show r = (r.1, .slice ra r.1.near.length rc) from Prod.ext rfl HRN.out)
   have R2 := hide hown'
   clear hown' hgrow HQL d0 d1 d2 d3 d4 d5 d6 d7 OW hnx hsz BWR
   go_wp2
   go_loopw [7, 5] (fun i o wr => ∃ (k : Nat) (u : Value) (l : List RP), k <= ps.length /\ i = .int .i64 k /\ o = u /\ Hid (l = ps.filter (fun p => Zaz p.1 r.1) ++ [r] ++ (ps.take k).filter (fun p => Zaz r.1 p.1)) /\ wr.ownsRow (w.heap.size + 1) 64 8 u l.length (flat encP l) /\ Below w0.heap.size w0 wr) (fun i _ _ => ps.length - (intOf i).toNat)
   case atStart => exact ⟨0, _, l ++ [(r.1, .slice ra r.1.near.length rc)], by omega, rfl, rfl, (hide (by rw [HL.out, <- HRE.out]; simp)), by simpa using R2.out, B2.out⟩
   case round =>
    obtain ⟨k, u, m, hk, rfl, rfl, HM, hown, hnx⟩ := hrel
    obtain ⟨ua, uc, rfl⟩ := Zac hown
    have hsz := hnx.size
    have BWR : Below w.heap.size w wr := BX.trans (hnx.mono (by omega))
    have HQL := hide (show m.length <= 2097153 by rw [(HM).out]; have h1 := List.length_filter_le (fun p : RP => Zaz p.1 r.1) ps; have h2 := List.length_filter_le (fun p : RP => Zaz r.1 p.1) (ps.take k); simp at h1 h2 |-; omega)
    by_cases hlt : k < ps.length
    ·obtain ⟨p, hp⟩ : ∃ p, ps[k]? = some p := ⟨ps[k], List.getElem?_eq_getElem hlt⟩
     have hat := HV.out.at
     obtain ⟨b, off, cap', hve, hbb, c0, c1, c2, c3, c4, c5, c6, c7, hnr⟩ := hat.cells k p hp
     cases hve
     obtain ⟨pa, pc, hpn⟩ := ZaC.shape hnr
     rw [hpn] at c5
     rw [<- BWR.cell (p := ⟨b, off + k * 8, none⟩) (Nat.lt_of_lt_of_le hbb hhi)] at c0
     rw [<- BWR.cell (p := ⟨b, off + k * 8 + 1, none⟩) (Nat.lt_of_lt_of_le hbb hhi)] at c1
     rw [<- BWR.cell (p := ⟨b, off + k * 8 + 2, none⟩) (Nat.lt_of_lt_of_le hbb hhi)] at c2
     rw [<- BWR.cell (p := ⟨b, off + k * 8 + 3, none⟩) (Nat.lt_of_lt_of_le hbb hhi)] at c3
     rw [<- BWR.cell (p := ⟨b, off + k * 8 + 4, none⟩) (Nat.lt_of_lt_of_le hbb hhi)] at c4
     rw [<- BWR.cell (p := ⟨b, off + k * 8 + 5, none⟩) (Nat.lt_of_lt_of_le hbb hhi)] at c5
     rw [<- BWR.cell (p := ⟨b, off + k * 8 + 6, none⟩) (Nat.lt_of_lt_of_le hbb hhi)] at c6
     rw [<- BWR.cell (p := ⟨b, off + k * 8 + 7, none⟩) (Nat.lt_of_lt_of_le hbb hhi)] at c7
     have hxx := (hnx.block _ (Zab HX.out)).trans HX.out
     have d0 := Zaa hxx 0
     have d1 := Zaa hxx 1
     have d2 := Zaa hxx 2
     have d3 := Zaa hxx 3
     have d4 := Zaa hxx 4
     have d5 := Zaa hxx 5
     have d6 := Zaa hxx 6
     have d7 := Zaa hxx 7
     simp at d0 d1 d2 d3 d4 d5 d6 d7
     have hb1 : b < wr.heap.size := by omega
     have hb2 : w.heap.size < wr.heap.size := by omega
     have hki : (0 : Int) <= (k : Int) := by omega
     have hkj : (k : Int) < (ps.length : Int) := by omega
     have hq := fun W => Zee r.2 p.2 r.1 p.1 W
     unfold recC at hq
     rw [hpn, HRN.out] at hq
     have hpe : p = (p.1, .slice pa p.1.near.length pc) := Prod.ext rfl hpn
     obtain ⟨q, hqq⟩ : ∃ q, q = Zaz r.1 p.1 := ⟨_, rfl⟩
     rw [<- hqq] at hq
     have HK := hide hq
     have hft := ZdB (fun p => Zaz r.1 p.1) hp
     rw [<- hqq] at hft
     have HFT := hide hft
     have HPE := hide hpe
     have OW := hide hown
     clear hq hqq hp hat hxx hnr hpn hft hpe hown
     cases q
     ·go_wp2
      go_region_held3 (fun W => W.cell? ⟨b, off + k * 8, none⟩ = some (.int .i64 p.1.area) /\ W.cell? ⟨b, off + k * 8 + 1, none⟩ = some (.int .i64 p.1.kind) /\ W.cell? ⟨b, off + k * 8 + 2, none⟩ = some (.int .i64 p.1.owner) /\ W.cell? ⟨b, off + k * 8 + 3, none⟩ = some (.int .i64 p.1.key) /\ W.cell? ⟨b, off + k * 8 + 4, none⟩ = some (.int .i64 p.1.seq) /\ W.cell? ⟨b, off + k * 8 + 5, none⟩ = some (.slice pa p.1.near.length pc) /\ W.cell? ⟨b, off + k * 8 + 6, none⟩ = some (.int .i64 p.1.cost) /\ W.cell? ⟨b, off + k * 8 + 7, none⟩ = some (.bool p.1.far) /\ W.cell? ⟨w.heap.size, 0, none⟩ = some (.int .i64 r.1.area) /\ W.cell? ⟨w.heap.size, 1, none⟩ = some (.int .i64 r.1.kind) /\ W.cell? ⟨w.heap.size, 2, none⟩ = some (.int .i64 r.1.owner) /\ W.cell? ⟨w.heap.size, 3, none⟩ = some (.int .i64 r.1.key) /\ W.cell? ⟨w.heap.size, 4, none⟩ = some (.int .i64 r.1.seq) /\ W.cell? ⟨w.heap.size, 5, none⟩ = some (.slice ra r.1.near.length rc) /\ W.cell? ⟨w.heap.size, 6, none⟩ = some (.int .i64 r.1.cost) /\ W.cell? ⟨w.heap.size, 7, none⟩ = some (.bool r.1.far)) (first | go_keep | (refine ⟨?_, ?_, ?_, ?_, ?_, ?_, ?_, ?_, ?_, ?_, ?_, ?_, ?_, ?_, ?_, ?_⟩ <;> (rw [hbc.cell (by assumption)]; assumption))) (first | (go_at_call 58; refine (HK.out _).mono ?_; rintro e w1 ⟨rfl, hbc⟩))
      have B1 : Below w0.heap.size w0 w1 := hnx.trans ((Below.refl _ _).drew.trans (hbc.mono hsz))
      have OW1 := hide (Zae OW.out ((Below.refl wr.heap.size wr).drew.trans hbc) (Nat.le_refl _))
      have HFT2 := hide (show m = ps.filter (fun p => Zaz p.1 r.1) ++ [r] ++ (ps.take (k + 1)).filter (fun p => Zaz r.1 p.1) by rw [(HM).out, HFT.out]; simp)
      go_wp2
      go_roundw
      case rel => exact ⟨k + 1, _, _, by omega, by go_num, rfl, HFT2, OW1.out, B1⟩
      case measure => simp [intOf]; omega
     ·go_wp2
      go_region_held3 (fun W => W.cell? ⟨b, off + k * 8, none⟩ = some (.int .i64 p.1.area) /\ W.cell? ⟨b, off + k * 8 + 1, none⟩ = some (.int .i64 p.1.kind) /\ W.cell? ⟨b, off + k * 8 + 2, none⟩ = some (.int .i64 p.1.owner) /\ W.cell? ⟨b, off + k * 8 + 3, none⟩ = some (.int .i64 p.1.key) /\ W.cell? ⟨b, off + k * 8 + 4, none⟩ = some (.int .i64 p.1.seq) /\ W.cell? ⟨b, off + k * 8 + 5, none⟩ = some (.slice pa p.1.near.length pc) /\ W.cell? ⟨b, off + k * 8 + 6, none⟩ = some (.int .i64 p.1.cost) /\ W.cell? ⟨b, off + k * 8 + 7, none⟩ = some (.bool p.1.far) /\ W.cell? ⟨w.heap.size, 0, none⟩ = some (.int .i64 r.1.area) /\ W.cell? ⟨w.heap.size, 1, none⟩ = some (.int .i64 r.1.kind) /\ W.cell? ⟨w.heap.size, 2, none⟩ = some (.int .i64 r.1.owner) /\ W.cell? ⟨w.heap.size, 3, none⟩ = some (.int .i64 r.1.key) /\ W.cell? ⟨w.heap.size, 4, none⟩ = some (.int .i64 r.1.seq) /\ W.cell? ⟨w.heap.size, 5, none⟩ = some (.slice ra r.1.near.length rc) /\ W.cell? ⟨w.heap.size, 6, none⟩ = some (.int .i64 r.1.cost) /\ W.cell? ⟨w.heap.size, 7, none⟩ = some (.bool r.1.far)) (first | go_keep | (refine ⟨?_, ?_, ?_, ?_, ?_, ?_, ?_, ?_, ?_, ?_, ?_, ?_, ?_, ?_, ?_, ?_⟩ <;> (rw [hbc.cell (by assumption)]; assumption))) (first | (go_at_call 58; refine (HK.out _).mono ?_; rintro e w1 ⟨rfl, hbc⟩))
      have B1 : Below w0.heap.size w0 w1 := hnx.trans ((Below.refl _ _).drew.trans (hbc.mono hsz))
      have OW1 := hide (Zae OW.out ((Below.refl wr.heap.size wr).drew.trans hbc) (Nat.le_refl _))
      have b1s := B1.size
      have m0 := (hbc.cell (p := ⟨b, off + k * 8, none⟩) hb1).trans c0
      have m1 := (hbc.cell (p := ⟨b, off + k * 8 + 1, none⟩) hb1).trans c1
      have m2 := (hbc.cell (p := ⟨b, off + k * 8 + 2, none⟩) hb1).trans c2
      have m3 := (hbc.cell (p := ⟨b, off + k * 8 + 3, none⟩) hb1).trans c3
      have m4 := (hbc.cell (p := ⟨b, off + k * 8 + 4, none⟩) hb1).trans c4
      have m5 := (hbc.cell (p := ⟨b, off + k * 8 + 5, none⟩) hb1).trans c5
      have m6 := (hbc.cell (p := ⟨b, off + k * 8 + 6, none⟩) hb1).trans c6
      have m7 := (hbc.cell (p := ⟨b, off + k * 8 + 7, none⟩) hb1).trans c7
      have HFT2 := hide (show m ++ [(p.1, .slice pa p.1.near.length pc)] = ps.filter (fun p => Zaz p.1 r.1) ++ [r] ++ (ps.take (k + 1)).filter (fun p => Zaz r.1 p.1) by rw [(HM).out, HFT.out, <- HPE.out]; simp)
      go_wp2_with (first
       | (at_builtin; refine ZaJ Zck (by omega) (by omega) _ rfl _ _ 31 rfl (w.heap.size + 1) 64 Tryz.underlying31 (.agg (recC ZbN (.slice none 0 0))) rfl Tryz.infoRec _ (m) (p.1, .slice pa p.1.near.length pc) (ZcA _ _ _ _) rfl (OW1.out.alloc _) ⟨w1.heap.size, 0, none⟩ 1 rfl (Zan (cs := encP (p.1, .slice pa p.1.near.length pc))) (by have := HQL.out; omega) (by simp; omega) ?_))
      intro v' w4 hown' hgrow
      obtain ⟨va, vc, rfl⟩ := Zac hown'
      have B4 : Below w0.heap.size w0 w4 := (B1.alloc b1s _).grown hgrow (by simp; omega) (fun j hj => by have := (OW1.out.lt j hj).1; omega)
      have OW4 := hide hown'
      clear hown' hgrow
      go_wp2
      go_roundw
      case rel => exact ⟨k + 1, _, _, by omega, by go_num, rfl, HFT2, by simpa using OW4.out, B4⟩
      case measure => simp [intOf]; omega
    ·have hkn : k = ps.length := by omega
     have htk : ps.take k = ps := by rw [hkn, List.take_length]
     rw [htk] at HM
     have OW := hide hown
     clear hown hkn htk
     go_wp2
     go_ret
     refine ⟨_, rfl, ⟨?_, fun j hj => (OW.out.lt j hj).2, ?_⟩, BWR, fun j hj => by have := (OW.out.lt j hj).1; omega⟩
     ·rw [<- HM.out]; exact Zag OW.out (Nat.zero_le _)
     intro q hq
     have hmem : q ∈ ps \/ q = r := by
      rcases List.mem_append.1 hq with h | h
      ·rcases List.mem_append.1 h with h | h
       ·exact .inl ((List.mem_filter.1 h).1)
       ·exact .inr (by simpa using h)
      ·exact .inl ((List.mem_filter.1 h).1)
     have hno : ZaT w 0 hi q := by
      rcases hmem with h | h
      ·exact HV.out.nears q h
      ·rw [h]; exact HR.out
     exact (hno.keep (W' := wr) (fun j _ h2 _ => BWR.block j (by omega))).wide (Nat.le_refl _) (by omega)
theorem ZhC (v : Value) (ps : List RP) (hi : Nat) (r : RP) (w : World) (hv : RecsIn w hi v ps) (hhi : hi <= w.heap.size) (hn : tot ps <= 1048576) (hr : ZaT w 0 hi r) :
  Calls Tryz.prog 25 #[v, .agg (recC r.1 r.2)] w fun e w' => ∃ x, e = .returned x /\ RecsIn w' w'.heap.size x (putL ps r) /\ Below w.heap.size w w' := by
 refine (Zm6 v ps hi r w hv hhi hn hr).mono ?_
 rintro e w' ⟨x, h1, h2, h3, _⟩
 exact ⟨x, h1, h2, h3⟩
def ZcI {α : Type} (ord : α -> α -> Int) (ls : List α) : Nat -> Bool
 | 0 => true
 | k + 1 => match ls[k]?, ls[k + 1]? with
  | some p, some l => decide (ord p l < 0)
  | _, _ => true
theorem Zcw {α : Type} {ord : α -> α -> Int} {ls : List α} {j : Nat} {p l : α} (hp : ls[j]? = some p) (hl : ls[j + 1]? = some l) : ZcI ord ls (j + 1) = decide (ord p l < 0) := by
 simp only [ZcI, hp, hl]
def ascB {α : Type} (ord : α -> α -> Int) (ls : List α) : Bool := (List.range ls.length).all (ZcI ord ls)
theorem Za7 {n k : Nat} {p : Nat -> Bool} (hk : k < n) (h : p k = false) : (List.range n).all p = false := by
 cases e : (List.range n).all p with
 | false => rfl
 | true => rw [List.all_eq_true.1 e k (List.mem_range.2 hk)] at h; cases h
theorem Zbh {n : Nat} {p : Nat -> Bool} (h : ∀ j, j < n -> p j = true) : (List.range n).all p = true := List.all_eq_true.2 fun j hj => h j (List.mem_range.1 hj)
theorem ZaW {k : Nat} {p : Nat -> Bool} (h : ∀ j, j < k -> p j = true) (hk : p k = true) : ∀ j, j < k + 1 -> p j = true := fun j hj => by
 by_cases e : j = k
 ·subst e; exact hk
 ·exact h j (by omega)
def okAt {α : Type} (ok : α -> Bool) (ls : List α) (k : Nat) : Bool := match ls[k]? with
 | some l => ok l
 | none => true
theorem ZcU {α : Type} {ok : α -> Bool} {ls : List α} {k : Nat} {l : α} (h : ls[k]? = some l) : okAt ok ls k = ok l := by simp only [okAt, h]
def Zcg {α : Type} (ok : α -> Bool) (ls : List α) : Bool := (List.range ls.length).all (okAt ok ls)
def Zb8 (owner : Int) (l : Nr) : Bool := inB l.to 1 6 && !(l.to == owner) && inB l.c 1 1000
def ordN (p l : Nr) : Int := p.to - l.to
def Zbd (owner : Int) (ns : List Nr) : Bool := Zcg (Zb8 owner) ns && ascB ordN ns
theorem Zlr (v1 : Value) (x : RecD) (w : World) (hl : x.near.length <= 1048576) (hv : ZaC w v1 x.near w.heap.size) :
  Calls Tryz.prog 110 #[.agg (recC x v1)] w fun e w' => e = .returned (.bool (Zbd x.owner x.near)) /\ Below w.heap.size w w' := by
 obtain ⟨a1, c1, rfl⟩ := hv.shape
 have HV := hide hv
 clear hv
 unfold recC
 go_enter Tryz.func110, Tryz.ntmps110
 go_wp2
 go_loopw [3] (fun i wr => ∃ k : Nat, k <= x.near.length /\ i = .int .i64 k /\ (∀ j, j < k -> okAt (Zb8 x.owner) x.near j = true) /\ (∀ j, j < k -> ZcI ordN x.near j = true) /\ Below w.heap.size w wr /\ wr.heap[w.heap.size]? = some (.cells #[.int .i64 x.area, .int .i64 x.kind, .int .i64 x.owner, .int .i64 x.key, .int .i64 x.seq, .slice a1 x.near.length c1, .int .i64 x.cost, .bool x.far] 64)) (fun i _ => x.near.length - (intOf i).toNat)
 case atStart => exact ⟨0, by omega, rfl, by omega, by omega, (Below.refl _ _).alloc (Nat.le_refl _) _, heap_alloc_new w _⟩
 case round =>
  obtain ⟨k, hk, rfl, hall, hasc, hnx, hx⟩ := hrel
  have hxl := Zab hx
  have g5 := Zaa hx 5
  simp at g5
  have HALL := hide hall
  have HASC := hide hasc
  have HX := hide hx
  clear hall hasc hx
  by_cases hlt : k < x.near.length
  ·obtain ⟨l, hl⟩ : ∃ l, x.near[k]? = some l := ⟨x.near[k], List.getElem?_eq_getElem hlt⟩
   obtain ⟨b, off, cap', hve, hbb, s0, s1⟩ := HV.out.cells k l hl
   cases hve
   rw [<- hnx.cell (p := ⟨b, off + k * 2, none⟩) hbb] at s0
   rw [<- hnx.cell (p := ⟨b, off + k * 2 + 1, none⟩) hbb] at s1
   have hzr := hnx.size
   have hbr : b < wr.heap.size := by omega
   have hki : (0 : Int) <= (k : Int) := by omega
   have hkj : (k : Int) < (x.near.length : Int) := by omega
   obtain ⟨qt, hqt⟩ : ∃ q, q = inB l.to 1 6 := ⟨_, rfl⟩
   obtain ⟨qc, hqc⟩ : ∃ q, q = inB l.c 1 1000 := ⟨_, rfl⟩
   have hok : Zb8 x.owner l = (qt && !(l.to == x.owner) && qc) := by unfold Zb8; rw [hqt, hqc]
   have HIT := hide (ZbE l.to 1 6)
   have HIC := hide (ZbE l.c 1 1000)
   rw [<- hqt] at HIT
   rw [<- hqc] at HIC
   have HAT1 := hide ((ZcU (ok := Zb8 x.owner) hl).trans hok)
   have HL := hide hl
   clear hqt hqc hok hl
   obtain ⟨wq, hwq⟩ : ∃ wq : World, wq = wr.alloc (.cells #[.int .i64 l.to, .int .i64 l.c] 67) := ⟨_, rfl⟩
   have BW : Below w.heap.size w wq := by rw [hwq]; exact hnx.alloc hnx.size _
   have hb0 : wq.heap[wr.heap.size]? = some (.cells #[.int .i64 l.to, .int .i64 l.c] 67) := by rw [hwq]; exact heap_alloc_new wr _
   have hx9 : wq.heap[w.heap.size]? = some (.cells #[.int .i64 x.area, .int .i64 x.kind, .int .i64 x.owner, .int .i64 x.key, .int .i64 x.seq, .slice (some ⟨b, off, none⟩) x.near.length c1, .int .i64 x.cost, .bool x.far] 64) := by rw [hwq, Below.heap_alloc _ _ _ hxl]; exact HX.out
   go_wp2
   rw [<- hwq]
   have g2 := Zaa hx9 2
   have g5 := Zaa hx9 5
   have e0 := Zaa hb0 0
   have e1 := Zaa hb0 1
   simp at g2 g5 e0 e1
   have HX9 := hide hx9
   obtain ⟨z, hz⟩ : ∃ z, z = wr.heap.size := ⟨_, rfl⟩
   rw [<- hz] at e0 e1 |-
   clear hb0 hx9 hwq hz s0 s1
   cases qt
   ·have hf : Zbd x.owner x.near = false := by unfold Zbd Zcg; rw [Za7 hlt (HAT1.out.trans (by simp))]; rfl
    have HF := hide hf
    clear hf
    refine Zai (S := (fun W => W.cell? ⟨w.heap.size, 2, none⟩ = some (.int .i64 x.owner) /\ W.cell? ⟨w.heap.size, 5, none⟩ = some (.slice (some ⟨b, off, none⟩) x.near.length c1) /\ W.cell? ⟨z, 0, none⟩ = some (.int .i64 l.to) /\ W.cell? ⟨z, 1, none⟩ = some (.int .i64 l.c))) (by kernel_rfl) 33 rfl ⟨g2, g5, e0, e1⟩ (fun ops hops hHeld => ?_)
    iterate 2
     refine Zas 33 ?_ ?_ ?_ (by rw [hops.out]; kernel_rfl) ?_ ?_ (by assumption) ?_
     rotate_left 2
     ·rw [hops.out]; simp only [getS, Nat.reduceSub, Nat.reduceAdd]; rfl
     ·intro W hW; (try dsimp only at hW); go_simp <;> with_reducible rfl
     ·exact fun _ _ _ => id
     try simp only [putS]
    refine Zak 2 (oi := ?_) ?_ (by rw [hops.out]; kernel_rfl) ?_ ?_
    rotate_left 1
    ·rw [hops.out]; simp only [getS]; rfl
    ·rw [hops.out]; kernel_rfl
    intro K hK
    go_simp
    refine (HIT.out _).mono ?_
    rintro e w1 ⟨rfl, rfl⟩
    refine hK.out _ _ hHeld (fun _ => ?_)
    clear hK K
    try simp only [putS]
    iterate 2
     refine Zas 33 ?_ ?_ ?_ (by rw [hops.out]; kernel_rfl) ?_ ?_ (by assumption) ?_
     rotate_left 2
     ·rw [hops.out]; simp only [getS, Nat.reduceSub, Nat.reduceAdd]; rfl
     ·intro W hW; (try dsimp only at hW); go_simp <;> with_reducible rfl
     ·exact fun _ _ _ => id
     try simp only [putS]
    refine Zad 5 22 (by rw [hops.out]; kernel_rfl) (fun _ _ _ h => h) (by assumption) ?_
    try simp only [putS]
    refine Zad 6 23 (by rw [hops.out]; kernel_rfl) (fun _ _ _ h => h) (by assumption) ?_
    try simp only [putS]
    refine Zad 7 24 (by rw [hops.out]; kernel_rfl) (fun _ _ _ h => h) (by assumption) ?_
    try simp only [putS]
    refine Zad 8 25 (by rw [hops.out]; kernel_rfl) (fun _ _ _ h => h) (by assumption) ?_
    try simp only [putS]
    refine Zad 9 26 (by rw [hops.out]; kernel_rfl) (fun _ _ _ h => h) (by assumption) ?_
    try simp only [putS]
    iterate 2
     refine Zas 33 ?_ ?_ ?_ (by rw [hops.out]; kernel_rfl) ?_ ?_ (by assumption) ?_
     rotate_left 2
     ·rw [hops.out]; simp only [getS, Nat.reduceSub, Nat.reduceAdd]; rfl
     ·intro W hW; (try dsimp only at hW); go_simp <;> with_reducible rfl
     ·exact fun _ _ _ => id
     try simp only [putS]
    refine Zad 12 29 (by rw [hops.out]; kernel_rfl) (fun _ _ _ h => h) (by assumption) ?_
    try simp only [putS]
    refine Zad 13 30 (by rw [hops.out]; kernel_rfl) (fun _ _ _ h => h) (by assumption) ?_
    try simp only [putS]
    refine Zad 14 31 (by rw [hops.out]; kernel_rfl) (fun _ _ _ h => h) (by assumption) ?_
    try simp only [putS]
    refine Zad 15 32 (by rw [hops.out]; kernel_rfl) (fun _ _ _ h => h) (by assumption) ?_
    try simp only [putS]
    iterate 2
     refine Zas 33 ?_ ?_ ?_ (by rw [hops.out]; kernel_rfl) ?_ ?_ (by assumption) ?_
     rotate_left 2
     ·rw [hops.out]; simp only [getS, Nat.reduceSub, Nat.reduceAdd]; rfl
     ·intro W hW; (try dsimp only at hW); go_simp <;> with_reducible rfl
     ·exact fun _ _ _ => id
     try simp only [putS]
    refine Zad 18 35 (by rw [hops.out]; kernel_rfl) (fun _ _ _ h => h) (by assumption) ?_
    try simp only [putS]
    refine Zad 19 36 (by rw [hops.out]; kernel_rfl) (fun _ _ _ h => h) (by assumption) ?_
    try simp only [putS]
    refine Zad 20 37 (by rw [hops.out]; kernel_rfl) (fun _ _ _ h => h) (by assumption) ?_
    try simp only [putS]
    refine Zad 21 38 (by rw [hops.out]; kernel_rfl) (fun _ _ _ h => h) (by assumption) ?_
    try simp only [putS]
    refine Zad 22 39 (by rw [hops.out]; kernel_rfl) (fun _ _ _ h => h) (by assumption) ?_
    try simp only [putS]
    refine Zad 23 40 (by rw [hops.out]; kernel_rfl) (fun _ _ _ h => h) (by assumption) ?_
    try simp only [putS]
    refine Zad 24 41 (by rw [hops.out]; kernel_rfl) (fun _ _ _ h => h) (by assumption) ?_
    try simp only [putS]
    refine Zad 25 42 (by rw [hops.out]; kernel_rfl) (fun _ _ _ h => h) (by assumption) ?_
    try simp only [putS]
    refine Zad 26 43 (by rw [hops.out]; kernel_rfl) (fun _ _ _ h => h) (by assumption) ?_
    try simp only [putS]
    refine Zad 27 44 (by rw [hops.out]; kernel_rfl) (fun _ _ _ h => h) (by assumption) ?_
    try simp only [putS]
    refine Zad 28 45 (by rw [hops.out]; kernel_rfl) (fun _ _ _ h => h) (by assumption) ?_
    try simp only [putS]
    refine Zad 29 46 (by rw [hops.out]; kernel_rfl) (fun _ _ _ h => h) (by assumption) ?_
    try simp only [putS]
    refine Zad 30 47 (by rw [hops.out]; kernel_rfl) (fun _ _ _ h => h) (by assumption) ?_
    try simp only [putS]
    refine Zad 31 48 (by rw [hops.out]; kernel_rfl) (fun _ _ _ h => h) (by assumption) ?_
    try simp only [putS]
    refine ZaZ 32 ?_ ?_ ?_ (by rw [hops.out]; kernel_rfl) ?_ ?_ (by assumption) ?_
    rotate_left 2
    ·rw [hops.out]; simp only [getS]; rfl
    ·intro W hW; (try dsimp only at hW); go_simp <;> with_reducible rfl
    ·exact fun _ _ _ => id
    try simp only [putS]
    refine wpAnyH_done (by rw [hops.out]; kernel_rfl) ?_ _
    clear hops ops
    go_wp2
    go_ret
    exact ⟨Zaj HF.out, BW.drew⟩
   by_cases how : l.to = x.owner
   ·have hoe : (l.to == x.owner) = true := by simpa using how
    have hf : Zbd x.owner x.near = false := by unfold Zbd Zcg; rw [Za7 hlt (HAT1.out.trans (by simp [hoe]))]; rfl
    have HF := hide hf
    clear hf how
    refine Zai (S := (fun W => W.cell? ⟨w.heap.size, 2, none⟩ = some (.int .i64 x.owner) /\ W.cell? ⟨w.heap.size, 5, none⟩ = some (.slice (some ⟨b, off, none⟩) x.near.length c1) /\ W.cell? ⟨z, 0, none⟩ = some (.int .i64 l.to) /\ W.cell? ⟨z, 1, none⟩ = some (.int .i64 l.c))) (by kernel_rfl) 33 rfl ⟨g2, g5, e0, e1⟩ (fun ops hops hHeld => ?_)
    iterate 2
     refine Zas 33 ?_ ?_ ?_ (by rw [hops.out]; kernel_rfl) ?_ ?_ (by assumption) ?_
     rotate_left 2
     ·rw [hops.out]; simp only [getS, Nat.reduceSub, Nat.reduceAdd]; rfl
     ·intro W hW; (try dsimp only at hW); go_simp <;> with_reducible rfl
     ·exact fun _ _ _ => id
     try simp only [putS]
    refine Zak 2 (oi := ?_) ?_ (by rw [hops.out]; kernel_rfl) ?_ ?_
    rotate_left 1
    ·rw [hops.out]; simp only [getS]; rfl
    ·rw [hops.out]; kernel_rfl
    intro K hK
    go_simp
    refine (HIT.out _).mono ?_
    rintro e w1 ⟨rfl, rfl⟩
    refine hK.out _ _ hHeld (fun _ => ?_)
    clear hK K
    try simp only [putS]
    iterate 6
     refine Zas 33 ?_ ?_ ?_ (by rw [hops.out]; kernel_rfl) ?_ ?_ (by assumption) ?_
     rotate_left 2
     ·rw [hops.out]; simp only [getS, Nat.reduceSub, Nat.reduceAdd]; rfl
     ·intro W hW; (try dsimp only at hW); go_simp <;> with_reducible rfl
     ·exact fun _ _ _ => id
     try simp only [putS]
    refine ZaV 9 (oi := ?_) (v := .bool true) ?_ (by rw [hops.out]; kernel_rfl) ?_ ?_ ?_ (by assumption) ?_
    rotate_left 1
    ·rw [hops.out]; simp only [getS]; rfl
    ·rw [hops.out]; kernel_rfl
    ·intro W hW; (try dsimp only at hW); go_simp <;> (first | with_reducible rfl | (simp; omega) | omega)
    ·exact fun _ _ _ => id
    try simp only [putS]
    iterate 2
     refine Zas 33 ?_ ?_ ?_ (by rw [hops.out]; kernel_rfl) ?_ ?_ (by assumption) ?_
     rotate_left 2
     ·rw [hops.out]; simp only [getS, Nat.reduceSub, Nat.reduceAdd]; rfl
     ·intro W hW; (try dsimp only at hW); go_simp <;> with_reducible rfl
     ·exact fun _ _ _ => id
     try simp only [putS]
    refine Zad 12 29 (by rw [hops.out]; kernel_rfl) (fun _ _ _ h => h) (by assumption) ?_
    try simp only [putS]
    refine Zad 13 30 (by rw [hops.out]; kernel_rfl) (fun _ _ _ h => h) (by assumption) ?_
    try simp only [putS]
    refine Zad 14 31 (by rw [hops.out]; kernel_rfl) (fun _ _ _ h => h) (by assumption) ?_
    try simp only [putS]
    refine Zad 15 32 (by rw [hops.out]; kernel_rfl) (fun _ _ _ h => h) (by assumption) ?_
    try simp only [putS]
    iterate 2
     refine Zas 33 ?_ ?_ ?_ (by rw [hops.out]; kernel_rfl) ?_ ?_ (by assumption) ?_
     rotate_left 2
     ·rw [hops.out]; simp only [getS, Nat.reduceSub, Nat.reduceAdd]; rfl
     ·intro W hW; (try dsimp only at hW); go_simp <;> with_reducible rfl
     ·exact fun _ _ _ => id
     try simp only [putS]
    refine Zad 18 35 (by rw [hops.out]; kernel_rfl) (fun _ _ _ h => h) (by assumption) ?_
    try simp only [putS]
    refine Zad 19 36 (by rw [hops.out]; kernel_rfl) (fun _ _ _ h => h) (by assumption) ?_
    try simp only [putS]
    refine Zad 20 37 (by rw [hops.out]; kernel_rfl) (fun _ _ _ h => h) (by assumption) ?_
    try simp only [putS]
    refine Zad 21 38 (by rw [hops.out]; kernel_rfl) (fun _ _ _ h => h) (by assumption) ?_
    try simp only [putS]
    refine Zad 22 39 (by rw [hops.out]; kernel_rfl) (fun _ _ _ h => h) (by assumption) ?_
    try simp only [putS]
    refine Zad 23 40 (by rw [hops.out]; kernel_rfl) (fun _ _ _ h => h) (by assumption) ?_
    try simp only [putS]
    refine Zad 24 41 (by rw [hops.out]; kernel_rfl) (fun _ _ _ h => h) (by assumption) ?_
    try simp only [putS]
    refine Zad 25 42 (by rw [hops.out]; kernel_rfl) (fun _ _ _ h => h) (by assumption) ?_
    try simp only [putS]
    refine Zad 26 43 (by rw [hops.out]; kernel_rfl) (fun _ _ _ h => h) (by assumption) ?_
    try simp only [putS]
    refine Zad 27 44 (by rw [hops.out]; kernel_rfl) (fun _ _ _ h => h) (by assumption) ?_
    try simp only [putS]
    refine Zad 28 45 (by rw [hops.out]; kernel_rfl) (fun _ _ _ h => h) (by assumption) ?_
    try simp only [putS]
    refine Zad 29 46 (by rw [hops.out]; kernel_rfl) (fun _ _ _ h => h) (by assumption) ?_
    try simp only [putS]
    refine Zad 30 47 (by rw [hops.out]; kernel_rfl) (fun _ _ _ h => h) (by assumption) ?_
    try simp only [putS]
    refine Zad 31 48 (by rw [hops.out]; kernel_rfl) (fun _ _ _ h => h) (by assumption) ?_
    try simp only [putS]
    refine ZaZ 32 ?_ ?_ ?_ (by rw [hops.out]; kernel_rfl) ?_ ?_ (by assumption) ?_
    rotate_left 2
    ·rw [hops.out]; simp only [getS]; rfl
    ·intro W hW; (try dsimp only at hW); go_simp <;> with_reducible rfl
    ·exact fun _ _ _ => id
    try simp only [putS]
    refine wpAnyH_done (by rw [hops.out]; kernel_rfl) ?_ _
    clear hops ops
    go_wp2
    go_ret
    exact ⟨Zaj HF.out, BW.drew⟩
   have hoe : (l.to == x.owner) = false := by simpa using how
   have HAT1 : Hid (okAt (Zb8 x.owner) x.near k = qc) := HAT1.out.trans (by simp [hoe])
   clear how
   cases qc
   ·have hf : Zbd x.owner x.near = false := by unfold Zbd Zcg; rw [Za7 hlt HAT1.out]; rfl
    have HF := hide hf
    clear hf
    refine Zai (S := (fun W => W.cell? ⟨w.heap.size, 2, none⟩ = some (.int .i64 x.owner) /\ W.cell? ⟨w.heap.size, 5, none⟩ = some (.slice (some ⟨b, off, none⟩) x.near.length c1) /\ W.cell? ⟨z, 0, none⟩ = some (.int .i64 l.to) /\ W.cell? ⟨z, 1, none⟩ = some (.int .i64 l.c))) (by kernel_rfl) 33 rfl ⟨g2, g5, e0, e1⟩ (fun ops hops hHeld => ?_)
    iterate 2
     refine Zas 33 ?_ ?_ ?_ (by rw [hops.out]; kernel_rfl) ?_ ?_ (by assumption) ?_
     rotate_left 2
     ·rw [hops.out]; simp only [getS, Nat.reduceSub, Nat.reduceAdd]; rfl
     ·intro W hW; (try dsimp only at hW); go_simp <;> with_reducible rfl
     ·exact fun _ _ _ => id
     try simp only [putS]
    refine Zak 2 (oi := ?_) ?_ (by rw [hops.out]; kernel_rfl) ?_ ?_
    rotate_left 1
    ·rw [hops.out]; simp only [getS]; rfl
    ·rw [hops.out]; kernel_rfl
    intro K hK
    go_simp
    refine (HIT.out _).mono ?_
    rintro e w1 ⟨rfl, rfl⟩
    refine hK.out _ _ hHeld (fun _ => ?_)
    clear hK K
    try simp only [putS]
    iterate 6
     refine Zas 33 ?_ ?_ ?_ (by rw [hops.out]; kernel_rfl) ?_ ?_ (by assumption) ?_
     rotate_left 2
     ·rw [hops.out]; simp only [getS, Nat.reduceSub, Nat.reduceAdd]; rfl
     ·intro W hW; (try dsimp only at hW); go_simp <;> with_reducible rfl
     ·exact fun _ _ _ => id
     try simp only [putS]
    refine ZaV 9 (oi := ?_) (v := .bool false) ?_ (by rw [hops.out]; kernel_rfl) ?_ ?_ ?_ (by assumption) ?_
    rotate_left 1
    ·rw [hops.out]; simp only [getS]; rfl
    ·rw [hops.out]; kernel_rfl
    ·intro W hW; (try dsimp only at hW); go_simp <;> (first | with_reducible rfl | (simp; omega) | omega)
    ·exact fun _ _ _ => id
    try simp only [putS]
    iterate 4
     refine Zas 33 ?_ ?_ ?_ (by rw [hops.out]; kernel_rfl) ?_ ?_ (by assumption) ?_
     rotate_left 2
     ·rw [hops.out]; simp only [getS, Nat.reduceSub, Nat.reduceAdd]; rfl
     ·intro W hW; (try dsimp only at hW); go_simp <;> with_reducible rfl
     ·exact fun _ _ _ => id
     try simp only [putS]
    refine Zak 14 (oi := ?_) ?_ (by rw [hops.out]; kernel_rfl) ?_ ?_
    rotate_left 1
    ·rw [hops.out]; simp only [getS]; rfl
    ·rw [hops.out]; kernel_rfl
    intro K hK
    go_simp
    refine (HIC.out _).mono ?_
    rintro e w1 ⟨rfl, rfl⟩
    refine hK.out _ _ hHeld (fun _ => ?_)
    clear hK K
    try simp only [putS]
    iterate 3
     refine Zas 33 ?_ ?_ ?_ (by rw [hops.out]; kernel_rfl) ?_ ?_ (by assumption) ?_
     rotate_left 2
     ·rw [hops.out]; simp only [getS, Nat.reduceSub, Nat.reduceAdd]; rfl
     ·intro W hW; (try dsimp only at hW); go_simp <;> with_reducible rfl
     ·exact fun _ _ _ => id
     try simp only [putS]
    refine Zad 18 35 (by rw [hops.out]; kernel_rfl) (fun _ _ _ h => h) (by assumption) ?_
    try simp only [putS]
    refine Zad 19 36 (by rw [hops.out]; kernel_rfl) (fun _ _ _ h => h) (by assumption) ?_
    try simp only [putS]
    refine Zad 20 37 (by rw [hops.out]; kernel_rfl) (fun _ _ _ h => h) (by assumption) ?_
    try simp only [putS]
    refine Zad 21 38 (by rw [hops.out]; kernel_rfl) (fun _ _ _ h => h) (by assumption) ?_
    try simp only [putS]
    refine Zad 22 39 (by rw [hops.out]; kernel_rfl) (fun _ _ _ h => h) (by assumption) ?_
    try simp only [putS]
    refine Zad 23 40 (by rw [hops.out]; kernel_rfl) (fun _ _ _ h => h) (by assumption) ?_
    try simp only [putS]
    refine Zad 24 41 (by rw [hops.out]; kernel_rfl) (fun _ _ _ h => h) (by assumption) ?_
    try simp only [putS]
    refine Zad 25 42 (by rw [hops.out]; kernel_rfl) (fun _ _ _ h => h) (by assumption) ?_
    try simp only [putS]
    refine Zad 26 43 (by rw [hops.out]; kernel_rfl) (fun _ _ _ h => h) (by assumption) ?_
    try simp only [putS]
    refine Zad 27 44 (by rw [hops.out]; kernel_rfl) (fun _ _ _ h => h) (by assumption) ?_
    try simp only [putS]
    refine Zad 28 45 (by rw [hops.out]; kernel_rfl) (fun _ _ _ h => h) (by assumption) ?_
    try simp only [putS]
    refine Zad 29 46 (by rw [hops.out]; kernel_rfl) (fun _ _ _ h => h) (by assumption) ?_
    try simp only [putS]
    refine Zad 30 47 (by rw [hops.out]; kernel_rfl) (fun _ _ _ h => h) (by assumption) ?_
    try simp only [putS]
    refine Zad 31 48 (by rw [hops.out]; kernel_rfl) (fun _ _ _ h => h) (by assumption) ?_
    try simp only [putS]
    refine ZaZ 32 ?_ ?_ ?_ (by rw [hops.out]; kernel_rfl) ?_ ?_ (by assumption) ?_
    rotate_left 2
    ·rw [hops.out]; simp only [getS]; rfl
    ·intro W hW; (try dsimp only at hW); go_simp <;> with_reducible rfl
    ·exact fun _ _ _ => id
    try simp only [putS]
    refine wpAnyH_done (by rw [hops.out]; kernel_rfl) ?_ _
    clear hops ops
    go_wp2
    go_ret
    exact ⟨Zaj HF.out, BW.drew⟩
   by_cases hk0 : k = 0
   ·have hk1 : ¬ (0 : Int) < (k : Int) := by omega
    have hat2 : ZcI ordN x.near k = true := by rw [hk0]; rfl
    have HAT2 := hide hat2
    clear hat2 hk0
    refine Zai (S := (fun W => W.cell? ⟨w.heap.size, 2, none⟩ = some (.int .i64 x.owner) /\ W.cell? ⟨w.heap.size, 5, none⟩ = some (.slice (some ⟨b, off, none⟩) x.near.length c1) /\ W.cell? ⟨z, 0, none⟩ = some (.int .i64 l.to) /\ W.cell? ⟨z, 1, none⟩ = some (.int .i64 l.c))) (by kernel_rfl) 33 rfl ⟨g2, g5, e0, e1⟩ (fun ops hops hHeld => ?_)
    iterate 2
     refine Zas 33 ?_ ?_ ?_ (by rw [hops.out]; kernel_rfl) ?_ ?_ (by assumption) ?_
     rotate_left 2
     ·rw [hops.out]; simp only [getS, Nat.reduceSub, Nat.reduceAdd]; rfl
     ·intro W hW; (try dsimp only at hW); go_simp <;> with_reducible rfl
     ·exact fun _ _ _ => id
     try simp only [putS]
    refine Zak 2 (oi := ?_) ?_ (by rw [hops.out]; kernel_rfl) ?_ ?_
    rotate_left 1
    ·rw [hops.out]; simp only [getS]; rfl
    ·rw [hops.out]; kernel_rfl
    intro K hK
    go_simp
    refine (HIT.out _).mono ?_
    rintro e w1 ⟨rfl, rfl⟩
    refine hK.out _ _ hHeld (fun _ => ?_)
    clear hK K
    try simp only [putS]
    iterate 6
     refine Zas 33 ?_ ?_ ?_ (by rw [hops.out]; kernel_rfl) ?_ ?_ (by assumption) ?_
     rotate_left 2
     ·rw [hops.out]; simp only [getS, Nat.reduceSub, Nat.reduceAdd]; rfl
     ·intro W hW; (try dsimp only at hW); go_simp <;> with_reducible rfl
     ·exact fun _ _ _ => id
     try simp only [putS]
    refine ZaV 9 (oi := ?_) (v := .bool false) ?_ (by rw [hops.out]; kernel_rfl) ?_ ?_ ?_ (by assumption) ?_
    rotate_left 1
    ·rw [hops.out]; simp only [getS]; rfl
    ·rw [hops.out]; kernel_rfl
    ·intro W hW; (try dsimp only at hW); go_simp <;> (first | with_reducible rfl | (simp; omega) | omega)
    ·exact fun _ _ _ => id
    try simp only [putS]
    iterate 4
     refine Zas 33 ?_ ?_ ?_ (by rw [hops.out]; kernel_rfl) ?_ ?_ (by assumption) ?_
     rotate_left 2
     ·rw [hops.out]; simp only [getS, Nat.reduceSub, Nat.reduceAdd]; rfl
     ·intro W hW; (try dsimp only at hW); go_simp <;> with_reducible rfl
     ·exact fun _ _ _ => id
     try simp only [putS]
    refine Zak 14 (oi := ?_) ?_ (by rw [hops.out]; kernel_rfl) ?_ ?_
    rotate_left 1
    ·rw [hops.out]; simp only [getS]; rfl
    ·rw [hops.out]; kernel_rfl
    intro K hK
    go_simp
    refine (HIC.out _).mono ?_
    rintro e w1 ⟨rfl, rfl⟩
    refine hK.out _ _ hHeld (fun _ => ?_)
    clear hK K
    try simp only [putS]
    iterate 4
     refine Zas 33 ?_ ?_ ?_ (by rw [hops.out]; kernel_rfl) ?_ ?_ (by assumption) ?_
     rotate_left 2
     ·rw [hops.out]; simp only [getS, Nat.reduceSub, Nat.reduceAdd]; rfl
     ·intro W hW; (try dsimp only at hW); go_simp <;> with_reducible rfl
     ·exact fun _ _ _ => id
     try simp only [putS]
    refine ZaV 19 (oi := ?_) (v := .bool false) ?_ (by rw [hops.out]; kernel_rfl) ?_ ?_ ?_ (by assumption) ?_
    rotate_left 1
    ·rw [hops.out]; simp only [getS]; rfl
    ·rw [hops.out]; kernel_rfl
    ·intro W hW; (try dsimp only at hW); go_simp <;> (first | with_reducible rfl | (simp; omega) | omega)
    ·exact fun _ _ _ => id
    try simp only [putS]
    refine ZaZ 20 ?_ ?_ ?_ (by rw [hops.out]; kernel_rfl) ?_ ?_ (by assumption) ?_
    rotate_left 2
    ·rw [hops.out]; simp only [getS]; rfl
    ·intro W hW; (try dsimp only at hW); go_simp <;> with_reducible rfl
    ·exact fun _ _ _ => id
    try simp only [putS]
    refine Zad 21 38 (by rw [hops.out]; kernel_rfl) (fun _ _ _ h => h) (by assumption) ?_
    try simp only [putS]
    refine Zad 22 39 (by rw [hops.out]; kernel_rfl) (fun _ _ _ h => h) (by assumption) ?_
    try simp only [putS]
    refine Zad 23 40 (by rw [hops.out]; kernel_rfl) (fun _ _ _ h => h) (by assumption) ?_
    try simp only [putS]
    refine Zad 24 41 (by rw [hops.out]; kernel_rfl) (fun _ _ _ h => h) (by assumption) ?_
    try simp only [putS]
    refine Zad 25 42 (by rw [hops.out]; kernel_rfl) (fun _ _ _ h => h) (by assumption) ?_
    try simp only [putS]
    refine Zad 26 43 (by rw [hops.out]; kernel_rfl) (fun _ _ _ h => h) (by assumption) ?_
    try simp only [putS]
    refine Zad 27 44 (by rw [hops.out]; kernel_rfl) (fun _ _ _ h => h) (by assumption) ?_
    try simp only [putS]
    refine Zad 28 45 (by rw [hops.out]; kernel_rfl) (fun _ _ _ h => h) (by assumption) ?_
    try simp only [putS]
    refine Zad 29 46 (by rw [hops.out]; kernel_rfl) (fun _ _ _ h => h) (by assumption) ?_
    try simp only [putS]
    refine Zad 30 47 (by rw [hops.out]; kernel_rfl) (fun _ _ _ h => h) (by assumption) ?_
    try simp only [putS]
    iterate 2
     refine Zas 33 ?_ ?_ ?_ (by rw [hops.out]; kernel_rfl) ?_ ?_ (by assumption) ?_
     rotate_left 2
     ·rw [hops.out]; simp only [getS, Nat.reduceSub, Nat.reduceAdd]; rfl
     ·intro W hW; (try dsimp only at hW); go_simp <;> with_reducible rfl
     ·exact fun _ _ _ => id
     try simp only [putS]
    refine wpAnyH_done (by rw [hops.out]; kernel_rfl) ?_ _
    clear hops ops
    go_wp2
    exact ⟨⟨k + 1, by omega, by go_num, ZaW HALL.out HAT1.out, ZaW HASC.out HAT2.out, BW.drew, HX9.out⟩, by simp [intOf]; omega⟩
   ·obtain ⟨j, hj⟩ : ∃ j, k = j + 1 := ⟨k - 1, by omega⟩
    obtain ⟨p, hp⟩ : ∃ p, x.near[j]? = some p := ⟨x.near[j], List.getElem?_eq_getElem (by omega)⟩
    obtain ⟨b', off', cap2, hve2, hbb2, t0, t1⟩ := HV.out.cells j p hp
    cases hve2
    rw [<- BW.cell (p := ⟨b, off + j * 2, none⟩) hbb] at t0
    have hat2 : ZcI ordN x.near k = decide (p.to - l.to < 0) := by rw [hj]; exact Zcw hp (by rw [<- hj]; exact HL.out)
    have HAT2 := hide hat2
    have hj1 : (k : Int) - 1 = (j : Int) := by omega
    have hj2 : (0 : Int) <= (j : Int) := by omega
    have hj3 : (j : Int) < (x.near.length : Int) := by omega
    have hj4 : (0 : Int) < (k : Int) := by omega
    have hj5 : IntKind.i64.wrap (j : Int) = (j : Int) := ZaM _ (by omega) (by omega)
    clear hp hat2 hj hk0 hbb2 t1
    by_cases hpl : p.to < l.to
    ·have hd : decide (p.to - l.to < 0) = true := decide_eq_true (by omega)
     have HAT3 : Hid (ZcI ordN x.near k = true) := HAT2.out.trans hd
     have hpl2 : ¬ l.to <= p.to := by omega
     clear hd HAT2
     refine Zai (S := (fun W => W.cell? ⟨w.heap.size, 2, none⟩ = some (.int .i64 x.owner) /\ W.cell? ⟨w.heap.size, 5, none⟩ = some (.slice (some ⟨b, off, none⟩) x.near.length c1) /\ W.cell? ⟨z, 0, none⟩ = some (.int .i64 l.to) /\ W.cell? ⟨z, 1, none⟩ = some (.int .i64 l.c) /\ W.cell? ⟨b, off + j * 2, none⟩ = some (.int .i64 p.to))) (by kernel_rfl) 33 rfl ⟨g2, g5, e0, e1, t0⟩ (fun ops hops hHeld => ?_)
     iterate 2
      refine Zas 33 ?_ ?_ ?_ (by rw [hops.out]; kernel_rfl) ?_ ?_ (by assumption) ?_
      rotate_left 2
      ·rw [hops.out]; simp only [getS, Nat.reduceSub, Nat.reduceAdd]; rfl
      ·intro W hW; (try dsimp only at hW); go_simp <;> with_reducible rfl
      ·exact fun _ _ _ => id
      try simp only [putS]
     refine Zak 2 (oi := ?_) ?_ (by rw [hops.out]; kernel_rfl) ?_ ?_
     rotate_left 1
     ·rw [hops.out]; simp only [getS]; rfl
     ·rw [hops.out]; kernel_rfl
     intro K hK
     go_simp
     refine (HIT.out _).mono ?_
     rintro e w1 ⟨rfl, rfl⟩
     refine hK.out _ _ hHeld (fun _ => ?_)
     clear hK K
     try simp only [putS]
     iterate 6
      refine Zas 33 ?_ ?_ ?_ (by rw [hops.out]; kernel_rfl) ?_ ?_ (by assumption) ?_
      rotate_left 2
      ·rw [hops.out]; simp only [getS, Nat.reduceSub, Nat.reduceAdd]; rfl
      ·intro W hW; (try dsimp only at hW); go_simp <;> with_reducible rfl
      ·exact fun _ _ _ => id
      try simp only [putS]
     refine ZaV 9 (oi := ?_) (v := .bool false) ?_ (by rw [hops.out]; kernel_rfl) ?_ ?_ ?_ (by assumption) ?_
     rotate_left 1
     ·rw [hops.out]; simp only [getS]; rfl
     ·rw [hops.out]; kernel_rfl
     ·intro W hW; (try dsimp only at hW); go_simp <;> (first | with_reducible rfl | (simp; omega) | omega)
     ·exact fun _ _ _ => id
     try simp only [putS]
     iterate 4
      refine Zas 33 ?_ ?_ ?_ (by rw [hops.out]; kernel_rfl) ?_ ?_ (by assumption) ?_
      rotate_left 2
      ·rw [hops.out]; simp only [getS, Nat.reduceSub, Nat.reduceAdd]; rfl
      ·intro W hW; (try dsimp only at hW); go_simp <;> with_reducible rfl
      ·exact fun _ _ _ => id
      try simp only [putS]
     refine Zak 14 (oi := ?_) ?_ (by rw [hops.out]; kernel_rfl) ?_ ?_
     rotate_left 1
     ·rw [hops.out]; simp only [getS]; rfl
     ·rw [hops.out]; kernel_rfl
     intro K hK
     go_simp
     refine (HIC.out _).mono ?_
     rintro e w1 ⟨rfl, rfl⟩
     refine hK.out _ _ hHeld (fun _ => ?_)
     clear hK K
     try simp only [putS]
     iterate 4
      refine Zas 33 ?_ ?_ ?_ (by rw [hops.out]; kernel_rfl) ?_ ?_ (by assumption) ?_
      rotate_left 2
      ·rw [hops.out]; simp only [getS, Nat.reduceSub, Nat.reduceAdd]; rfl
      ·intro W hW; (try dsimp only at hW); go_simp <;> with_reducible rfl
      ·exact fun _ _ _ => id
      try simp only [putS]
     refine ZaV 19 (oi := ?_) (v := .bool true) ?_ (by rw [hops.out]; kernel_rfl) ?_ ?_ ?_ (by assumption) ?_
     rotate_left 1
     ·rw [hops.out]; simp only [getS]; rfl
     ·rw [hops.out]; kernel_rfl
     ·intro W hW; (try dsimp only at hW); go_simp <;> (first | with_reducible rfl | (simp; omega) | omega)
     ·exact fun _ _ _ => id
     try simp only [putS]
     iterate 13
      refine Zas 33 ?_ ?_ ?_ (by rw [hops.out]; kernel_rfl) ?_ ?_ (by assumption) ?_
      rotate_left 2
      ·rw [hops.out]; simp only [getS, Nat.reduceSub, Nat.reduceAdd]; rfl
      ·intro W hW; (try dsimp only at hW); go_simp <;> with_reducible rfl
      ·exact fun _ _ _ => id
      try simp only [putS]
     refine wpAnyH_done (by rw [hops.out]; kernel_rfl) ?_ _
     clear hops ops
     go_wp2
     exact ⟨⟨k + 1, by omega, by go_num, ZaW HALL.out HAT1.out, ZaW HASC.out HAT3.out, BW.drew, HX9.out⟩, by simp [intOf]; omega⟩
    ·have hd : decide (p.to - l.to < 0) = false := decide_eq_false (by omega)
     have hf : Zbd x.owner x.near = false := by unfold Zbd ascB; rw [Za7 hlt (HAT2.out.trans hd)]; simp
     have HF := hide hf
     have hpl2 : l.to <= p.to := by omega
     clear hd hf HAT2
     refine Zai (S := (fun W => W.cell? ⟨w.heap.size, 2, none⟩ = some (.int .i64 x.owner) /\ W.cell? ⟨w.heap.size, 5, none⟩ = some (.slice (some ⟨b, off, none⟩) x.near.length c1) /\ W.cell? ⟨z, 0, none⟩ = some (.int .i64 l.to) /\ W.cell? ⟨z, 1, none⟩ = some (.int .i64 l.c) /\ W.cell? ⟨b, off + j * 2, none⟩ = some (.int .i64 p.to))) (by kernel_rfl) 33 rfl ⟨g2, g5, e0, e1, t0⟩ (fun ops hops hHeld => ?_)
     iterate 2
      refine Zas 33 ?_ ?_ ?_ (by rw [hops.out]; kernel_rfl) ?_ ?_ (by assumption) ?_
      rotate_left 2
      ·rw [hops.out]; simp only [getS, Nat.reduceSub, Nat.reduceAdd]; rfl
      ·intro W hW; (try dsimp only at hW); go_simp <;> with_reducible rfl
      ·exact fun _ _ _ => id
      try simp only [putS]
     refine Zak 2 (oi := ?_) ?_ (by rw [hops.out]; kernel_rfl) ?_ ?_
     rotate_left 1
     ·rw [hops.out]; simp only [getS]; rfl
     ·rw [hops.out]; kernel_rfl
     intro K hK
     go_simp
     refine (HIT.out _).mono ?_
     rintro e w1 ⟨rfl, rfl⟩
     refine hK.out _ _ hHeld (fun _ => ?_)
     clear hK K
     try simp only [putS]
     iterate 6
      refine Zas 33 ?_ ?_ ?_ (by rw [hops.out]; kernel_rfl) ?_ ?_ (by assumption) ?_
      rotate_left 2
      ·rw [hops.out]; simp only [getS, Nat.reduceSub, Nat.reduceAdd]; rfl
      ·intro W hW; (try dsimp only at hW); go_simp <;> with_reducible rfl
      ·exact fun _ _ _ => id
      try simp only [putS]
     refine ZaV 9 (oi := ?_) (v := .bool false) ?_ (by rw [hops.out]; kernel_rfl) ?_ ?_ ?_ (by assumption) ?_
     rotate_left 1
     ·rw [hops.out]; simp only [getS]; rfl
     ·rw [hops.out]; kernel_rfl
     ·intro W hW; (try dsimp only at hW); go_simp <;> (first | with_reducible rfl | (simp; omega) | omega)
     ·exact fun _ _ _ => id
     try simp only [putS]
     iterate 4
      refine Zas 33 ?_ ?_ ?_ (by rw [hops.out]; kernel_rfl) ?_ ?_ (by assumption) ?_
      rotate_left 2
      ·rw [hops.out]; simp only [getS, Nat.reduceSub, Nat.reduceAdd]; rfl
      ·intro W hW; (try dsimp only at hW); go_simp <;> with_reducible rfl
      ·exact fun _ _ _ => id
      try simp only [putS]
     refine Zak 14 (oi := ?_) ?_ (by rw [hops.out]; kernel_rfl) ?_ ?_
     rotate_left 1
     ·rw [hops.out]; simp only [getS]; rfl
     ·rw [hops.out]; kernel_rfl
     intro K hK
     go_simp
     refine (HIC.out _).mono ?_
     rintro e w1 ⟨rfl, rfl⟩
     refine hK.out _ _ hHeld (fun _ => ?_)
     clear hK K
     try simp only [putS]
     iterate 4
      refine Zas 33 ?_ ?_ ?_ (by rw [hops.out]; kernel_rfl) ?_ ?_ (by assumption) ?_
      rotate_left 2
      ·rw [hops.out]; simp only [getS, Nat.reduceSub, Nat.reduceAdd]; rfl
      ·intro W hW; (try dsimp only at hW); go_simp <;> with_reducible rfl
      ·exact fun _ _ _ => id
      try simp only [putS]
     refine ZaV 19 (oi := ?_) (v := .bool true) ?_ (by rw [hops.out]; kernel_rfl) ?_ ?_ ?_ (by assumption) ?_
     rotate_left 1
     ·rw [hops.out]; simp only [getS]; rfl
     ·rw [hops.out]; kernel_rfl
     ·intro W hW; (try dsimp only at hW); go_simp <;> (first | with_reducible rfl | (simp; omega) | omega)
     ·exact fun _ _ _ => id
     try simp only [putS]
     iterate 13
      refine Zas 33 ?_ ?_ ?_ (by rw [hops.out]; kernel_rfl) ?_ ?_ (by assumption) ?_
      rotate_left 2
      ·rw [hops.out]; simp only [getS, Nat.reduceSub, Nat.reduceAdd]; rfl
      ·intro W hW; (try dsimp only at hW); go_simp <;> with_reducible rfl
      ·exact fun _ _ _ => id
      try simp only [putS]
     refine wpAnyH_done (by rw [hops.out]; kernel_rfl) ?_ _
     clear hops ops
     go_wp2
     go_ret
     exact ⟨Zaj HF.out, BW.drew⟩
  ·have hfin : Zbd x.owner x.near = true := by
    have e1 : Zcg (Zb8 x.owner) x.near = true := Zbh fun i hi => HALL.out i (by omega)
    have e2 : ascB ordN x.near = true := Zbh fun i hi => HASC.out i (by omega)
    unfold Zbd
    rw [e1, e2]; rfl
   have HFIN := hide hfin
   clear hfin
   go_wp2
   go_ret
   exact ⟨Zaj HFIN.out, hnx⟩
end Go.Proofs.YtakiifededfjlaaGreat
