/-
  The law FnExactNodeOk answers true at every argument, and each argument reads afterwards as it read before, where the listed variables of the library start as the program's text lays them (the card ties them); no other condition.
  spec.l10Heard, spec.NodeOk: their contracts.
  What the laws of lists of records want.
  laws.FnExactNodeOk: its walk.
  Slices of structs of four fields of one cell each, opened at every index.
  An argument of type laws.Net, opened.
  Slices of structs of two fields of one cell each, opened at every index.
  An argument of type laws.Record, opened.
  Slices of structs of any number of cells, opened at every index (cut out of OpenRecs).
  An argument of type []laws.Record, opened.
  An argument of type laws.Way, opened.
  An argument of type []int, opened.
  An argument of type laws.Self, opened.
  An argument of type laws.Node, opened.
-/
import Derived.Test.YtimbeeinognjbaaGreatDoorNk8
import Derived.Test.YtimbeeinognjbaaGreatDoorNk10
import Derived.Test.YtimbeeinognjbaaGreatDoorNk2
import Derived.Deep.RegionHeld3
import Derived.Test.YtimbeeinognjbaaGreatDoorNk1
import Derived.Deep.Slices
import Derived.ChangeSame
import Derived.OpenShut
import Derived.Test.YtimbeeinognjbaaGreatDoorNk3
import Derived.Test.YtimbeeinognjbaaGreatDoorNk4
import Derived.Test.YtimbeeinognjbaaGreatDoorCards
import Derived.Test.YtimbeeinognjbaaGreatDoorTie
import Derived.ProofKit
import Derived.ShutString
import Derived.ChangeOld
import Derived.LaidMore
import Derived.LaidLaws
import Derived.LaidHandle
import Derived.Stop.Joined
import Derived.SevenTiedAt
import Derived.OpenVars
import Derived.ChangeVars
namespace Go.Proofs.YtimbeeinognjbaaGreatDoor
open Go.RowKit

set_option linter.unusedSimpArgs false

/-- an append of two ints as one step of a region that draws its order -/
theorem step_append_two {P : Program} {ops : Array Oper} {o : Oper} {a : Act} {w : World} {K : Act → World → Prop} {Q : Exit → Act → World → Prop} {E : Prop} (hgd : o.guard = none) (s x : Operand) (t : TypeId)
    (ho : o.op = .call { callee := .builtin .append, args := #[s, x], argTypes := #[t, t] }) (base : Nat) (e : TypeId) (ht : P.underlying t = some (.slice e))
    (hinfo : (P.info? e).map (fun i => (i.zero, i.size, i.bytes)) = some (some (.int .i64 0), 1, 8))
    (v : Value) (l : List Int) (y1 y2 : Int) (hs : a.eval s = v) (hown : w.ownsRow base e 1 v l.length (flat intE l))
    (ad : Addr) (c : Nat) (hx : a.eval x = .slice (some ad) 2 c) (hnews : ∀ j u, ([.int .i64 y1, .int .i64 y2] : List Value)[j]? = some u → w.cell? (ad.add j) = some u)
    (hl : l.length + 2 ≤ 1000000000) (hbase : base ≤ w.heap.size)
    (h : ∀ v' w', w'.ownsRow base e 1 v' (l ++ [y1, y2]).length (flat intE (l ++ [y1, y2])) → w.grownBy w' v.ownBlock → K (a.put o.dst v') w') :
    if Region.wanted o (yielded ops a.tmps) = true then Oper.wp P o a w K Q else E := by
  have hw : Region.wanted o (yielded ops a.tmps) = true := by simp [Region.wanted, hgd]
  rw [if_pos hw]
  obtain ⟨i0, hi, hz0, hz1, hz2⟩ := info_parts hinfo
  refine wp_append_own w s x t ho base e i0 (.int .i64 0) 1 8 ht hi hz0 hz1 hz2 rfl (by decide) v l.length (flat intE l) hs hown ad 2 c [.int .i64 y1, .int .i64 y2] hx rfl hnews (by simp [Value.oneCell']) (by unfold maxLen; omega) (by omega) hbase ?_
  intro v' w' h1 h2 _
  have e1 : flat intE l ++ [.int .i64 y1, .int .i64 y2] = flat intE (l ++ [y1, y2]) := by rw [flat_append]; simp [flat, intE]
  rw [e1] at h1
  exact h v' w' (by simpa using h1) h2

set_option maxRecDepth 100000 in
set_option maxHeartbeats 4000000 in
theorem sheardE_any (v5 : Value) (es : List Th) (w : World) (hE : es.length ≤ 1048576) (hv : ThingsAt w v5 es w.heap.size) :
    Calls Tryz.prog 22 #[v5] w fun e w' => ∃ u, e = .returned u ∧ w'.ownsRow w.heap.size 3 1 u (heardE es).length (flat intE (heardE es)) ∧ Below w.heap.size w w' := by
  obtain ⟨a5, c5, rfl⟩ := hv.shape
  have HV := hide hv
  clear hv
  have R0 := hide (World.ownsRow_lit (base := w.heap.size) w (#[] : Array Value) 0 (Nat.le_refl _) (by decide) (e := 3) (size := 1) rfl)
  have B0 := hide ((Below.refl w.heap.size w).alloc (Nat.le_refl _) (.cells #[] 3))
  go_enter Tryz.func22, Tryz.ntmps22
  go_wp2
  go_loopw [4, 3] (fun i o wr => ∃ (k : Nat) (u : Value) (hs : List Int), k ≤ es.length ∧ i = .int .i64 (k : Int) ∧ o = u ∧ Hid (hs = heardE (es.take k)) ∧ hs.length ≤ 2 * k ∧ wr.ownsRow w.heap.size 3 1 u hs.length (flat intE hs) ∧ Below w.heap.size w wr) (fun i _ _ => es.length - (intOf i).toNat)
  case atStart => exact ⟨0, _, [], by omega, rfl, rfl, hide (by simp [heardE]), by simp, R0.out, B0.out⟩
  case round =>
    clear R0 B0
    obtain ⟨k, u, hs, hk, rfl, rfl, HQ, hql, hown, hnx⟩ := hrel
    obtain ⟨xa, xc, rfl⟩ := owns_lenS hown
    have hsz := hnx.size
    by_cases hlt : k < es.length
    · obtain ⟨e, hp⟩ : ∃ e, es[k]? = some e := ⟨es[k], List.getElem?_eq_getElem hlt⟩
      obtain ⟨bb, off, cp, hve, hbb, d0, d1, d2, d3⟩ := HV.out.cells k e hp
      cases hve
      obtain ⟨eo, ek, ec, ef⟩ := e
      rw [← hnx.cell (p := ⟨bb, off + k * 4, none⟩) hbb] at d0
      rw [← hnx.cell (p := ⟨bb, off + k * 4 + 1, none⟩) hbb] at d1
      rw [← hnx.cell (p := ⟨bb, off + k * 4 + 3, none⟩) hbb] at d3
      simp only [] at d0 d1 d3
      clear d2
      have hki : (0 : Int) ≤ (k : Int) := by omega
      have hkj : (k : Int) < (es.length : Int) := by omega
      have HP := hide hp
      cases ef with
      | false =>
        have HL := hide (show hs = heardE (es.take (k + 1)) by rw [heardE_no HP.out rfl, ← HQ.out])
        have N1 := hide hown
        have N2 := hide hnx
        clear hp hown hnx HQ
        go_wp2
        go_roundw
        case rel => exact ⟨k + 1, _, hs, by omega, by go_num, rfl, HL, by omega, N1.out, N2.out⟩
        case measure => simp [intOf]; omega
      | true =>
        have HN := hide (heardE_yes HP.out (show (⟨eo, ek, ec, true⟩ : Th).f = true from rfl))
        have HOW := hide hown
        have HNX := hide hnx
        have HNE : some bb ≠ (Value.slice xa hs.length xc).ownBlock := fun e => by have := (HOW.out.lt bb e.symm).1; omega
        have hbr : bb < wr.heap.size := by omega
        have hhl : hs.length + 2 ≤ 1000000000 := by omega
        clear hp hown hnx
        go_wp2
        go_region_held3 (fun W => W.cell? ⟨bb, off + k * 4, none⟩ = some (.int .i64 eo) ∧ W.cell? ⟨bb, off + k * 4 + 1, none⟩ = some (.int .i64 ek)) (first | go_keep | exact ⟨hgrow.cell ((((Below.refl wr.heap.size wr).alloc (Nat.le_refl _) _).drew.cell hbr).trans d0) HNE, hgrow.cell ((((Below.refl wr.heap.size wr).alloc (Nat.le_refl _) _).drew.cell hbr).trans d1) HNE⟩) (first | (refine step_append_two rfl _ _ 26 rfl w.heap.size 3 Tryz.underlying26 Tryz.info3 (.slice xa hs.length xc) hs eo ek rfl ?_ ⟨wr.heap.size, 0, none⟩ 2 rfl ?_ ?_ ?_ ?_; (exact (HOW.out.alloc _).drew); (exact news_struct (cs := [.int .i64 eo, .int .i64 ek])); (exact hhl); (simp; omega); intro v' w1 hown' hgrow))
        have hgs := hgrow.size
        simp at hgs
        have BF : Below w.heap.size w w1 := (HNX.out.alloc hsz _).drew.grown hgrow (by simp; omega) (fun k hk => (HOW.out.lt k hk).1)
        have HO := hide hown'
        have HL := hide (show hs ++ [eo, ek] = heardE (es.take (k + 1)) by rw [HN.out, ← HQ.out])
        clear hown' hgrow
        go_wp2
        go_roundw
        case rel => exact ⟨k + 1, v', hs ++ [eo, ek], by omega, by go_num, rfl, HL, by simp; omega, HO.out, BF⟩
        case measure => simp [intOf]; omega
    · have hkn : ¬ (k : Int) < (es.length : Int) := by omega
      have HE := hide (show hs = heardE es from by rw [HQ.out, List.take_of_length_le (by omega)])
      have HO := hide hown
      have HN := hide hnx
      clear hown hnx HQ
      go_wp2
      go_ret
      rw [← HE.out]
      exact ⟨_, rfl, HO.out, HN.out⟩

/-- the ears fit, as far as they were looked at -/
def MatchTo (es fs : List Th) : Prop := fs.length ≤ es.length ∧ ∀ (i : Nat) (e f : Th), es[i]? = some e → fs[i]? = some f → earOkB e f = true

theorem MatchTo.nil (es : List Th) : MatchTo es [] := ⟨Nat.zero_le _, fun i e f _ h => by simp at h⟩

theorem MatchTo.push {es fs : List Th} {e f : Th} (h : MatchTo es fs) (he : es[fs.length]? = some e) (ho : earOkB e f = true) : MatchTo es (fs ++ [f]) := by
  have hl := (List.getElem?_eq_some_iff.1 he).1
  refine ⟨by simp; omega, fun i e' f' he' hf' => ?_⟩
  by_cases hi : i < fs.length
  · rw [List.getElem?_append_left hi] at hf'
    exact h.2 i e' f' he' hf'
  · have hi2 : i < (fs ++ [f]).length := (List.getElem?_eq_some_iff.1 hf').1
    have : i = fs.length := by simp at hi2; omega
    subst this
    rw [he] at he'
    cases he'
    rw [List.getElem?_append_right (Nat.le_refl _)] at hf'
    simp at hf'
    rw [← hf']
    exact ho

theorem MatchTo.end {es fs : List Th} (h : MatchTo es fs) : matchB es fs = decide (fs.length = es.length) := by
  by_cases hl : fs.length = es.length
  · rw [decide_eq_true hl]
    exact (matchB_iff es fs).2 ⟨hl.symm, h.2⟩
  · rw [decide_eq_false hl]
    exact matchB_len (fun e => hl e.symm)

theorem match_bad {es fs l : List Th} {f : Th} (h : es.length ≤ fs.length ∨ ∃ e, es[fs.length]? = some e ∧ earOkB e f = false) : matchB es (fs ++ [f] ++ l) = false := by
  rcases h with h | ⟨e, he, ho⟩
  · exact matchB_len (by simp; omega)
  · refine matchB_no he (f := f) (by rw [List.append_assoc, List.getElem?_append_right (Nat.le_refl _)]; simp) ho

theorem fresh_cut {ls : List Lk} {id : Int} {N v a : Nat} {f : Th} (hv1 : 1 ≤ v) (hvN : v ≤ N) (ha : a < 3) (h : freshTo ls id (3 * (v - 1) + a + 1) = freshTo ls id (3 * (v - 1) + a) ++ [f]) : ∃ l, freshTo ls id (3 * N) = freshTo ls id (3 * (v - 1) + a) ++ [f] ++ l := by
  obtain ⟨l, hl⟩ := fresh_pre ls id (3 * (v - 1) + a + 1) (3 * N - (3 * (v - 1) + a + 1))
  refine ⟨l, ?_⟩
  rw [← h, ← hl]
  congr 1
  omega

set_option maxRecDepth 100000 in
set_option maxHeartbeats 8000000 in
theorem snodeOk_any (v1 v2 v3 v4 v5 : Value) (x : SelfD) (ps : List RP) (es : List Th) (w : World) (ht : totNd x ps es ≤ 1048576) (hv : NodeIn w v1 v2 v3 v4 v5 x ps es w.heap.size) :
    Calls Tryz.prog 6 #[nodeV x v1 v2 v3 v4 v5] w fun e w' => e = .returned (.bool (nodeB x ps es x.net.n.toNat)) ∧ Below w.heap.size w w' := by
  obtain ⟨⟨a1, c1, rfl⟩, ⟨a2, c2, rfl⟩, ⟨a3, c3, rfl⟩, ⟨a4, c4, rfl⟩, ⟨a5, c5, rfl⟩⟩ := hv.shapes
  have hS : totS x ps ≤ 1048576 := by unfold totNd at ht; omega
  have hE : es.length ≤ 1048576 := by unfold totNd at ht; omega
  have hH : x.heard.length ≤ 1048576 := by unfold totNd totS at ht; omega
  have hL : x.net.ls.length ≤ 1048576 := by unfold totNd totS at ht; omega
  have HSO := hide (fun W (hb : Below w.heap.size w W) => sselfOk_any _ _ _ _ x ps W hS (hv.then hb).self)
  obtain ⟨R, hR⟩ : ∃ R, R = nodeB x ps es x.net.n.toNat := ⟨_, rfl⟩
  rw [← hR]
  have HR := hide hR
  clear hR
  have B0 : ∀ o, Below w.heap.size w (w.alloc o) := fun o => (Below.refl _ _).alloc (Nat.le_refl _) _
  cases hs : selfB x ps with
  | false =>
    have HF := hide (show R = false by rw [HR.out]; unfold nodeB; rw [hs]; rfl)
    rw [hs] at HSO
    clear hs hv ht hS hE hH hL
    go_enter Tryz.func6, Tryz.ntmps6
    go_wp2_with fail
    refine (HSO.out _ (B0 _)).mono ?_
    rintro e w1 ⟨rfl, b1⟩
    have B1 : Below w.heap.size w w1 := (B0 _).trans (b1.mono (B0 _).size)
    go_wp2
    go_ret
    exact ⟨ret_bool HF.out, B1⟩
  | true =>
    have hn := selfB_n hs
    obtain ⟨N, hN⟩ : ∃ N : Nat, x.net.n = (N : Int) := ⟨x.net.n.toNat, by omega⟩
    have hN6 : N ≤ 6 := by omega
    have HLK := hide (show ∀ l ∈ x.net.ls, linkOkB x.net.n l = true from by
      unfold selfB netOkI at hs
      simp only [Bool.and_eq_true] at hs
      exact linksOf_ok hs.1.1.2)
    have HR2 := hide (show R = (matchB es (freshTo x.net.ls x.id (3 * N)) && decide (x.heard = heardE es)) by rw [HR.out]; unfold nodeB; rw [hs, hN]; rfl)
    have HCO := hide (fun (t r : Int) W (hb : Below w.heap.size w W) => scost_any (.int .i64 (N : Int)) (.slice a1 x.net.ls.length c1) (.slice a2 x.net.ts.length c2) x.net.ls x.id t r W hL (hv.then hb).self.links)
    have HNN := hide (fun t r => cost_nonneg HLK.out x.id t r)
    have HE := hide (fun W (hb : Below w.heap.size w W) => (hv.then hb).ears)
    have HHE := hide (fun W (hb : Below w.heap.size w W) => sheardE_any _ es W hE (hv.then hb).ears)
    have HSI := hide (fun (u : Value) W (hb : Below w.heap.size w W) (hu : IntsAt W u (heardE es) W.heap.size) => same10_any _ u x.heard _ W (HopsAt.ints (hv.then hb).self.heard) hu hH)
    rw [hs] at HSO
    clear hs hv ht hS hH hL HR HLK hn
    obtain ⟨xid, xboot, ⟨xn, xls, xts⟩, xh⟩ := x
    simp only [] at hN HR2 HCO HNN HSI HSO ⊢
    subst hN
    have g0 := heap_alloc_new w (.cells #[.int .i64 xid, .int .i64 xboot, .int .i64 (N : Int), .slice a1 xls.length c1, .slice a2 xts.length c2, .slice a3 xh.length c3, .slice a4 ps.length c4, .slice a5 es.length c5] 44)
    go_enter Tryz.func6, Tryz.ntmps6
    go_wp2_with fail
    have HB0 := B0 (.cells #[.int .i64 xid, .int .i64 xboot, .int .i64 (N : Int), .slice a1 xls.length c1, .slice a2 xts.length c2, .slice a3 xh.length c3, .slice a4 ps.length c4, .slice a5 es.length c5] 44)
    obtain ⟨w0, hw0⟩ : ∃ W, W = w.alloc (.cells #[.int .i64 xid, .int .i64 xboot, .int .i64 (N : Int), .slice a1 xls.length c1, .slice a2 xts.length c2, .slice a3 xh.length c3, .slice a4 ps.length c4, .slice a5 es.length c5] 44) := ⟨_, rfl⟩
    rw [← hw0] at HB0 g0 ⊢
    clear hw0 B0
    refine (HSO.out _ HB0).mono ?_
    rintro e w1 ⟨rfl, b1⟩
    have B1 : Below w.heap.size w w1 := HB0.trans (b1.mono HB0.size)
    have g1 := (b1.block _ (lt_of_heap g0)).trans g0
    have m2 := cells_at g1 2
    have m3 := cells_at g1 3
    have m4 := cells_at g1 4
    simp at m2 m3 m4
    have hz1 := lt_of_heap g1
    have BN : Below w1.heap.size w1 (w1.alloc (.cells #[.int .i64 (N : Int), .slice a1 xls.length c1, .slice a2 xts.length c2] 38)) := (Below.refl _ _).alloc (Nat.le_refl _) _
    have gn := heap_alloc_new w1 (.cells #[.int .i64 (N : Int), .slice a1 xls.length c1, .slice a2 xts.length c2] 38)
    have gb := (BN.block _ hz1).trans g1
    have B2 : Below w.heap.size w (w1.alloc (.cells #[.int .i64 (N : Int), .slice a1 xls.length c1, .slice a2 xts.length c2] 38)) := B1.trans (BN.mono B1.size)
    have GN := hide gn
    have GB := hide gb
    have HB2 := hide B2
    clear b1 g0 g1 gn gb HB0 HSO B1 BN B2
    go_wp2
    obtain ⟨z, hz⟩ : ∃ z, z = w1.heap.size := ⟨_, rfl⟩
    obtain ⟨w2, hw2⟩ : ∃ W, W = w1.alloc (.cells #[.int .i64 (N : Int), .slice a1 xls.length c1, .slice a2 xts.length c2] 38) := ⟨_, rfl⟩
    rw [← hw2] at HB2 GN GB
    rw [← hz] at GN
    first
      | rw [← hw2]
      | skip
    first
      | rw [← hz]
      | skip
    clear hw2 hz m2 m3 m4
    go_loopw [5, 3] (fun i o wr => ∃ (v : Nat) (k : Nat), 1 ≤ v ∧ v ≤ N + 1 ∧ i = .int .i64 (v : Int) ∧ o = .int .i64 (k : Int) ∧ Hid (k = (freshTo xls xid (3 * (v - 1))).length) ∧ k ≤ 30 ∧ Hid (MatchTo es (freshTo xls xid (3 * (v - 1)))) ∧ Below w2.heap.size w2 wr) (fun i _ _ => 8 - (intOf i).toNat)
    case atStart => exact ⟨1, 0, by omega, by omega, rfl, rfl, hide rfl, by omega, hide (MatchTo.nil _), Below.refl _ _⟩
    case round =>
      rename World => wa
      obtain ⟨v, k, hv1, hvN, rfl, rfl, HK, hk30, HM, hba⟩ := hrel
      have gna := (hba.block _ (lt_of_heap GN.out)).trans GN.out
      have gba := (hba.block _ (lt_of_heap GB.out)).trans GB.out
      have n0 := cells_at gna 0
      simp at n0
      by_cases hlt : v ≤ N
      · have hltI : (v : Int) ≤ (N : Int) := by omega
        have HBA := hide hba
        clear hba gna gba
        go_wp2
        go_loopw [6, 3] (fun i o wr => ∃ (a : Nat) (k : Nat), a ≤ 3 ∧ i = .int .i64 (a : Int) ∧ o = .int .i64 (k : Int) ∧ Hid (k = (freshTo xls xid (3 * (v - 1) + a)).length) ∧ k ≤ 30 ∧ Hid (MatchTo es (freshTo xls xid (3 * (v - 1) + a))) ∧ Below w2.heap.size w2 wr) (fun i _ _ => 4 - (intOf i).toNat)
        case atStart => exact ⟨0, k, by omega, rfl, rfl, HK, hk30, HM, HBA.out⟩
        case round =>
          rename World => wb
          clear HK hk30 HM HBA n0
          obtain ⟨a, k, ha3, rfl, rfl, HK, hk30, HM, hbb⟩ := hrel
          by_cases hal : a < 3
          · have halI : (a : Int) ≤ 2 := by omega
            have gnb := (hbb.block _ (lt_of_heap GN.out)).trans GN.out
            have gbb := (hbb.block _ (lt_of_heap GB.out)).trans GB.out
            have n0 := cells_at gnb 0
            have n1 := cells_at gnb 1
            have n2 := cells_at gnb 2
            have m0 := cells_at gbb 0
            simp at n0 n1 n2 m0
            have hbw : Below w.heap.size w wb := HB2.out.trans (hbb.mono HB2.out.size)
            have hkl : k ≤ 3 * (v - 1) + a := by rw [HK.out]; exact fresh_len _ _ _
            have HBB := hide hbb
            have HGB := hide gbb
            clear hbb gnb gbb
            go_wp2_with fail
            refine (HCO.out (v : Int) (a : Int) _ hbw).mono ?_
            rintro e w3 ⟨rfl, b3⟩
            have B3 := hide (HBB.out.trans (b3.mono HBB.out.size))
            have g3 := (b3.block _ (lt_of_heap HGB.out)).trans HGB.out
            have m7 := cells_at g3 7
            simp at m7
            obtain ⟨Cc, hC⟩ : ∃ Cc, Cc = costN xls xid (v : Int) (a : Int) := ⟨_, rfl⟩
            have hC0 := HNN.out (v : Int) (a : Int)
            rw [← hC] at hC0 ⊢
            have HCC := hide hC
            clear hC b3 g3 HGB HBB n0 n1 n2 m0 hbw
            by_cases hc : Cc = 0
            · have hd : (Cc == 0) = true := by simpa using hc
              have hno := fresh_noV (ls := xls) (id := xid) (v := v) (a := a) hv1 hal (by rw [← HCC.out]; omega)
              have HN1 := hide (show k = (freshTo xls xid (3 * (v - 1) + (a + 1))).length by rw [← Nat.add_assoc, hno]; exact HK.out)
              have HN2 := hide (show MatchTo es (freshTo xls xid (3 * (v - 1) + (a + 1))) by rw [← Nat.add_assoc, hno]; exact HM.out)
              clear hno hc m7
              go_wp2
              go_roundw
              case rel => exact ⟨a + 1, k, by omega, by go_num, rfl, HN1, hk30, HN2, B3.out⟩
              case measure => simp [intOf]; omega
            · have hd : (Cc == 0) = false := by simpa using hc
              have hhit := fresh_hitV (ls := xls) (id := xid) (v := v) (a := a) hv1 hal (by rw [← HCC.out]; omega)
              have HBAD := hide (show (es.length ≤ k ∨ ∃ e, es[k]? = some e ∧ earOkB e ⟨(v : Int), (a : Int), 0, false⟩ = false) → R = false from fun h => by
                obtain ⟨l, hl⟩ := fresh_cut hv1 hlt hal hhit
                rw [HR2.out, hl, match_bad (by rw [← HK.out]; exact h)]
                rfl)
              have HGO := hide (show ∀ e, es[k]? = some e → earOkB e ⟨(v : Int), (a : Int), 0, false⟩ = true → k + 1 = (freshTo xls xid (3 * (v - 1) + (a + 1))).length ∧ MatchTo es (freshTo xls xid (3 * (v - 1) + (a + 1))) from fun e he ho => by
                rw [← Nat.add_assoc, hhit]
                exact ⟨by rw [List.length_append, ← HK.out]; rfl, HM.out.push (by rw [← HK.out]; exact he) ho⟩)
              clear hhit hc
              by_cases hlen : k < es.length
              · obtain ⟨e, he⟩ : ∃ e, es[k]? = some e := ⟨es[k], List.getElem?_eq_getElem hlen⟩
                obtain ⟨bb, off, cp, hve, hbb, d0, d1, d2, d3⟩ := (HE.out w (Below.refl _ _)).cells k e he
                have hw3 : Below w.heap.size w w3 := HB2.out.trans (B3.out.mono HB2.out.size)
                rw [← hw3.cell (p := ⟨bb, off + k * 4, none⟩) hbb] at d0
                rw [← hw3.cell (p := ⟨bb, off + k * 4 + 1, none⟩) hbb] at d1
                rw [← hw3.cell (p := ⟨bb, off + k * 4 + 2, none⟩) hbb] at d2
                rw [← hw3.cell (p := ⟨bb, off + k * 4 + 3, none⟩) hbb] at d3
                cases hve
                have HEE := hide he
                clear he
                obtain ⟨eo, ek, ec, ef⟩ := e
                simp only [] at d0 d1 d2 d3
                have hki : (0 : Int) ≤ (k : Int) := by omega
                have hkj : (k : Int) < (es.length : Int) := by omega
                have hkd : decide ((es.length : Int) ≤ (k : Int)) = false := decide_eq_false (by omega)
                have HFB := hide (show earOkB ⟨eo, ek, ec, ef⟩ ⟨(v : Int), (a : Int), 0, false⟩ = false → R = false from fun h => HBAD.out (.inr ⟨_, HEE.out, h⟩))
                have HFG := hide (HGO.out _ HEE.out)
                clear HBAD HGO HEE hw3
                by_cases h1 : eo = (v : Int)
                · have h1d : (eo != (v : Int)) = false := by simpa using h1
                  by_cases h2 : ek = (a : Int)
                  · have h2d : (ek != (a : Int)) = false := by simpa using h2
                    obtain ⟨q, hq⟩ : ∃ q, q = inB ec 0 3 := ⟨_, rfl⟩
                    have HI := hide (fun W => in_any ec 0 3 W)
                    rw [← hq] at HI
                    have HQ := hide hq
                    clear hq
                    cases q with
                    | false =>
                      have HF := hide (show R = false from HFB.out (by unfold earOkB; rw [← HQ.out]; simp))
                      clear HFB HFG h1 h2
                      go_wp2_with fail
                      refine (HI.out _).mono ?_
                      rintro r w' ⟨rfl, rfl⟩
                      go_wp2
                      go_ret
                      exact ⟨ret_bool HF.out, HB2.out.trans (B3.out.mono HB2.out.size)⟩
                    | true =>
                      have hec : 0 ≤ ec := by have := HQ.out; unfold inB at this; simp at this; omega
                      cases ef with
                      | false =>
                        have HT := hide (HFG.out (by unfold earOkB; rw [← HQ.out]; simp [h1, h2]))
                        clear HFB HFG h1 h2
                        go_wp2_with fail
                        refine (HI.out _).mono ?_
                        rintro r w' ⟨rfl, rfl⟩
                        go_wp2
                        go_roundw
                        case rel => exact ⟨a + 1, k + 1, by omega, by go_num, by go_num, HT.out.1, by omega, hide HT.out.2, B3.out⟩
                        case measure => simp [intOf]; omega
                      | true =>
                        by_cases h4 : ec = 0
                        · have h4d : (ec == 0) = true := by simpa using h4
                          have HF := hide (show R = false from HFB.out (by unfold earOkB; simp [h4]))
                          clear HFB HFG h1 h2 h4
                          go_wp2_with fail
                          refine (HI.out _).mono ?_
                          rintro r w' ⟨rfl, rfl⟩
                          go_wp2
                          go_ret
                          exact ⟨ret_bool HF.out, HB2.out.trans (B3.out.mono HB2.out.size)⟩
                        · have h4d : (ec == 0) = false := by simpa using h4
                          have HT := hide (HFG.out (by unfold earOkB; rw [← HQ.out]; simp [h1, h2]; omega))
                          clear HFB HFG h1 h2 h4
                          go_wp2_with fail
                          refine (HI.out _).mono ?_
                          rintro r w' ⟨rfl, rfl⟩
                          go_wp2
                          go_roundw
                          case rel => exact ⟨a + 1, k + 1, by omega, by go_num, by go_num, HT.out.1, by omega, hide HT.out.2, B3.out⟩
                          case measure => simp [intOf]; omega
                  · have h2d : (ek != (a : Int)) = true := by simpa using h2
                    have HF := hide (show R = false from HFB.out (by unfold earOkB; simp [h2]))
                    clear HFB HFG h1 h2
                    go_wp2
                    go_ret
                    exact ⟨ret_bool HF.out, HB2.out.trans (B3.out.mono HB2.out.size)⟩
                · have h1d : (eo != (v : Int)) = true := by simpa using h1
                  have HF := hide (show R = false from HFB.out (by unfold earOkB; simp [h1]))
                  clear HFB HFG h1
                  go_wp2
                  go_ret
                  exact ⟨ret_bool HF.out, HB2.out.trans (B3.out.mono HB2.out.size)⟩
              · have hkd : decide ((es.length : Int) ≤ (k : Int)) = true := decide_eq_true (by omega)
                have hkj : (es.length : Int) ≤ (k : Int) := by omega
                have HF := hide (show R = false from HBAD.out (.inl (by omega)))
                clear HBAD HGO
                go_wp2
                go_ret
                exact ⟨ret_bool HF.out, HB2.out.trans (B3.out.mono HB2.out.size)⟩
          · have halI : ¬ (a : Int) ≤ 2 := by omega
            have HN1 := hide (show k = (freshTo xls xid (3 * (v + 1 - 1))).length by rw [HK.out]; congr 2; omega)
            have HN2 := hide (show MatchTo es (freshTo xls xid (3 * (v + 1 - 1))) by
              have e : 3 * (v + 1 - 1) = 3 * (v - 1) + a := by omega
              rw [e]; exact HM.out)
            go_wp2
            go_roundw
            case rel => exact ⟨v + 1, k, by omega, by omega, by go_num, rfl, HN1, hk30, HN2, hbb⟩
            case measure => simp [intOf]; omega
      · have hltI : ¬ (v : Int) ≤ (N : Int) := by omega
        have eN : 3 * (v - 1) = 3 * N := by omega
        rw [eN] at HK HM
        have HRM := hide (show R = (decide (k = es.length) && decide (xh = heardE es)) by rw [HR2.out, HM.out.end, ← HK.out])
        have m5 := cells_at gba 5
        have m7 := cells_at gba 7
        simp at m5 m7
        have HW := hide (HB2.out.trans (hba.mono HB2.out.size))
        have hz7 := lt_of_heap gba
        clear gna gba hba eN HM HK HR2
        by_cases hke : k = es.length
        · have hkd : ((k : Int) == (es.length : Int)) = true := by simp; omega
          have HKE := hide hke
          have hkc : (k : Int) = (es.length : Int) := by omega
          obtain ⟨Hd, hHd⟩ : ∃ Hd, Hd = decide (xh = heardE es) := ⟨_, rfl⟩
          rw [← hHd] at HSI HRM
          have HHD := hide (HHE.out wa.drew HW.out.drew)
          have BD := hide HW.out.drew
          clear hke hHd HHE
          go_wp2
          go_region_held3 (fun W => W.cell? ⟨w.heap.size, 5, none⟩ = some (.slice a3 xh.length c3) ∧ W.cell? ⟨w.heap.size, 7, none⟩ = some (.slice a5 es.length c5)) (first | go_keep | (refine ⟨?_, ?_⟩ <;> (rw [b5.cell (Nat.lt_of_lt_of_le (by assumption) b4.size), b4.cell (by assumption)]; assumption)) | (refine ⟨?_, ?_⟩ <;> (rw [b4.cell (by assumption)]; assumption))) (first | (go_at_call 22; refine HHD.out.mono ?_; rintro e w4 ⟨uh, rfl, oh, b4⟩) | (go_at_call 21; refine (HSI.out uh _ (BD.out.trans (b4.mono BD.out.size)) (HopsAt.ints (owns_rowAt oh))).mono ?_; rintro e w5 ⟨rfl, b5⟩))
          have B4 : Below w.heap.size w w4 := BD.out.trans (b4.mono BD.out.size)
          have B5 : Below w.heap.size w w5 := B4.trans (b5.mono B4.size)
          have HF := hide (show R = Hd by rw [HRM.out, decide_eq_true HKE.out]; rfl)
          go_wp2
          go_ret
          exact ⟨ret_bool HF.out, B5⟩
        · have hkd : ((k : Int) == (es.length : Int)) = false := by simp; omega
          have hkn : ¬ (k : Int) = (es.length : Int) := by omega
          have HF := hide (show R = false by rw [HRM.out, decide_eq_false hke]; rfl)
          clear hke
          go_wp2
          go_quiet (fail)
          go_wp2
          go_ret
          exact ⟨ret_bool HF.out, below_drewN HW.out _⟩
end Go.Proofs.YtimbeeinognjbaaGreatDoor
namespace Go.Proofs.YtimbeeinognjbaaGreatDoor
open Go.RowKit

def totD (xs : List RecD) : Nat := (xs.map (fun x => 1 + x.near.length)).sum

theorem tot_D (ps : List RP) : tot ps = totD (fsts ps) := by simp [tot, totD, fsts, List.map_map, Function.comp_def]

theorem totD_cons (x : RecD) (xs : List RecD) : totD (x :: xs) = 1 + x.near.length + totD xs := by simp [totD]

theorem totD_append (a b : List RecD) : totD (a ++ b) = totD a + totD b := by simp [totD]

theorem totD_filter (f : RecD → Bool) (xs : List RecD) : totD (xs.filter f) ≤ totD xs := by
  induction xs with
  | nil => simp [totD]
  | cons x xs ih =>
    rw [List.filter_cons]
    split
    · rw [totD_cons, totD_cons]; omega
    · rw [totD_cons]; omega

theorem eqRecS_own (v1 v2 : Value) (ps qs : List RP) (l1 h1 l2 h2 : Nat) (w : World) (k1 : RecsOwn w l1 h1 v1 ps) (k2 : RecsOwn w l2 h2 v2 qs) (he : fsts ps = fsts qs) (hn : tot ps ≤ 1048576) (g1 : h1 ≤ w.heap.size) (g2 : h2 ≤ w.heap.size) :
    Calls Tryz.prog 59 #[v1, v2] w fun e w' => e = .returned (.bool true) ∧ Below w.heap.size w w' := by
  have h := eqRecordS_any v1 v2 ps qs w (k1.at.more g1) (k2.at.more g2) (Nat.le_trans (tot_len ps) hn) (fun _ hp => Nat.le_trans (tot_mem hp) hn)
  rw [decide_eq_true he] at h
  exact h

theorem toRecS_own (v : Value) (ps : List RP) (w W : World) (h0 : RecsAt w v ps w.heap.size) (hb : Below w.heap.size w W) (hn : tot ps ≤ 1048576) :
    Calls Tryz.prog 48 #[v] W fun e w' => ∃ x qs, e = .returned x ∧ fsts qs = fsts ps ∧ RecsOwn w' W.heap.size w'.heap.size x qs ∧ Below W.heap.size W w' :=
  toRecordS_any v ps W (Nat.le_trans (tot_len ps) hn) (fun _ hp => Nat.le_trans (tot_mem hp) hn) ((h0.later hb (Nat.le_refl _)).more hb.size)

theorem tot_eq {ps qs : List RP} (h : fsts ps = fsts qs) : tot ps = tot qs := by rw [tot_D, tot_D, h]

theorem mkE_pos (ps : List RP) : ¬ mkE 1 ps < 0 := by have := mkE_tot 1 ps; omega

end Go.Proofs.YtimbeeinognjbaaGreatDoor
namespace Go.Proofs.YtimbeeinognjbaaGreatDoor
open Go.RowKit

set_option linter.unusedSimpArgs false

set_option maxRecDepth 100000 in
set_option maxHeartbeats 8000000 in
theorem fnExactNodeOk_walk (v : Value) (x : SelfD) (ps : List RP) (es : List Th) (w : World) (hx : NodeAt w v x ps es w.heap.size ∧ NodeLen x ps es) (hg : ErrLaid w) :
    Calls Tryz.prog 3 #[v] w fun e w' => e = .returned (.bool true) ∧ Below w.heap.size w w' := by
  obtain ⟨hx, hlen⟩ := hx
  obtain ⟨v1, v2, v3, v4, v5, rfl, hi1, hi2⟩ := hx
  have hi : NodeIn w v1 v2 v3 v4 v5 x ps es w.heap.size := ⟨hi1, hi2⟩
  clear hi1 hi2
  obtain ⟨⟨a1, a1c, rfl⟩, ⟨a2, a2c, rfl⟩, ⟨a3, a3c, rfl⟩, ⟨a4, a4c, rfl⟩, ⟨a5, a5c, rfl⟩⟩ := hi.shapes
  have HX := hide hi
  have HG := hide hg
  have BA : Below w.heap.size w (w.alloc (.cells #[.int .i64 x.id, .int .i64 x.boot, .int .i64 x.net.n, .slice a1 x.net.ls.length a1c, .slice a2 x.net.ts.length a2c, .slice a3 x.heard.length a3c, .slice a4 ps.length a4c, .slice a5 es.length a5c] 32)) := (Below.refl _ _).alloc (Nat.le_refl _) _
  have g0 := heap_alloc_new w (.cells #[.int .i64 x.id, .int .i64 x.boot, .int .i64 x.net.n, .slice a1 x.net.ls.length a1c, .slice a2 x.net.ts.length a2c, .slice a3 x.heard.length a3c, .slice a4 ps.length a4c, .slice a5 es.length a5c] 32)
  have HSZ := hide (szNode_any _ _ _ _ _ x ps es (w.alloc (.cells #[.int .i64 x.id, .int .i64 x.boot, .int .i64 x.net.n, .slice a1 x.net.ls.length a1c, .slice a2 x.net.ts.length a2c, .slice a3 x.heard.length a3c, .slice a4 ps.length a4c, .slice a5 es.length a5c] 32)) hlen (HX.out.then BA))
  have G0 := hide g0
  clear g0 hi hg hlen
  go_enter Tryz.func3, Tryz.ntmps3
  go_wp2_with fail
  obtain ⟨w0, hw0⟩ : ∃ W, W = w.alloc (.cells #[.int .i64 x.id, .int .i64 x.boot, .int .i64 x.net.n, .slice a1 x.net.ls.length a1c, .slice a2 x.net.ts.length a2c, .slice a3 x.heard.length a3c, .slice a4 ps.length a4c, .slice a5 es.length a5c] 32) := ⟨_, rfl⟩
  rw [← hw0] at BA G0 HSZ ⊢
  clear hw0
  refine HSZ.out.mono ?_
  rintro e w1 ⟨r, rfl, hr, b1⟩
  have g1 := (b1.block _ (lt_of_heap G0.out)).trans G0.out
  have B1 : Below w.heap.size w w1 := BA.trans (b1.mono BA.size)
  clear b1 BA G0 HSZ
  rcases hr with hr | ⟨hr0, hr⟩
  · go_wp2
    go_ret
    exact ⟨rfl, B1⟩
  have hr1 : ¬ r < 0 := by omega
  have HT := hide (show totNd x ps es ≤ 1048576 by omega)
  clear hr hr0
  have G1 := hide g1
  have s0 := cells_at g1 0
  have s1 := cells_at g1 1
  have s2 := cells_at g1 2
  have s3 := cells_at g1 3
  have s4 := cells_at g1 4
  have s5 := cells_at g1 5
  have s6 := cells_at g1 6
  have s7 := cells_at g1 7
  simp at s0 s1 s2 s3 s4 s5 s6 s7
  clear g1
  have HTS := hide (fun W (hb : Below w.heap.size w W) => toNode_any _ _ _ _ _ x ps es W HT.out (HX.out.then hb))
  go_wp2_with fail
  refine (HTS.out _ B1).mono ?_
  rintro e w2 ⟨u1, u2, u3, u4, u5, qs0, m1, m2, m3, rfl, fq0, o2, b2⟩
  have B2 : Below w.heap.size w w2 := B1.trans (b2.mono B1.size)
  have G2 := hide ((b2.block _ (lt_of_heap G1.out)).trans G1.out)
  have HSP := hide (snodeOk_any _ _ _ _ _ x qs0 es w2 (by have h := HT.out; unfold totNd totS at h ⊢; rw [tot_eq fq0]; exact h) o2.in)
  have HSB := hide (show nodeB x qs0 es x.net.n.toNat = nodeB x ps es x.net.n.toNat by unfold nodeB selfB; rw [fq0])
  rw [HSB.out] at HSP
  clear b2 o2 fq0 HSB s0 s1 s2 s3 s4 s5 s6 s7 G1 B1
  go_wp2_with fail
  refine HSP.out.mono ?_
  rintro e w3 ⟨rfl, b3⟩
  have B3 : Below w.heap.size w w3 := B2.trans (b3.mono B2.size)
  have g3 := (b3.block _ (lt_of_heap G2.out)).trans G2.out
  have G3 := hide g3
  have s0 := cells_at g3 0
  have s1 := cells_at g3 1
  have s2 := cells_at g3 2
  have s3 := cells_at g3 3
  have s4 := cells_at g3 4
  have s5 := cells_at g3 5
  have s6 := cells_at g3 6
  have s7 := cells_at g3 7
  simp at s0 s1 s2 s3 s4 s5 s6 s7
  clear g3 b3 HSP G2 B2
  go_wp2_with fail
  refine (HTS.out _ B3).mono ?_
  rintro e w4 ⟨y1, y2, y3, y4, y5, qs, m1, m2, m3, rfl, fq, o4, b4⟩
  obtain ⟨⟨y1, y1c, rfl⟩, ⟨y2, y2c, rfl⟩, ⟨y3, y3c, rfl⟩, ⟨y4, y4c, rfl⟩, ⟨y5, y5c, rfl⟩⟩ := o4.in.shapes
  have B4 : Below w.heap.size w w4 := B3.trans (b4.mono B3.size)
  have g4 := (b4.block _ (lt_of_heap G3.out)).trans G3.out
  have BN : Below w4.heap.size w4 (w4.alloc (.cells #[.int .i64 x.id, .int .i64 x.boot, .int .i64 x.net.n, .slice y1 x.net.ls.length y1c, .slice y2 x.net.ts.length y2c, .slice y3 x.heard.length y3c, .slice y4 qs.length y4c, .slice y5 es.length y5c] 44)) := (Below.refl _ _).alloc (Nat.le_refl _) _
  have hnew := heap_alloc_new w4 (.cells #[.int .i64 x.id, .int .i64 x.boot, .int .i64 x.net.n, .slice y1 x.net.ls.length y1c, .slice y2 x.net.ts.length y2c, .slice y3 x.heard.length y3c, .slice y4 qs.length y4c, .slice y5 es.length y5c] 44)
  have hold := (BN.block _ (lt_of_heap g4)).trans g4
  have B5 : Below w.heap.size w (w4.alloc (.cells #[.int .i64 x.id, .int .i64 x.boot, .int .i64 x.net.n, .slice y1 x.net.ls.length y1c, .slice y2 x.net.ts.length y2c, .slice y3 x.heard.length y3c, .slice y4 qs.length y4c, .slice y5 es.length y5c] 44)) := B4.trans (BN.mono B4.size)
  have HIM := hide (inodeOk_any _ _ _ _ _ x qs es (w4.alloc (.cells #[.int .i64 x.id, .int .i64 x.boot, .int .i64 x.net.n, .slice y1 x.net.ls.length y1c, .slice y2 x.net.ts.length y2c, .slice y3 x.heard.length y3c, .slice y4 qs.length y4c, .slice y5 es.length y5c] 44)) (HG.out.below B5 HG.out.pos) (by have h := HT.out; unfold totNd totS at h ⊢; rw [tot_eq fq]; exact h) (o4.in.then BN))
  have HSB := hide (show nodeB x qs es x.net.n.toNat = nodeB x ps es x.net.n.toNat by unfold nodeB selfB; rw [fq])
  rw [HSB.out] at HIM
  have YIN := hide (o4.in.then BN)
  have FQ := hide fq
  have NEW := hide hnew
  have OLD := hide hold
  clear b4 o4 fq HSB s0 s1 s2 s3 s4 s5 s6 s7 G3 B3 hnew hold g4
  go_wp2_with fail
  obtain ⟨z, hz⟩ : ∃ z, z = w4.heap.size := ⟨_, rfl⟩
  obtain ⟨w5, hw5⟩ : ∃ W, W = w4.alloc (.cells #[.int .i64 x.id, .int .i64 x.boot, .int .i64 x.net.n, .slice y1 x.net.ls.length y1c, .slice y2 x.net.ts.length y2c, .slice y3 x.heard.length y3c, .slice y4 qs.length y4c, .slice y5 es.length y5c] 44) := ⟨_, rfl⟩
  rw [← hw5] at HIM YIN NEW OLD B5 BN ⊢
  rw [← hz] at NEW ⊢
  clear hw5 hz
  refine HIM.out.mono ?_
  rintro e w6 ⟨rfl, b6⟩
  have B6 : Below w.heap.size w w6 := B5.trans (b6.mono B5.size)
  have g6 := (b6.block _ (lt_of_heap OLD.out)).trans OLD.out
  have m6 := (b6.block _ (lt_of_heap NEW.out)).trans NEW.out
  have YD := hide ((YIN.out.then b6).then (Below.refl w6.heap.size w6).drew)
  have s0 := cells_at g6 0
  have s1 := cells_at g6 1
  have s2 := cells_at g6 2
  have s3 := cells_at g6 3
  have s4 := cells_at g6 4
  have s5 := cells_at g6 5
  have s6 := cells_at g6 6
  have s7 := cells_at g6 7
  simp at s0 s1 s2 s3 s4 s5 s6 s7
  have t0 := cells_at m6 0
  have t1 := cells_at m6 1
  have t2 := cells_at m6 2
  have t3 := cells_at m6 3
  have t4 := cells_at m6 4
  have t5 := cells_at m6 5
  have t6 := cells_at m6 6
  have t7 := cells_at m6 7
  simp at t0 t1 t2 t3 t4 t5 t6 t7
  have hzz := lt_of_heap m6
  have hww := lt_of_heap g6
  obtain ⟨R, hR⟩ : ∃ R, R = nodeB x ps es x.net.n.toNat := ⟨_, rfl⟩
  rw [← hR]
  have HTD := hide (HTS.out w6.drew B6.drew)
  have HEQ := hide (fun (u1 u2 u3 u4 u5 : Value) (qs' : List RP) W (hb : Below w6.drew.heap.size w6.drew W) (hf : fsts qs' = fsts ps) (hi : NodeIn W u1 u2 u3 u4 u5 x qs' es W.heap.size) => eqNode_any _ _ _ _ _ u1 u2 u3 u4 u5 x qs qs' es W (by have h := HT.out; unfold totNd totS at h ⊢; rw [tot_eq FQ.out]; exact h) (YD.out.then hb) hi (FQ.out.trans hf.symm))
  clear hR HTS HIM YIN YD NEW OLD b6 B5 BN g6 m6
  go_wp2
  go_region_held3 (fun W => W.cell? ⟨w.heap.size, 0, none⟩ = some (.int .i64 x.id) ∧ W.cell? ⟨w.heap.size, 1, none⟩ = some (.int .i64 x.boot) ∧ W.cell? ⟨w.heap.size, 2, none⟩ = some (.int .i64 x.net.n) ∧ W.cell? ⟨w.heap.size, 3, none⟩ = some (.slice a1 x.net.ls.length a1c) ∧ W.cell? ⟨w.heap.size, 4, none⟩ = some (.slice a2 x.net.ts.length a2c) ∧ W.cell? ⟨w.heap.size, 5, none⟩ = some (.slice a3 x.heard.length a3c) ∧ W.cell? ⟨w.heap.size, 6, none⟩ = some (.slice a4 ps.length a4c) ∧ W.cell? ⟨w.heap.size, 7, none⟩ = some (.slice a5 es.length a5c) ∧ W.cell? ⟨z, 0, none⟩ = some (.int .i64 x.id) ∧ W.cell? ⟨z, 1, none⟩ = some (.int .i64 x.boot) ∧ W.cell? ⟨z, 2, none⟩ = some (.int .i64 x.net.n) ∧ W.cell? ⟨z, 3, none⟩ = some (.slice y1 x.net.ls.length y1c) ∧ W.cell? ⟨z, 4, none⟩ = some (.slice y2 x.net.ts.length y2c) ∧ W.cell? ⟨z, 5, none⟩ = some (.slice y3 x.heard.length y3c) ∧ W.cell? ⟨z, 6, none⟩ = some (.slice y4 qs.length y4c) ∧ W.cell? ⟨z, 7, none⟩ = some (.slice y5 es.length y5c)) (first | go_keep | (refine ⟨?_, ?_, ?_, ?_, ?_, ?_, ?_, ?_, ?_, ?_, ?_, ?_, ?_, ?_, ?_, ?_⟩ <;> (rw [b8.cell (Nat.lt_of_lt_of_le (by assumption) b7.size), b7.cell (by assumption)]; assumption)) | (refine ⟨?_, ?_, ?_, ?_, ?_, ?_, ?_, ?_, ?_, ?_, ?_, ?_, ?_, ?_, ?_, ?_⟩ <;> (rw [b7.cell (by assumption)]; assumption))) (first | (go_at_call 7; refine HTD.out.mono ?_; rintro e w7 ⟨q1, q2, q3, q4, q5, qs', m1, m2, m3, rfl, fq', o7, b7⟩) | (go_at_call 9; refine (HEQ.out _ _ _ _ _ qs' _ b7 fq' o7.in).mono ?_; rintro e w8 ⟨rfl, b8⟩))
  have B7 : Below w.heap.size w w7 := B6.drew.trans (b7.mono B6.size)
  have B8 : Below w.heap.size w w8 := B7.trans (b8.mono B7.size)
  go_wp2
  go_ret
  exact ⟨rfl, B8⟩
end Go.Proofs.YtimbeeinognjbaaGreatDoor
namespace Go.Proofs.YtimbeeinognjbaaGreatDoor
open Go.RowKit Go.ChangeShapes Go.WideShapes

section
variable {H : Type} {enc : TypeId × Value → H} {P : Program} {w : World} {base : Nat} {spare : Nat → Bool} {held : Bool}

theorem add_none4 {a : Addr} (h : a.spot = none) (j : Nat) : a.add j = ⟨a.block, a.off + j, none⟩ := by
  obtain ⟨b, o, s⟩ := a
  simp at h
  subst h
  simp only [Addr.add]
  split <;> simp_all

/-- four fields of one cell -/
theorem open_four {e : TypeId} {f0 f1 f2 f3 : Field} {fuel : Nat} {cs : List Value} {x : DataW H × List MemPlace} (he : P.underlying e = some (.struct #[f0, f1, f2, f3])) (ce : P.cellsOf e = 4)
    (o0 : f0.offset = 0) (o1 : f1.offset = 1) (o2 : f2.offset = 2) (o3 : f3.offset = 3) (c0 : P.cellsOf f0.type = 1) (c1 : P.cellsOf f1.type = 1) (c2 : P.cellsOf f2.type = 1) (c3 : P.cellsOf f3.type = 1)
    (h : DataW.trod enc P w base spare held fuel e cs = some x) :
    ∃ v0 v1 v2 v3 n y0 y1 y2 y3, cs = [v0, v1, v2, v3] ∧ DataW.trod enc P w base spare held n f0.type [v0] = some y0 ∧ DataW.trod enc P w base spare held n f1.type [v1] = some y1 ∧
      DataW.trod enc P w base spare held n f2.type [v2] = some y2 ∧ DataW.trod enc P w base spare held n f3.type [v3] = some y3 := by
  obtain ⟨xs, k, hk, hxy, hcl, hxl, hf⟩ := DataW.trod_struct he h
  rw [ce] at hcl
  match xs, hxl, cs, hcl with
  | [y0, y1, y2, y3], _, [v0, v1, v2, v3], _ =>
    have g0 := hf 0 f0 rfl
    have g1 := hf 1 f1 rfl
    have g2 := hf 2 f2 rfl
    have g3 := hf 3 f3 rfl
    simp [o0, o1, o2, o3, c0, c1, c2, c3] at g0 g1 g2 g3
    exact ⟨v0, v1, v2, v3, k, y0, y1, y2, y3, rfl, g0, g1, g2, g3⟩

/-- a slice of such: each element by a reading of its four cells -/
theorem open_structs {α : Type} [Inhabited α] {encE : α → List Value} (hsz : ∀ a, (encE a).length = 4) {t e : TypeId} {fuel : Nat} {cs : List Value} {x : DataW H × List MemPlace} (ht : P.underlying t = some (.slice e)) (ce : P.cellsOf e = 4)
    (hel : ∀ fuel cs x, DataW.trod enc P w base spare held fuel e cs = some x → ∃ a : α, cs = encE a) (h : DataW.trod enc P w base spare held fuel t cs = some x) :
    ∃ v xs, cs = [v] ∧ StructsAt encE 4 w v xs w.heap.size ∧ xs.length ≤ maxLen := by
  rcases Go.Deep.open_slice ht h with ⟨h0, _⟩ | ⟨a, len, cap, m, n, D, Pl, rfl, hb, hlc, hcm, hmm, _, hx⟩
  · exact ⟨_, [], h0, ⟨none, 0, rfl, .inl rfl⟩, by simp⟩
  · have hlm : len ≤ m := by rw [hmm]; split <;> omega
    have each : ∀ i, i < len → ∃ q : α, ∀ r u, (encE q)[r]? = some u → w.cell? (a.add (i * 4 + r)) = some u := by
      intro i hi
      obtain ⟨cs', h1, h2⟩ := hx i (by omega)
      rw [ce] at h1
      obtain ⟨_, hlen, hcell⟩ := World.cells?_some h1
      obtain ⟨q, rfl⟩ := hel _ _ _ h2
      refine ⟨q, fun r u hu => ?_⟩
      have hr : r < 4 := by have := (List.getElem?_eq_some_iff.1 hu).1; rw [hsz] at this; exact this
      rw [← Go.Deep.add_add, hcell r hr, hu]
    obtain ⟨q, hq⟩ := Go.Deep.choose_lt each
    refine ⟨_, (List.range len).map q, rfl, ?_, by simp; omega⟩
    have hl : ((List.range len).map q).length = len := by simp
    unfold StructsAt RowAt
    rw [hl]
    refine ⟨_, cap, rfl, ?_⟩
    by_cases hl0 : len = 0
    · exact .inl hl0
    · right
      have hsp : a.spot = none := by
        have hu : (encE (q 0))[0]? = some ((encE (q 0))[0]'(by rw [hsz]; omega)) := List.getElem?_eq_getElem _
        have := World.cell?_spot (hq 0 (by omega) 0 _ hu)
        simpa [Addr.add] using this
      have hblk : a.block < w.heap.size := by
        have hu : (encE (q 0))[0]? = some ((encE (q 0))[0]'(by rw [hsz]; omega)) := List.getElem?_eq_getElem _
        have := World.block_lt_of_cell? w _ (hq 0 (by omega) 0 _ hu)
        simpa [Addr.add] using this
      refine ⟨a.block, a.off, by obtain ⟨b, o, s⟩ := a; simp at hsp; rw [hsp], hblk, fun j hj => ?_⟩
      have e : j = j / 4 * 4 + j % 4 := by omega
      have hd : j / 4 < len := by omega
      have hm4 : j % 4 < 4 := by omega
      have hg := flat_get hsz ((List.range len).map q) (j / 4) (j % 4) (q (j / 4)) (by simp [hd]) hm4
      have hu : (encE (q (j / 4)))[j % 4]? = some ((encE (q (j / 4)))[j % 4]'(by rw [hsz]; exact hm4)) := List.getElem?_eq_getElem _
      have := hq (j / 4) hd (j % 4) _ hu
      rw [← e, add_none4 hsp] at this
      rw [this]
      rw [← e] at hg
      simp only [List.getD_eq_getElem?_getD, hg, hu]
      rfl
end
end Go.Proofs.YtimbeeinognjbaaGreatDoor
namespace Go.Proofs.YtimbeeinognjbaaGreatDoor
open Go.RowKit Go.ChangeShapes Go.WideShapes

section
variable {H : Type} {enc : TypeId × Value → H} {w : World} {base : Nat} {spare : Nat → Bool} {held : Bool}

instance : Inhabited Lk := ⟨⟨0, 0, 0, 0⟩⟩
instance : Inhabited Th := ⟨⟨0, 0, 0, false⟩⟩

theorem open_link {fuel : Nat} {cs : List Value} {x : DataW H × List MemPlace} (h : DataW.trod enc Tryz.prog w base spare held fuel 171 cs = some x) : ∃ l : Lk, cs = lkE l := by
  obtain ⟨v0, v1, v2, v3, n, y0, y1, y2, y3, rfl, h0, h1, h2, h3⟩ := open_four Tryz.underlying171 (by kernel_rfl) rfl rfl rfl rfl (by kernel_rfl) (by kernel_rfl) (by kernel_rfl) (by kernel_rfl) h
  obtain ⟨a, ha, _⟩ := DataW.trod_int Tryz.underlying3 h0
  obtain ⟨b, hb, _⟩ := DataW.trod_int Tryz.underlying3 h1
  obtain ⟨c, hc, _⟩ := DataW.trod_int Tryz.underlying3 h2
  obtain ⟨r, hr, _⟩ := DataW.trod_int Tryz.underlying3 h3
  exact ⟨⟨a, b, c, r⟩, by cases ha; cases hb; cases hc; cases hr; rfl⟩

theorem open_thing {fuel : Nat} {cs : List Value} {x : DataW H × List MemPlace} (h : DataW.trod enc Tryz.prog w base spare held fuel 173 cs = some x) : ∃ l : Th, cs = thE l := by
  obtain ⟨v0, v1, v2, v3, n, y0, y1, y2, y3, rfl, h0, h1, h2, h3⟩ := open_four Tryz.underlying173 (by kernel_rfl) rfl rfl rfl rfl (by kernel_rfl) (by kernel_rfl) (by kernel_rfl) (by kernel_rfl) h
  obtain ⟨a, ha, _⟩ := DataW.trod_int Tryz.underlying3 h0
  obtain ⟨b, hb, _⟩ := DataW.trod_int Tryz.underlying3 h1
  obtain ⟨c, hc, _⟩ := DataW.trod_int Tryz.underlying3 h2
  obtain ⟨r, hr, _⟩ := DataW.trod_bool Tryz.underlying4 h3
  exact ⟨⟨a, b, c, r⟩, by cases ha; cases hb; cases hc; cases hr; rfl⟩

set_option maxRecDepth 100000 in
theorem open_linkV {r : Reach} {b0 : Nat} {v : Value} {d : DataW H} {ps : List MemPlace} (hval : Value.okWide Tryz.prog w r b0 171 v) (hd : DataW.Trod enc Tryz.prog w base spare held 171 v d ps) :
    ∃ l : Lk, v = lkV l := by
  obtain ⟨cs, rfl, _⟩ := okWide_struct Tryz.underlying171 hval
  obtain ⟨fuel, hf⟩ := hd
  obtain ⟨l, hl⟩ := open_link hf
  refine ⟨l, ?_⟩
  obtain ⟨c⟩ := cs
  simp only [Value.cells] at hl
  unfold lkV
  rw [hl]
  rfl

set_option maxRecDepth 100000 in
theorem open_net {r : Reach} {b0 : Nat} {v : Value} {d : DataW H} {ps : List MemPlace} (hval : Value.okWide Tryz.prog w r b0 25 v) (hd : DataW.Trod enc Tryz.prog w base spare held 25 v d ps) :
    ∃ x : NetD, NetAt w v x w.heap.size ∧ (Lit.int .i64 x.n).wf = true ∧ x.ls.length ≤ maxLen ∧ x.ts.length ≤ maxLen := by
  obtain ⟨cs, rfl, hcs⟩ := okWide_struct Tryz.underlying25 hval
  obtain ⟨fuel, hf⟩ := hd
  obtain ⟨xs, k, hk, hxy, hcl, hxl, hfl⟩ := DataW.trod_struct Tryz.underlying25 hf
  have hc3 : Tryz.prog.cellsOf 25 = 3 := by kernel_rfl
  rw [hc3] at hcs hcl
  obtain ⟨v0, v1, v2, rfl⟩ : ∃ v0 v1 v2, cs = #[v0, v1, v2] := by
    obtain ⟨l⟩ := cs
    match l, hcs with
    | [v0, v1, v2], _ => exact ⟨v0, v1, v2, rfl⟩
  have g0 := hfl 0 _ rfl
  have g1 := hfl 1 _ rfl
  have g2 := hfl 2 _ rfl
  have k0 : Tryz.prog.cellsOf 3 = 1 := by kernel_rfl
  have k1 : Tryz.prog.cellsOf 22 = 1 := by kernel_rfl
  have k2 : Tryz.prog.cellsOf 23 = 1 := by kernel_rfl
  match xs, hxl with
  | [y0, y1, y2], _ =>
    simp [Value.cells, k0, k1, k2] at g0 g1 g2
    obtain ⟨n, hn, _, wn⟩ := DataW.trod_int Tryz.underlying3 g0
    obtain ⟨u1, ls, e1, hl, hll⟩ := open_structs (encE := lkE) lkE_len Tryz.underlying22 (by kernel_rfl) (fun _ _ _ h => open_link h) g1
    obtain ⟨u2, ts, e2, ht, htl⟩ := open_structs (encE := thE) thE_len Tryz.underlying23 (by kernel_rfl) (fun _ _ _ h => open_thing h) g2
    cases hn
    cases e1
    cases e2
    exact ⟨⟨n, ls, ts⟩, ⟨v1, v2, rfl, hl, ht⟩, wn, hll, htl⟩
end
end Go.Proofs.YtimbeeinognjbaaGreatDoor
namespace Go.Proofs.YtimbeeinognjbaaGreatDoor
open Go.RowKit Go.ChangeShapes Go.WideShapes

section
variable {H : Type} {enc : TypeId × Value → H} {P : Program} {w : World} {base : Nat} {spare : Nat → Bool} {held : Bool}

theorem add_none {a : Addr} (h : a.spot = none) (j : Nat) : a.add j = ⟨a.block, a.off + j, none⟩ := by
  obtain ⟨b, o, s⟩ := a
  simp at h
  subst h
  simp only [Addr.add]
  split <;> simp_all

/-- two fields of one cell -/
theorem open_two {e : TypeId} {f0 f1 : Field} {fuel : Nat} {cs : List Value} {x : DataW H × List MemPlace} (he : P.underlying e = some (.struct #[f0, f1])) (ce : P.cellsOf e = 2)
    (o0 : f0.offset = 0) (o1 : f1.offset = 1) (c0 : P.cellsOf f0.type = 1) (c1 : P.cellsOf f1.type = 1)
    (h : DataW.trod enc P w base spare held fuel e cs = some x) :
    ∃ v0 v1 n y0 y1, cs = [v0, v1] ∧ DataW.trod enc P w base spare held n f0.type [v0] = some y0 ∧ DataW.trod enc P w base spare held n f1.type [v1] = some y1 := by
  obtain ⟨xs, k, hk, hxy, hcl, hxl, hf⟩ := DataW.trod_struct he h
  rw [ce] at hcl
  match xs, hxl, cs, hcl with
  | [y0, y1], _, [v0, v1], _ =>
    have g0 := hf 0 f0 rfl
    have g1 := hf 1 f1 rfl
    simp [o0, o1, c0, c1] at g0 g1
    exact ⟨v0, v1, k, y0, y1, rfl, g0, g1⟩

/-- a slice of such: each element by a reading of its two cells -/
theorem open_structs2 {α : Type} [Inhabited α] {encE : α → List Value} (hsz : ∀ a, (encE a).length = 2) {t e : TypeId} {fuel : Nat} {cs : List Value} {x : DataW H × List MemPlace} (ht : P.underlying t = some (.slice e)) (ce : P.cellsOf e = 2)
    (hel : ∀ fuel cs x, DataW.trod enc P w base spare held fuel e cs = some x → ∃ a : α, cs = encE a) (h : DataW.trod enc P w base spare held fuel t cs = some x) :
    ∃ v xs, cs = [v] ∧ StructsAt encE 2 w v xs w.heap.size ∧ xs.length ≤ maxLen := by
  rcases Go.Deep.open_slice ht h with ⟨h0, _⟩ | ⟨a, len, cap, m, n, D, Pl, rfl, hb, hlc, hcm, hmm, _, hx⟩
  · exact ⟨_, [], h0, ⟨none, 0, rfl, .inl rfl⟩, by simp⟩
  · have hlm : len ≤ m := by rw [hmm]; split <;> omega
    have each : ∀ i, i < len → ∃ q : α, ∀ r u, (encE q)[r]? = some u → w.cell? (a.add (i * 2 + r)) = some u := by
      intro i hi
      obtain ⟨cs', h1, h2⟩ := hx i (by omega)
      rw [ce] at h1
      obtain ⟨_, hlen, hcell⟩ := World.cells?_some h1
      obtain ⟨q, rfl⟩ := hel _ _ _ h2
      refine ⟨q, fun r u hu => ?_⟩
      have hr : r < 2 := by have := (List.getElem?_eq_some_iff.1 hu).1; rw [hsz] at this; exact this
      rw [← Go.Deep.add_add, hcell r hr, hu]
    obtain ⟨q, hq⟩ := Go.Deep.choose_lt each
    refine ⟨_, (List.range len).map q, rfl, ?_, by simp; omega⟩
    have hl : ((List.range len).map q).length = len := by simp
    unfold StructsAt RowAt
    rw [hl]
    refine ⟨_, cap, rfl, ?_⟩
    by_cases hl0 : len = 0
    · exact .inl hl0
    · right
      have hsp : a.spot = none := by
        have hu : (encE (q 0))[0]? = some ((encE (q 0))[0]'(by rw [hsz]; omega)) := List.getElem?_eq_getElem _
        have := World.cell?_spot (hq 0 (by omega) 0 _ hu)
        simpa [Addr.add] using this
      have hblk : a.block < w.heap.size := by
        have hu : (encE (q 0))[0]? = some ((encE (q 0))[0]'(by rw [hsz]; omega)) := List.getElem?_eq_getElem _
        have := World.block_lt_of_cell? w _ (hq 0 (by omega) 0 _ hu)
        simpa [Addr.add] using this
      refine ⟨a.block, a.off, by obtain ⟨b, o, s⟩ := a; simp at hsp; rw [hsp], hblk, fun j hj => ?_⟩
      have e : j = j / 2 * 2 + j % 2 := by omega
      have hd : j / 2 < len := by omega
      have hm4 : j % 2 < 2 := by omega
      have hg := flat_get hsz ((List.range len).map q) (j / 2) (j % 2) (q (j / 2)) (by simp [hd]) hm4
      have hu : (encE (q (j / 2)))[j % 2]? = some ((encE (q (j / 2)))[j % 2]'(by rw [hsz]; exact hm4)) := List.getElem?_eq_getElem _
      have := hq (j / 2) hd (j % 2) _ hu
      rw [← e, add_none hsp] at this
      rw [this]
      rw [← e] at hg
      simp only [List.getD_eq_getElem?_getD, hg, hu]
      rfl
end
end Go.Proofs.YtimbeeinognjbaaGreatDoor
namespace Go.Proofs.YtimbeeinognjbaaGreatDoor
open Go.RowKit Go.ChangeShapes Go.WideShapes

section
variable {H : Type} {enc : TypeId × Value → H} {w : World} {base : Nat} {spare : Nat → Bool} {held : Bool}

theorem open_near {fuel : Nat} {cs : List Value} {x : DataW H × List MemPlace} (h : DataW.trod enc Tryz.prog w base spare held fuel 227 cs = some x) : ∃ l : Nr, cs = nrE l := by
  obtain ⟨v0, v1, n, y0, y1, rfl, h0, h1⟩ := open_two Tryz.underlying227 (by kernel_rfl) rfl rfl (by kernel_rfl) (by kernel_rfl) h
  obtain ⟨a, ha, _⟩ := DataW.trod_int Tryz.underlying3 h0
  obtain ⟨b, hb, _⟩ := DataW.trod_int Tryz.underlying3 h1
  exact ⟨⟨a, b⟩, by cases ha; cases hb; rfl⟩

set_option maxRecDepth 100000 in
theorem open_record {r : Reach} {b0 : Nat} {v : Value} {d : DataW H} {ps : List MemPlace} (hval : Value.okWide Tryz.prog w r b0 119 v) (hd : DataW.Trod enc Tryz.prog w base spare held 119 v d ps) :
    ∃ x : RecD, RecAt w v x w.heap.size ∧ x.near.length ≤ maxLen := by
  obtain ⟨cs, rfl, hcs⟩ := okWide_struct Tryz.underlying119 hval
  obtain ⟨fuel, hf⟩ := hd
  obtain ⟨xs, k, hk, hxy, hcl, hxl, hfl⟩ := DataW.trod_struct Tryz.underlying119 hf
  have hc8 : Tryz.prog.cellsOf 119 = 8 := by kernel_rfl
  rw [hc8] at hcs hcl
  obtain ⟨v0, v1, v2, v3, v4, v5, v6, v7, rfl⟩ : ∃ v0 v1 v2 v3 v4 v5 v6 v7, cs = #[v0, v1, v2, v3, v4, v5, v6, v7] := by
    obtain ⟨l⟩ := cs
    match l, hcs with
    | [v0, v1, v2, v3, v4, v5, v6, v7], _ => exact ⟨v0, v1, v2, v3, v4, v5, v6, v7, rfl⟩
  have g0 := hfl 0 _ rfl
  have g1 := hfl 1 _ rfl
  have g2 := hfl 2 _ rfl
  have g3 := hfl 3 _ rfl
  have g4 := hfl 4 _ rfl
  have g5 := hfl 5 _ rfl
  have g6 := hfl 6 _ rfl
  have g7 := hfl 7 _ rfl
  have k0 : Tryz.prog.cellsOf 3 = 1 := by kernel_rfl
  have k1 : Tryz.prog.cellsOf 117 = 1 := by kernel_rfl
  have k2 : Tryz.prog.cellsOf 4 = 1 := by kernel_rfl
  match xs, hxl with
  | [y0, y1, y2, y3, y4, y5, y6, y7], _ =>
    simp [Value.cells, k0, k1, k2] at g0 g1 g2 g3 g4 g5 g6 g7
    obtain ⟨z0, e0, _⟩ := DataW.trod_int Tryz.underlying3 g0
    obtain ⟨z1, e1, _⟩ := DataW.trod_int Tryz.underlying3 g1
    obtain ⟨z2, e2, _⟩ := DataW.trod_int Tryz.underlying3 g2
    obtain ⟨z3, e3, _⟩ := DataW.trod_int Tryz.underlying3 g3
    obtain ⟨z4, e4, _⟩ := DataW.trod_int Tryz.underlying3 g4
    obtain ⟨u5, ns, e5, hn, hnl⟩ := open_structs2 (encE := nrE) nrE_len Tryz.underlying117 (by kernel_rfl) (fun _ _ _ h => open_near h) g5
    obtain ⟨z6, e6, _⟩ := DataW.trod_int Tryz.underlying3 g6
    obtain ⟨z7, e7, _⟩ := DataW.trod_bool Tryz.underlying4 g7
    cases e0
    cases e1
    cases e2
    cases e3
    cases e4
    cases e5
    cases e6
    cases e7
    exact ⟨⟨z0, z1, z2, z3, z4, ns, z6, z7⟩, ⟨v5, rfl, hn⟩, hnl⟩
end
end Go.Proofs.YtimbeeinognjbaaGreatDoor
namespace Go.Proofs.YtimbeeinognjbaaGreatDoor
open Go.RowKit Go.ChangeShapes Go.WideShapes

section
variable {H : Type} {enc : TypeId × Value → H} {P : Program} {w : World} {base : Nat} {spare : Nat → Bool} {held : Bool}

/-- a slice of structs of sz cells: each element by a reading of its cells -/
theorem open_structsN {α : Type} [Inhabited α] {encE : α → List Value} {sz : Nat} (hpos : 0 < sz) {R : α → Prop} (hsz : ∀ a, (encE a).length = sz) {t e : TypeId} {fuel : Nat} {cs : List Value} {x : DataW H × List MemPlace} (ht : P.underlying t = some (.slice e)) (ce : P.cellsOf e = sz)
    (hel : ∀ fuel cs x, DataW.trod enc P w base spare held fuel e cs = some x → ∃ a : α, cs = encE a ∧ R a) (h : DataW.trod enc P w base spare held fuel t cs = some x) :
    ∃ v xs, cs = [v] ∧ StructsAt encE sz w v xs w.heap.size ∧ xs.length ≤ maxLen ∧ ∀ a ∈ xs, R a := by
  rcases Go.Deep.open_slice ht h with ⟨h0, _⟩ | ⟨a, len, cap, m, n, D, Pl, rfl, hb, hlc, hcm, hmm, _, hx⟩
  · exact ⟨_, [], h0, ⟨none, 0, rfl, .inl rfl⟩, by simp, by simp⟩
  · have hlm : len ≤ m := by rw [hmm]; split <;> omega
    have each : ∀ i, i < len → ∃ q : α, R q ∧ ∀ r u, (encE q)[r]? = some u → w.cell? (a.add (i * sz + r)) = some u := by
      intro i hi
      obtain ⟨cs', h1, h2⟩ := hx i (by omega)
      rw [ce] at h1
      obtain ⟨_, hlen, hcell⟩ := World.cells?_some h1
      obtain ⟨q, rfl, hR⟩ := hel _ _ _ h2
      refine ⟨q, hR, fun r u hu => ?_⟩
      have hr : r < sz := by have := (List.getElem?_eq_some_iff.1 hu).1; rw [hsz] at this; exact this
      rw [← Go.Deep.add_add, hcell r hr, hu]
    obtain ⟨q, hq⟩ := Go.Deep.choose_lt each
    refine ⟨_, (List.range len).map q, rfl, ?_, by simp; omega, fun a ha => by obtain ⟨i, hi, rfl⟩ := List.mem_map.1 ha; exact (hq i (by simpa using hi)).1⟩
    have hl : ((List.range len).map q).length = len := by simp
    unfold StructsAt RowAt
    rw [hl]
    refine ⟨_, cap, rfl, ?_⟩
    by_cases hl0 : len = 0
    · exact .inl hl0
    · right
      have hsp : a.spot = none := by
        have hu : (encE (q 0))[0]? = some ((encE (q 0))[0]'(by rw [hsz]; exact hpos)) := List.getElem?_eq_getElem _
        have := World.cell?_spot ((hq 0 (by omega)).2 0 _ hu)
        simpa [Addr.add] using this
      have hblk : a.block < w.heap.size := by
        have hu : (encE (q 0))[0]? = some ((encE (q 0))[0]'(by rw [hsz]; exact hpos)) := List.getElem?_eq_getElem _
        have := World.block_lt_of_cell? w _ ((hq 0 (by omega)).2 0 _ hu)
        simpa [Addr.add] using this
      refine ⟨a.block, a.off, by obtain ⟨b, o, s⟩ := a; simp at hsp; rw [hsp], hblk, fun j hj => ?_⟩
      have e : j = j / sz * sz + j % sz := by rw [Nat.mul_comm]; exact (Nat.div_add_mod j sz).symm
      have hd : j / sz < len := Nat.div_lt_of_lt_mul (by rw [Nat.mul_comm]; exact hj)
      have hm4 : j % sz < sz := Nat.mod_lt _ hpos
      have hg := flat_get hsz ((List.range len).map q) (j / sz) (j % sz) (q (j / sz)) (by simp [hd]) hm4
      have hu : (encE (q (j / sz)))[j % sz]? = some ((encE (q (j / sz)))[j % sz]'(by rw [hsz]; exact hm4)) := List.getElem?_eq_getElem _
      have := (hq (j / sz) hd).2 (j % sz) _ hu
      rw [← e, add_none hsp] at this
      rw [this]
      rw [← e] at hg
      simp only [List.getD_eq_getElem?_getD, hg, hu]
      rfl
end
end Go.Proofs.YtimbeeinognjbaaGreatDoor
namespace Go.Proofs.YtimbeeinognjbaaGreatDoor
open Go.RowKit Go.ChangeShapes Go.WideShapes

instance : Inhabited RP := ⟨zP⟩

section
variable {H : Type} {enc : TypeId × Value → H} {w : World} {base : Nat} {spare : Nat → Bool} {held : Bool}

set_option maxRecDepth 100000 in
theorem open_recCells {fuel : Nat} {cs : List Value} {x : DataW H × List MemPlace} (hf : DataW.trod enc Tryz.prog w base spare held fuel 119 cs = some x) :
    ∃ p : RP, cs = encP p ∧ (NearsAt w p.2 p.1.near w.heap.size ∧ p.1.near.length ≤ maxLen) := by
  obtain ⟨xs, k, hk, hxy, hcl, hxl, hfl⟩ := DataW.trod_struct Tryz.underlying119 hf
  have hc8 : Tryz.prog.cellsOf 119 = 8 := by kernel_rfl
  rw [hc8] at hcl
  obtain ⟨v0, v1, v2, v3, v4, v5, v6, v7, rfl⟩ : ∃ v0 v1 v2 v3 v4 v5 v6 v7, cs = [v0, v1, v2, v3, v4, v5, v6, v7] := by
    match cs, hcl with
    | [v0, v1, v2, v3, v4, v5, v6, v7], _ => exact ⟨v0, v1, v2, v3, v4, v5, v6, v7, rfl⟩
  have g0 := hfl 0 _ rfl
  have g1 := hfl 1 _ rfl
  have g2 := hfl 2 _ rfl
  have g3 := hfl 3 _ rfl
  have g4 := hfl 4 _ rfl
  have g5 := hfl 5 _ rfl
  have g6 := hfl 6 _ rfl
  have g7 := hfl 7 _ rfl
  have k0 : Tryz.prog.cellsOf 3 = 1 := by kernel_rfl
  have k1 : Tryz.prog.cellsOf 117 = 1 := by kernel_rfl
  have k2 : Tryz.prog.cellsOf 4 = 1 := by kernel_rfl
  match xs, hxl with
  | [y0, y1, y2, y3, y4, y5, y6, y7], _ =>
    simp [k0, k1, k2] at g0 g1 g2 g3 g4 g5 g6 g7
    obtain ⟨z0, e0, _⟩ := DataW.trod_int Tryz.underlying3 g0
    obtain ⟨z1, e1, _⟩ := DataW.trod_int Tryz.underlying3 g1
    obtain ⟨z2, e2, _⟩ := DataW.trod_int Tryz.underlying3 g2
    obtain ⟨z3, e3, _⟩ := DataW.trod_int Tryz.underlying3 g3
    obtain ⟨z4, e4, _⟩ := DataW.trod_int Tryz.underlying3 g4
    obtain ⟨u5, ns, e5, hn, hnl⟩ := open_structs2 (encE := nrE) nrE_len Tryz.underlying117 (by kernel_rfl) (fun _ _ _ h => open_near h) g5
    obtain ⟨z6, e6, _⟩ := DataW.trod_int Tryz.underlying3 g6
    obtain ⟨z7, e7, _⟩ := DataW.trod_bool Tryz.underlying4 g7
    cases e0
    cases e1
    cases e2
    cases e3
    cases e4
    cases e5
    cases e6
    cases e7
    exact ⟨(⟨z0, z1, z2, z3, z4, ns, z6, z7⟩, v5), rfl, hn, hnl⟩

set_option maxRecDepth 100000 in
theorem open_records {r : Reach} {b0 : Nat} {v : Value} {d : DataW H} {ps : List MemPlace} (hval : Value.okWide Tryz.prog w r b0 27 v) (hd : DataW.Trod enc Tryz.prog w base spare held 27 v d ps) :
    ∃ qs : List RP, RecsAt w v qs w.heap.size ∧ qs.length ≤ maxLen ∧ ∀ p ∈ qs, p.1.near.length ≤ maxLen := by
  obtain ⟨a0, len0, cap0, rfl⟩ := okWide_slice Tryz.underlying27 hval
  obtain ⟨fuel, hf⟩ := hd
  obtain ⟨u, xs, hu, hs, hl, hR⟩ := open_structsN (encE := encP) (sz := 8) (by omega) encP_len Tryz.underlying27 (by kernel_rfl) (fun _ _ _ h => open_recCells h) hf
  simp [Value.cells] at hu
  subst hu
  exact ⟨xs, ⟨hs, fun p hp => (hR p hp).1⟩, hl, fun p hp => (hR p hp).2⟩
end
end Go.Proofs.YtimbeeinognjbaaGreatDoor
namespace Go.Proofs.YtimbeeinognjbaaGreatDoor
open Go.RowKit Go.ChangeShapes Go.WideShapes

section
variable {H : Type} {enc : TypeId × Value → H} {w : World} {base : Nat} {spare : Nat → Bool} {held : Bool}

theorem open_hop {fuel : Nat} {cs : List Value} {x : DataW H × List MemPlace} (h : DataW.trod enc Tryz.prog w base spare held fuel 3 cs = some x) : ∃ z : Int, cs = intE z ∧ True := by
  obtain ⟨a, ha, _⟩ := DataW.trod_int Tryz.underlying3 h
  exact ⟨a, ha, trivial⟩

end
end Go.Proofs.YtimbeeinognjbaaGreatDoor
namespace Go.Proofs.YtimbeeinognjbaaGreatDoor
open Go.RowKit Go.ChangeShapes Go.WideShapes

section
variable {H : Type} {enc : TypeId × Value → H} {w : World} {base : Nat} {spare : Nat → Bool} {held : Bool}

set_option maxRecDepth 100000 in
theorem open_intL {r : Reach} {b0 : Nat} {v : Value} {d : DataW H} {ps : List MemPlace} (hval : Value.okWide Tryz.prog w r b0 26 v) (hd : DataW.Trod enc Tryz.prog w base spare held 26 v d ps) :
    ∃ l : List Int, HopsAt w v l w.heap.size ∧ l.length ≤ maxLen := by
  obtain ⟨a0, len0, cap0, rfl⟩ := okWide_slice Tryz.underlying26 hval
  obtain ⟨fuel, hf⟩ := hd
  obtain ⟨u, xs, hu, hs, hl, _⟩ := open_structsN (encE := intE) (sz := 1) (R := fun _ => True) (by omega) intE_len Tryz.underlying26 (by kernel_rfl) (fun _ _ _ h => open_hop h) hf
  simp [Value.cells] at hu
  subst hu
  exact ⟨xs, hs, hl⟩
end
end Go.Proofs.YtimbeeinognjbaaGreatDoor
namespace Go.Proofs.YtimbeeinognjbaaGreatDoor
open Go.RowKit Go.ChangeShapes Go.WideShapes

section
variable {H : Type} {enc : TypeId × Value → H} {w : World} {base : Nat} {spare : Nat → Bool} {held : Bool}

set_option maxRecDepth 100000 in
theorem open_netCells {fuel : Nat} {cs : List Value} {x : DataW H × List MemPlace} (hf : DataW.trod enc Tryz.prog w base spare held fuel 25 cs = some x) :
    ∃ (y : NetD) (v1 v2 : Value), cs = [.int .i64 y.n, v1, v2] ∧ LinksAt w v1 y.ls w.heap.size ∧ ThingsAt w v2 y.ts w.heap.size ∧ y.ls.length ≤ maxLen ∧ y.ts.length ≤ maxLen := by
  obtain ⟨xs, k, hk, hxy, hcl, hxl, hfl⟩ := DataW.trod_struct Tryz.underlying25 hf
  have hc3 : Tryz.prog.cellsOf 25 = 3 := by kernel_rfl
  rw [hc3] at hcl
  obtain ⟨v0, v1, v2, rfl⟩ : ∃ v0 v1 v2, cs = [v0, v1, v2] := by
    match cs, hcl with
    | [v0, v1, v2], _ => exact ⟨v0, v1, v2, rfl⟩
  have g0 := hfl 0 _ rfl
  have g1 := hfl 1 _ rfl
  have g2 := hfl 2 _ rfl
  have k0 : Tryz.prog.cellsOf 3 = 1 := by kernel_rfl
  have k1 : Tryz.prog.cellsOf 22 = 1 := by kernel_rfl
  have k2 : Tryz.prog.cellsOf 23 = 1 := by kernel_rfl
  match xs, hxl with
  | [y0, y1, y2], _ =>
    simp [k0, k1, k2] at g0 g1 g2
    obtain ⟨n, hn, _⟩ := DataW.trod_int Tryz.underlying3 g0
    obtain ⟨u1, ls, e1, hl, hll⟩ := open_structs (encE := lkE) lkE_len Tryz.underlying22 (by kernel_rfl) (fun _ _ _ h => open_link h) g1
    obtain ⟨u2, ts, e2, ht, htl⟩ := open_structs (encE := thE) thE_len Tryz.underlying23 (by kernel_rfl) (fun _ _ _ h => open_thing h) g2
    cases hn
    cases e1
    cases e2
    exact ⟨⟨n, ls, ts⟩, v1, v2, rfl, hl, ht, hll, htl⟩

set_option maxRecDepth 100000 in
theorem open_self {r : Reach} {b0 : Nat} {v : Value} {d : DataW H} {ps : List MemPlace} (hval : Value.okWide Tryz.prog w r b0 29 v) (hd : DataW.Trod enc Tryz.prog w base spare held 29 v d ps) :
    ∃ (x : SelfD) (qs : List RP), SelfAt w v x qs w.heap.size ∧ SelfLen x qs := by
  obtain ⟨cs, rfl, hcs⟩ := okWide_struct Tryz.underlying29 hval
  obtain ⟨fuel, hf⟩ := hd
  obtain ⟨xs, k, hk, hxy, hcl, hxl, hfl⟩ := DataW.trod_struct Tryz.underlying29 hf
  have hc7 : Tryz.prog.cellsOf 29 = 7 := by kernel_rfl
  rw [hc7] at hcs hcl
  obtain ⟨v0, v1, v2, v3, v4, v5, v6, rfl⟩ : ∃ v0 v1 v2 v3 v4 v5 v6, cs = #[v0, v1, v2, v3, v4, v5, v6] := by
    obtain ⟨l⟩ := cs
    match l, hcs with
    | [v0, v1, v2, v3, v4, v5, v6], _ => exact ⟨v0, v1, v2, v3, v4, v5, v6, rfl⟩
  have g0 := hfl 0 _ rfl
  have g1 := hfl 1 _ rfl
  have g2 := hfl 2 _ rfl
  have g3 := hfl 3 _ rfl
  have g4 := hfl 4 _ rfl
  have k0 : Tryz.prog.cellsOf 3 = 1 := by kernel_rfl
  have k1 : Tryz.prog.cellsOf 25 = 3 := by kernel_rfl
  have k2 : Tryz.prog.cellsOf 26 = 1 := by kernel_rfl
  have k3 : Tryz.prog.cellsOf 27 = 1 := by kernel_rfl
  match xs, hxl with
  | [y0, y1, y2, y3, y4], _ =>
    simp [Value.cells, k0, k1, k2, k3] at g0 g1 g2 g3 g4
    obtain ⟨id, e0, _⟩ := DataW.trod_int Tryz.underlying3 g0
    obtain ⟨bt, e1, _⟩ := DataW.trod_int Tryz.underlying3 g1
    obtain ⟨nt, u2, u3, e2, h2, h3, l2, l3⟩ := open_netCells g2
    obtain ⟨u5, hs, e3, h5, l5, _⟩ := open_structsN (encE := intE) (sz := 1) (R := fun _ => True) (by omega) intE_len Tryz.underlying26 (by kernel_rfl) (fun _ _ _ h => open_hop h) g3
    obtain ⟨u6, qs, e4, h6, l6, h7⟩ := open_structsN (encE := encP) (sz := 8) (R := fun p : RP => NearsAt w p.2 p.1.near w.heap.size ∧ p.1.near.length ≤ maxLen) (by omega) encP_len Tryz.underlying27 (by kernel_rfl) (fun _ _ _ h => open_recCells h) g4
    cases e0
    cases e1
    cases e2
    cases e3
    cases e4
    exact ⟨⟨id, bt, nt, hs⟩, qs, ⟨v3, v4, v5, v6, rfl, h2, h3, h5, ⟨h6, fun p hp => (h7 p hp).1⟩⟩, l2, l3, l5, l6, fun p hp => (h7 p hp).2⟩
end
end Go.Proofs.YtimbeeinognjbaaGreatDoor
namespace Go.Proofs.YtimbeeinognjbaaGreatDoor
open Go.RowKit Go.ChangeShapes Go.WideShapes

set_option linter.unusedSimpArgs false

section
variable {H : Type} {enc : TypeId × Value → H} {w : World} {base : Nat} {spare : Nat → Bool} {held : Bool}

theorem open_ear {fuel : Nat} {cs : List Value} {x : DataW H × List MemPlace} (h : DataW.trod enc Tryz.prog w base spare held fuel 89 cs = some x) : ∃ l : Th, cs = thE l := by
  obtain ⟨v0, v1, v2, v3, n, y0, y1, y2, y3, rfl, h0, h1, h2, h3⟩ := open_four Tryz.underlying89 (by kernel_rfl) rfl rfl rfl rfl (by kernel_rfl) (by kernel_rfl) (by kernel_rfl) (by kernel_rfl) h
  obtain ⟨a, ha, _⟩ := DataW.trod_int Tryz.underlying3 h0
  obtain ⟨b, hb, _⟩ := DataW.trod_int Tryz.underlying3 h1
  obtain ⟨c, hc, _⟩ := DataW.trod_int Tryz.underlying3 h2
  obtain ⟨r, hr, _⟩ := DataW.trod_bool Tryz.underlying4 h3
  exact ⟨⟨a, b, c, r⟩, by cases ha; cases hb; cases hc; cases hr; rfl⟩

set_option maxRecDepth 100000 in
theorem open_selfCells {fuel : Nat} {cs : List Value} {y : DataW H × List MemPlace} (hf : DataW.trod enc Tryz.prog w base spare held fuel 29 cs = some y) :
    ∃ (x : SelfD) (qs : List RP) (v1 v2 v3 v4 : Value), cs = [.int .i64 x.id, .int .i64 x.boot, .int .i64 x.net.n, v1, v2, v3, v4] ∧ SelfIn w v1 v2 v3 v4 x qs w.heap.size ∧ SelfLen x qs := by
  obtain ⟨xs, k, hk, hxy, hcl, hxl, hfl⟩ := DataW.trod_struct Tryz.underlying29 hf
  have hc7 : Tryz.prog.cellsOf 29 = 7 := by kernel_rfl
  rw [hc7] at hcl
  obtain ⟨v0, v1, v2, v3, v4, v5, v6, rfl⟩ : ∃ v0 v1 v2 v3 v4 v5 v6, cs = [v0, v1, v2, v3, v4, v5, v6] := by
    match cs, hcl with
    | [v0, v1, v2, v3, v4, v5, v6], _ => exact ⟨v0, v1, v2, v3, v4, v5, v6, rfl⟩
  have g0 := hfl 0 _ rfl
  have g1 := hfl 1 _ rfl
  have g2 := hfl 2 _ rfl
  have g3 := hfl 3 _ rfl
  have g4 := hfl 4 _ rfl
  have k0 : Tryz.prog.cellsOf 3 = 1 := by kernel_rfl
  have k1 : Tryz.prog.cellsOf 25 = 3 := by kernel_rfl
  have k2 : Tryz.prog.cellsOf 26 = 1 := by kernel_rfl
  have k3 : Tryz.prog.cellsOf 27 = 1 := by kernel_rfl
  match xs, hxl with
  | [y0, y1, y2, y3, y4], _ =>
    simp [Value.cells, k0, k1, k2, k3] at g0 g1 g2 g3 g4
    obtain ⟨id, e0, _⟩ := DataW.trod_int Tryz.underlying3 g0
    obtain ⟨bt, e1, _⟩ := DataW.trod_int Tryz.underlying3 g1
    obtain ⟨nt, u2, u3, e2, h2, h3, l2, l3⟩ := open_netCells g2
    obtain ⟨u5, hs, e3, h5, l5, _⟩ := open_structsN (encE := intE) (sz := 1) (R := fun _ => True) (by omega) intE_len Tryz.underlying26 (by kernel_rfl) (fun _ _ _ h => open_hop h) g3
    obtain ⟨u6, qs, e4, h6, l6, h7⟩ := open_structsN (encE := encP) (sz := 8) (R := fun p : RP => NearsAt w p.2 p.1.near w.heap.size ∧ p.1.near.length ≤ maxLen) (by omega) encP_len Tryz.underlying27 (by kernel_rfl) (fun _ _ _ h => open_recCells h) g4
    cases e0
    cases e1
    cases e2
    cases e3
    cases e4
    exact ⟨⟨id, bt, nt, hs⟩, qs, v3, v4, v5, v6, rfl, ⟨h2, h3, h5, ⟨h6, fun p hp => (h7 p hp).1⟩⟩, l2, l3, l5, l6, fun p hp => (h7 p hp).2⟩

set_option maxRecDepth 100000 in
theorem open_node {r : Reach} {b0 : Nat} {v : Value} {d : DataW H} {ps : List MemPlace} (hval : Value.okWide Tryz.prog w r b0 32 v) (hd : DataW.Trod enc Tryz.prog w base spare held 32 v d ps) :
    ∃ (x : SelfD) (qs : List RP) (es : List Th), NodeAt w v x qs es w.heap.size ∧ NodeLen x qs es := by
  obtain ⟨cs, rfl, hcs⟩ := okWide_struct Tryz.underlying32 hval
  obtain ⟨fuel, hf⟩ := hd
  obtain ⟨xs, k, hk, hxy, hcl, hxl, hfl⟩ := DataW.trod_struct Tryz.underlying32 hf
  have hc8 : Tryz.prog.cellsOf 32 = 8 := by kernel_rfl
  rw [hc8] at hcs hcl
  obtain ⟨v0, v1, v2, v3, v4, v5, v6, v7, rfl⟩ : ∃ v0 v1 v2 v3 v4 v5 v6 v7, cs = #[v0, v1, v2, v3, v4, v5, v6, v7] := by
    obtain ⟨l⟩ := cs
    match l, hcs with
    | [v0, v1, v2, v3, v4, v5, v6, v7], _ => exact ⟨v0, v1, v2, v3, v4, v5, v6, v7, rfl⟩
  have g0 := hfl 0 _ rfl
  have g1 := hfl 1 _ rfl
  have k0 : Tryz.prog.cellsOf 29 = 7 := by kernel_rfl
  have k1 : Tryz.prog.cellsOf 30 = 1 := by kernel_rfl
  match xs, hxl with
  | [y0, y1], _ =>
    simp [Value.cells, k0, k1] at g0 g1
    obtain ⟨x, qs, u1, u2, u3, u4, e0, h0, l0⟩ := open_selfCells g0
    obtain ⟨u5, es, e1, h1, l1⟩ := open_structs (encE := thE) thE_len Tryz.underlying30 (by kernel_rfl) (fun _ _ _ h => open_ear h) g1
    cases e0
    cases e1
    exact ⟨x, qs, es, ⟨_, _, _, _, _, rfl, h0, h1⟩, l0, l1⟩
end
end Go.Proofs.YtimbeeinognjbaaGreatDoor
namespace Go.Proofs.YtimbeeinognjbaaGreatDoor
namespace fnExactNodeOk
open Go.ChangeShapes Go.WideShapes Go.ChangeAt Go.RowKit
open Go.ChangeMaps (open_string shut_string)
set_option linter.unusedVariables false

theorem own : ownKnob Tryz.prog.godebug = none := by kernel_rfl
theorem laidOut : laidOutB Tryz.prog = true := by kernel_rfl

theorem et : Tryz.prog.globalNamed "errors.errorType" = some 0 := by kernel_rfl
theorem rt : (Tryz.prog.cutTypes.find? (·.1 == "internal/reflectlite.rtype")).map (·.2) = some 176 := by kernel_rfl
theorem oneRow : ((List.range Tryz.prog.types.size).filter fun t => Tryz.prog.rowNamed t [101, 114, 114, 111, 114]) = [66] := by kernel_rfl

/-- what the condition gives the walk: the variable's one cell -/
theorem errLaid_of {W : World} (h : laidMetH Tryz.prog Rows.fnExactNodeOkRow.laid W) : ErrLaid W := by
  have h' : laidMet Tryz.prog [] W ∧ handlesMet Tryz.prog Rows.fnExactNodeOkRow.laid W := h
  obtain ⟨name, u, ty, e1, e2, e3, e4, e5⟩ := h'.2 _ (List.mem_singleton.2 rfl)
  have en : name = [101, 114, 114, 111, 114] := (Option.some.inj e1).symm
  subst en
  obtain rfl := Option.some.inj (rt.symm.trans e2)
  have hm : ty ∈ (List.range Tryz.prog.types.size).filter fun t => Tryz.prog.rowNamed t [101, 114, 114, 111, 114] := List.mem_filter.2 ⟨List.mem_range.2 e3, e4⟩
  rw [oneRow] at hm
  obtain rfl := List.mem_singleton.1 hm
  have hh : typeHandle Tryz.prog 66 = .pointer (some ⟨1, 66, none⟩) := by kernel_rfl
  rw [hh] at e5
  unfold ErrLaid
  simpa using World.var?_cell et e5 0

/-- a world that meets the condition: the variable's cell laid -/
noncomputable def laidWorld (os : Os) : World :=
  let w0 := World.holding Tryz.prog os ⟨#[], #[], []⟩
  { w0 with heap := w0.heap.modify 0 fun
      | .cells _ t frozen => .cells #[.iface 176 (.agg #[.pointer (some ⟨1, 66, none⟩)])] t frozen
      | o => o }
theorem door_met (os : Os) (args : Array Value) : laidMetH Tryz.prog Rows.fnExactNodeOkRow.laid ((laidWorld os).forCall (fun _ _ => 0) ⟨#[], args, []⟩).memory :=
  laidMetH_of_parts (laidMet_nil _ _) (by kernel_rfl)

set_option maxRecDepth 100000 in
theorem lifted (os : Os) (started : os.Started) (H : Type) (enc : TypeId × Value → H) :
    ReturnsInHanded {} Tryz.checked os 3 .any (fun w args => (Rows.fnExactNodeOkSpec.pre enc Tryz.prog Tryz.f3 [] false w args ∧ laidMetH Tryz.prog Rows.fnExactNodeOkRow.laid w) ∧ sizedMet enc Tryz.prog Tryz.f3 (OpenSpec.ofChange Rows.fnExactNodeOkSpec) false w args)
      (Rows.fnExactNodeOkSpec.post enc Tryz.prog Tryz.f3 false true false false) := by
  refine returnsInHanded_of_change_and (C := Tryz.checked) (X := fun w _ => laidMetH Tryz.prog Rows.fnExactNodeOkRow.laid w) (fun _ _ _ hh h => h.of_heap hh) own started (by kernel_rfl) Tryz.func3
    (ChangeSpec.witness_at (enc := enc) (C := Tryz.checked) (os := os) (X := fun w _ => laidMetH Tryz.prog Rows.fnExactNodeOkRow.laid w) false (laidWorld os) #[.agg #[.int .i64 0, .int .i64 0, .int .i64 0, .slice none 0 0, .slice none 0 0, .slice none 0 0, .slice none 0 0, .slice none 0 0]] 8 rfl (by kernel_rfl) (by kernel_rfl) (by kernel_rfl) (by kernel_rfl) (by kernel_rfl) (door_met os _)) ?_
  intro W base args ds gs before hval0 hW _ _ hL _
  have hval : ∀ (j : Nat) t v, Tryz.f3.params[j]? = some t → args[j]? = some v → Value.okWide Tryz.prog W .any base t v := hval0
  have hW' := hW
  obtain ⟨p, q, hA0, hV, rfl, hfz, hnd⟩ := hW
  have hA : DataW.TrodAll enc Tryz.prog W 0 (fun _ => true) true Tryz.f3.params.toList args.toList ds p := hA0
  rw [Tryz.params3] at hA hval
  obtain ⟨v0, vs0, d0, ds0, p0, q0, hargs, rfl, rfl, h0, r0⟩ := trodAll_cons hA
  obtain ⟨rfl, rfl, rfl⟩ := trodAll_nil r0
  obtain rfl : args = #[v0] := by cases args; simp_all
  obtain ⟨rfl, rfl⟩ := trodVars_none hV
  have k0 := h0
  have lt0 : ∀ x ∈ p0, x.block < W.heap.size := by obtain ⟨m, hm⟩ := k0; exact DataW.trod_lt m _ _ _ hm
  obtain ⟨x0, qs0, es0, w0⟩ := open_node (hval 0 32 v0 rfl rfl) h0
  clear hA0 hval0
  refine (fnExactNodeOk_walk v0 x0 qs0 es0 W w0 (errLaid_of hL)).mono fun e W' ⟨he, bel⟩ => ?_
  subst he
  exact ⟨_, rfl, _, _, _, [], _, [], hW', trodAll_mk1 (shut_bool Tryz.underlying4 _), (trodAll_cons_mk (Below.trod laidOut (by kernel_rfl) (of_decide_eq_true (by kernel_rfl)) k0 bel lt0) trodAll_mk0), rfl, bel.frame _, fun h => by cases h⟩

theorem over : Rows.FnExactNodeOkSaid :=
  OpenClaim.holds_of_wide 3 Tryz.f3 rfl rfl rfl rfl rfl rfl rfl ⟨rfl, rfl, rfl, rfl, rfl⟩ rfl rfl rfl rfl rfl (by kernel_rfl) Tryz.func3 (by kernel_rfl)
    (of_decide_eq_true (by kernel_rfl)) (by unfold Func.isWrapper; first | (rw [if_pos (by decide +kernel)]; kernel_rfl) | (rw [if_neg (by decide +kernel)]; exact ⟨rfl, rfl⟩))
    (fun os started H enc _ => lifted os started H enc)

theorem card : Rows.FnExactNodeOkCardSaid :=
  Claim7.holds_tied_plain_at .later [] [.handle] true Rows.fnExactNodeOkCard.stood.harness true
    over (fun _ h => by cases h) (by kernel_rfl) (fun _ h => by cases h) fnExactNodeOk_row_tie rfl ⟨rfl, rfl⟩ (by kernel_rfl) rfl
    (fun f fn hf hfn => by
      obtain rfl : f = 3 := Option.some.inj ((show Tryz.prog.funcNamed Rows.fnExactNodeOkRow.func = some 3 by kernel_rfl).symm.trans hf) |>.symm
      obtain rfl : fn = Tryz.f3 := (Option.some.inj (Tryz.func3.symm.trans hfn)).symm
      exact ⟨by kernel_rfl, fun j t ht => by
        rw [Tryz.params3] at ht
        have hm : t ∈ [32] := by simpa using Array.mem_of_getElem? ht
        have hall : ([32].all fun u => !Tryz.prog.wantsStandIn u) = true := by kernel_rfl
        exact (show Tryz.prog.wantsStandIn t = false by simpa using List.all_eq_true.1 hall t hm)⟩)
    (by kernel_rfl)
end fnExactNodeOk

theorem fnExactNodeOk_proved : Rows.FnExactNodeOkCardSaid := fnExactNodeOk.card
#print axioms fnExactNodeOk_proved
end Go.Proofs.YtimbeeinognjbaaGreatDoor
