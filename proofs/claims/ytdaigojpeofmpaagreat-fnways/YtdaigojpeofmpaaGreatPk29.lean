/-
  The law FnWays answers true at every argument, and each argument reads afterwards as it read before; no condition. (Here: from the walk to the given statement.)
  The law FnWays, walked.
-/
import Derived.Test.YtdaigojpeofmpaaGreatPk19
import Derived.Test.YtdaigojpeofmpaaGreatPk21
import Derived.Test.YtdaigojpeofmpaaGreatPk22
import Derived.Test.YtdaigojpeofmpaaGreatPk26
import Derived.Test.YtdaigojpeofmpaaGreatPk13
import Derived.Test.YtdaigojpeofmpaaGreatPk9
import Derived.Test.YtdaigojpeofmpaaGreatPk7
import Derived.Test.YtdaigojpeofmpaaGreatPk27
import Derived.ProofKit
import Derived.OpenShut
import Derived.ShutString
import Derived.ChangeOld
namespace Go.Proofs.YtdaigojpeofmpaaGreat
open Go.RowKit

set_option linter.unusedSimpArgs false

theorem netOkI_th {x : NetD} (h : netOkI x = true) : ∀ t ∈ x.ts, 1 ≤ t.o ∧ t.o ≤ x.n := by
  simp only [netOkI, Bool.and_eq_true] at h
  intro t ht
  have := okT_of h.2 t ht
  simp only [thOkB, inB, Bool.and_eq_true, decide_eq_true_eq] at this
  omega

theorem bdrewW {B n : Nat} {w w1 : World} (h : Below B w w1) : Below B w (w1.drewN n) := h.trans ⟨rfl, rfl, rfl, Nat.le_refl _, fun _ _ => rfl⟩

set_option maxRecDepth 100000 in
set_option maxHeartbeats 8000000 in
theorem fnWays_walk (a : Option Addr) (len cap : Nat) (w : World) (hw : len ≤ 1048576 → Code w a len w.heap.size) :
    Calls Tryz.prog 7 #[.slice a len cap] w fun e w' => e = .returned (.bool true) ∧ Below w.heap.size w w' := by
  have HW := hide hw
  clear hw
  by_cases hlen : len ≤ 1048576
  case neg =>
    have HBIG := hide (big_any a len cap)
    rw [decide_eq_true (show (1048576 : Int) < (len : Int) by omega)] at HBIG
    go_enter Tryz.func7, Tryz.ntmps7
    go_wp2_with fail
    refine (HBIG.out _).mono ?_
    rintro e w1 ⟨rfl, rfl⟩
    go_wp2
    go_ret
    exact ⟨rfl, Below.refl _ _⟩
  have HBIG := hide (big_any a len cap)
  rw [decide_eq_false (show ¬ (1048576 : Int) < (len : Int) by omega)] at HBIG
  have HCODE := hide (HW.out hlen)
  clear HW
  go_enter Tryz.func7, Tryz.ntmps7
  go_wp2_with fail
  refine (HBIG.out _).mono ?_
  rintro e w1 ⟨rfl, rfl⟩
  go_wp2_with fail
  refine (drawRB_any a len cap _ HCODE.out).mono ?_
  rintro e w1 ⟨x, v, y, z, ys, zs, rfl, hok, hnet, hbl, b1⟩
  obtain ⟨hy, hz, hyl, hzl⟩ := hbl.out
  have hth := netOkI_th hok
  have hn6 := netOkI_n hok
  have hl12 := netOkI_l hok
  obtain ⟨n, ls, ts⟩ := x
  obtain ⟨v1, v2, rfl, h1, h2⟩ := hnet
  simp only [] at hth hn6 hl12 h1 h2 hyl hzl
  obtain ⟨N, rfl⟩ : ∃ N : Nat, n = (N : Int) := ⟨n.toNat, by omega⟩
  have BA : Below w1.heap.size w1 (w1.alloc (.cells #[.int .i64 (N : Int), v1, v2] 27)) := (Below.refl _ _).alloc (Nat.le_refl _) _
  have HST := hide (ideal_store (bs := ys) (zs := zs) hok)
  have HID := hide (sideal_any v1 v2 y z N ls ts ys zs (w1.alloc (.cells #[.int .i64 (N : Int), v1, v2] 27)) hok (by omega) (by omega) hl12.1 hl12.2 hth (RowAt.then h1 BA) (RowAt.then h2 BA) (RowAt.then hy BA) (RowAt.then hz BA) hyl (by omega))
  obtain ⟨a1, c1, rfl⟩ := h1.shape
  obtain ⟨a2, c2, rfl⟩ := h2.shape
  obtain ⟨a3, c3, rfl⟩ := hy.shape
  obtain ⟨a4, c4, rfl⟩ := hz.shape
  have hx1 : (w1.alloc (.cells #[.int .i64 (N : Int), .slice a1 ls.length c1, .slice a2 ts.length c2] 27)).heap[w1.heap.size]? = some (.cells #[.int .i64 (N : Int), .slice a1 ls.length c1, .slice a2 ts.length c2] 27) := heap_alloc_new w1 _
  have HX1 := hide hx1
  have HB1 := hide (b1.trans (BA.mono b1.size))
  have hN1 : 1 ≤ N := by omega
  have hN6 : N ≤ 6 := by omega
  clear hx1 hok h1 h2 hy hz hyl hzl hth hl12 hbl b1 BA HCODE HBIG hn6
  go_wp2_with fail
  refine HID.out.mono ?_
  rintro e w3 ⟨o, qs, rfl, hqs, htq, ho, b3⟩
  obtain ⟨oa, oc, rfl⟩ := owns_lenS ho.row
  have hx3 := (b3.block _ (lt_of_heap HX1.out)).trans HX1.out
  have B3 : Below w.heap.size w w3 := HB1.out.trans (b3.mono HB1.out.size)
  obtain ⟨xs, hxs⟩ : ∃ xs, xs = fsts qs := ⟨_, rfl⟩
  have hst : storeB xs = true := by rw [hxs, hqs]; exact HST.out
  have HWI := hide (fun (ar sr : Int) W (hb : Below w3.heap.size w3 W) => iwaysIn_any (.slice oa qs.length oc) qs w3.heap.size ar sr W (ho.in.below hb (Nat.le_refl _)) hb.size (by omega))
  have HWS := hide (fun (ar sr : Int) W (hb : Below w3.heap.size w3 W) => swaysIn_any (.slice oa qs.length oc) qs w3.heap.size ar sr W (ho.in.below hb (Nat.le_refl _)) hb.size (by omega))
  have HLI := hide (fun (ar f t : Int) W (hb : Below w3.heap.size w3 W) => ilinked_any (.slice oa qs.length oc) qs w3.heap.size ar f t W (ho.in.below hb (Nat.le_refl _)) hb.size (by omega))
  have HLS := hide (fun (ar f t : Int) W (hb : Below w3.heap.size w3 W) => slinked_any (.slice oa qs.length oc) qs w3.heap.size ar f t W (ho.in.below hb (Nat.le_refl _)) hb.size (by omega))
  have HFI := hide (fun (ar sr : Int) W (hb : Below w3.heap.size w3 W) => sfind_any (.slice oa qs.length oc) qs _ w3.heap.size (nodeR ar sr, .slice none 0 0) 0 W (ho.below hb (Nat.le_refl _)) hb.size (by omega) (World.ownsRow_nil _ _ _ _))
  rw [← hxs] at HWI HWS HLI HLS HFI
  unfold recC nodeR at HFI
  simp only [] at HFI
  have HS := hide hst
  have HX3 := hide hx3
  have HB3 := hide B3
  clear hqs htq ho b3 hst hx3 B3 HST HID HX1 HB1 hxs
  go_wp2
  go_loopw [8] (fun i wr => ∃ ar : Nat, ar ≤ 3 ∧ i = .int .i64 (ar : Int) ∧ Below w3.heap.size w3 wr) (fun i _ => 8 - (intOf i).toNat)
  case atStart => exact ⟨0, by omega, rfl, Below.refl _ _⟩
  case round =>
    rename World => wa
    obtain ⟨ar, har, rfl, ba⟩ := hrel
    by_cases hla : ar ≤ 2
    · have hla' : (ar : Int) ≤ 2 := by omega
      go_wp2
      go_loopw [9] (fun i wr => ∃ v : Nat, 1 ≤ v ∧ v ≤ N + 1 ∧ i = .int .i64 (v : Int) ∧ Below w3.heap.size w3 wr) (fun i _ => 8 - (intOf i).toNat)
      case atStart => exact ⟨1, by omega, by omega, rfl, ba⟩
      case round =>
        rename World => wb
        obtain ⟨v, hv1, hv2, rfl, bb⟩ := hrel
        have hxb := (bb.block _ (lt_of_heap HX3.out)).trans HX3.out
        have e0 := cells_at hxb 0
        simp at e0
        have HXB := hide hxb
        clear hxb
        by_cases hlv : v ≤ N
        · have hlv' : (v : Int) ≤ (N : Int) := by omega
          go_wp2_with fail
          refine (HWI.out (ar : Int) (v : Int) _ bb).mono ?_
          rintro e w4 ⟨u4, ws, rfl, hws, hwo, b4⟩
          obtain ⟨ua, uc, rfl⟩ := owns_lenS hwo.row
          have bb4 : Below w3.heap.size w3 w4 := bb.trans (b4.mono bb.size)
          have hwt : totW ws ≤ 42 := ways_tot hws.eq
          have hwl := totW_len ws
          have HWY := hide hws
          have HWO := hide hwo
          have HFB := hide (ways_some HS.out ⟨hv1, by omega⟩ hws)
          have hlw : (fstsW ws).length = ws.length := by simp [fstsW]
          rw [hlw] at HFB
          have hx4 := (b4.block _ (lt_of_heap HXB.out)).trans HXB.out
          have HX4 := hide hx4
          clear hws hwo b4 hlw hx4 e0 HXB bb
          go_wp2_with fail
          refine (HFI.out (ar : Int) (v : Int) _ bb4).mono ?_
          rintro e w5 ⟨u5, rfl, hu5, b5⟩
          have HFB2 := hide (show findB xs ⟨(ar : Int), 1, (v : Int), 0, 0, [], 0, false⟩ = decide ((0 : Int) < (ws.length : Int)) by
            have h := HFB.out
            unfold nodeR at h
            rw [← h]
            exact decide_eq_decide.2 (by omega))
          rw [HFB2.out]
          obtain ⟨D, hD⟩ : ∃ D, D = findD xs ⟨(ar : Int), 1, (v : Int), 0, 0, [], 0, false⟩ := ⟨_, rfl⟩
          rw [← hD] at hu5 ⊢
          obtain ⟨da, dc, rfl⟩ := owns_lenS hu5
          have bb5 : Below w3.heap.size w3 w5 := bb4.trans (b5.mono bb4.size)
          have HWO5 := hide (HWO.out.below b5 (Nat.le_refl _))
          have hx5 := (b5.block _ (lt_of_heap HX4.out)).trans HX4.out
          have HX5 := hide hx5
          have BA5 := (Below.refl w5.heap.size w5).alloc (Nat.le_refl _) (.cells #[.int .i64 D.area, .int .i64 D.kind, .int .i64 D.owner, .int .i64 D.key, .int .i64 D.seq, .slice da D.near.length dc, .int .i64 D.cost, .bool D.far] 39)
          have hs45 := b5.size
          clear hu5 hx5 HX4 HFB HFB2 HWO hD b5 bb4
          go_wp2
          go_loopw [13] (fun i wr => ∃ j : Nat, j ≤ ws.length ∧ i = .int .i64 (j : Int) ∧ Below w5.heap.size w5 wr) (fun i _ => 50 - (intOf i).toNat)
          case atStart => exact ⟨0, by omega, rfl, BA5⟩
          case round =>
            rename World => wq
            obtain ⟨j, hj, rfl, bc⟩ := hrel
            clear BA5
            have bc3 : Below w3.heap.size w3 wq := bb5.trans (bc.mono bb5.size)
            have hszc := bc.size
            have HXC := hide ((bc.block _ (lt_of_heap HX5.out)).trans HX5.out)
            by_cases hlj : j < ws.length
            · obtain ⟨p, hp⟩ : ∃ p, ws[j]? = some p := ⟨ws[j], List.getElem?_eq_getElem hlj⟩
              obtain ⟨g, off, cap', hve, hgb, c0, c1, c2, hpn⟩ := HWO5.out.at.cells j p hp
              cases hve
              obtain ⟨pa, pc, hp2⟩ := hpn.shape
              rw [hp2] at c2
              have hpm : p.1 ∈ fstsW ws := List.mem_map_of_mem (List.mem_of_getElem? hp)
              obtain ⟨hzz, t, ht1, ht6, hto⟩ := ways_zero HWY.out hpm
              rw [hto] at c0
              rw [← bc.cell (p := ⟨g, off + j * 3, none⟩) (by show g < w5.heap.size; omega)] at c0
              rw [← bc.cell (p := ⟨g, off + j * 3 + 1, none⟩) (by show g < w5.heap.size; omega)] at c1
              rw [← bc.cell (p := ⟨g, off + j * 3 + 2, none⟩) (by show g < w5.heap.size; omega)] at c2
              have hgc : g < wq.heap.size := by omega
              obtain ⟨bz, hz1, hz2⟩ : ∃ bz : Bool, (p.1.cost == 0) = bz ∧ (((t : Int)) == (v : Int)) = bz := by
                refine ⟨(p.1.cost == 0), rfl, ?_⟩
                rw [hto] at hzz
                cases e : (p.1.cost == 0) with
                | true => simpa using hzz.1 (by simpa using e)
                | false => simpa using fun h => (by simpa using e : ¬ p.1.cost = 0) (hzz.2 h)
              have hlj' : (j : Int) < (ws.length : Int) := by omega
              have hj00 : (0 : Int) ≤ (j : Int) := by omega
              have HBX := hide (show (wq.alloc (.cells #[.int .i64 (t : Int), .int .i64 p.1.cost, .slice pa p.1.hops.length pc] 73)).heap[wq.heap.size]? = some (.cells #[.int .i64 (t : Int), .int .i64 p.1.cost, .slice pa p.1.hops.length pc] 73) from heap_alloc_new wq _)
              have HBB := hide ((Below.refl wq.heap.size wq).alloc (Nat.le_refl _) (.cells #[.int .i64 (t : Int), .int .i64 p.1.cost, .slice pa p.1.hops.length pc] 73))
              have HPM := hide hpm
              have HTO := hide hto
              have HHO := hide ((HWO5.out.nears p (List.mem_of_getElem? hp)).wide (Nat.le_refl _) hs45)
              have hcost : 0 ≤ p.1.cost ∧ p.1.cost ≤ 6000 := by
                have h := (waysD_asc xs (ar : Int) (v : Int)).2 p.1 (by rw [← HWY.out.eq]; exact hpm)
                exact ⟨h.1.cost.1, h.2⟩
              have hprev : ∀ (m : Nat) (q : WP), ws[m]? = some q → m < j → q.1.to < (t : Int) := by
                intro m q hq hmj
                have hasc : AscW (fstsW ws) := by rw [HWY.out.eq]; exact (waysD_asc xs (ar : Int) (v : Int)).1
                rw [← hto]
                obtain ⟨hm, e1⟩ := List.getElem?_eq_some_iff.1 hq
                obtain ⟨hj2, e2⟩ := List.getElem?_eq_some_iff.1 hp
                have := List.pairwise_iff_getElem.1 hasc m j (by simpa [fstsW] using hm) (by simpa [fstsW] using hj2) hmj
                simpa [fstsW, e1, e2] using this
              have HPR := hide hprev
              have HP2 := hide hp2
              have HPJ := hide hp
              clear hpm hto hprev hzz hpn hp2 hp
              obtain ⟨w6, hw6⟩ : ∃ W, W = wq.alloc (.cells #[.int .i64 (t : Int), .int .i64 p.1.cost, .slice pa p.1.hops.length pc] 73) := ⟨_, rfl⟩
              rw [← hw6] at HBX HBB
              have k0 := cells_at HBX.out 0
              have k1 := cells_at HBX.out 1
              have k2 := cells_at HBX.out 2
              simp at k0 k1 k2
              have hnz : decide (p.1.cost = 0) = decide (t = v) := by
                have h := hz1.trans hz2.symm
                rw [Bool.eq_iff_iff] at h
                simp only [beq_iff_eq] at h
                exact decide_eq_decide.2 ⟨fun e => by have := h.1 e; omega, fun e => h.2 (by rw [e])⟩
              have hnz2 : decide (p.1.cost = 0) = decide ((t : Int) = (v : Int)) := by
                rw [hnz]
                exact decide_eq_decide.2 ⟨fun e => by rw [e], fun e => by omega⟩
              rcases (show j = 0 ∨ ∃ m, j = m + 1 by cases j with
                | zero => exact .inl rfl
                | succ m => exact .inr ⟨m, rfl⟩) with hj0 | ⟨m, hm⟩
              · have hjn : decide ((0 : Int) < (j : Int)) = false := decide_eq_false (by omega)
                have hjn2 : decide (0 < j) = false := decide_eq_false (by omega)
                clear hj0
                go_wp2
                rw [← hw6]
                clear hw6
                go_quiet (fail)
                clear hjn hjn2
                have B7 : Below wq.heap.size wq (w6.drewN nq) := bdrewW HBB.out
                have hx7 : (w6.drewN nq).heap[wq.heap.size]? = some (.cells #[.int .i64 (t : Int), .int .i64 p.1.cost, .slice pa p.1.hops.length pc] 73) := HBX.out
                generalize w6.drewN nq = w7 at B7 hx7 ⊢
                have HX7 := hide hx7
                have HXN := hide ((B7.block _ (lt_of_heap HXC.out)).trans HXC.out)
                have BW7 : Below w3.heap.size w3 w7 := bc3.trans (B7.mono bc3.size)
                have HWO7 := hide ((HWO5.out.below bc (by omega)).below B7 (by omega))
                clear hx7 k0 k1 k2 HBX HBB c0 c1 c2
                go_wp2
                go_loopw [15] (fun i wr => ∃ u : Nat, 1 ≤ u ∧ u ≤ N + 1 ∧ i = .int .i64 (u : Int) ∧ Below w7.heap.size w7 wr) (fun i _ => 8 - (intOf i).toNat)
                case atStart => exact ⟨1, by omega, by omega, rfl, Below.refl _ _⟩
                case round =>
                  rename World => wd
                  obtain ⟨u, hu1, hu2, rfl, bd⟩ := hrel
                  have hxn := (bd.block _ (lt_of_heap HXN.out)).trans HXN.out
                  have n0 := cells_at hxn 0
                  have hxw := (bd.block _ (lt_of_heap HX7.out)).trans HX7.out
                  have k0 := cells_at hxw 0
                  have k1 := cells_at hxw 1
                  simp at n0 k0 k1
                  have bd3 : Below w3.heap.size w3 wd := BW7.trans (bd.mono BW7.size)
                  by_cases hlu : u ≤ N
                  · have hlu' : (u : Int) ≤ (N : Int) := by omega
                    have HLK := hide (HLI.out (ar : Int) (t : Int) (u : Int) _ bd3)
                    rw [linked_right HS.out (ar : Int) ⟨ht1, ht6⟩ ⟨hu1, by omega⟩] at HLK
                    obtain ⟨l, hl⟩ : ∃ l, l = linkN xs (ar : Int) t u := ⟨_, rfl⟩
                    rw [← hl] at HLK
                    have HL := hide hl
                    clear hl
                    go_wp2_with fail
                    refine HLK.out.mono ?_
                    rintro e w8 ⟨rfl, b8⟩
                    have hxw8 := (b8.block _ (lt_of_heap hxw)).trans hxw
                    have hxn8 := (b8.block _ (lt_of_heap hxn)).trans hxn
                    have bd8 := bd.trans (b8.mono bd.size)
                    have HWT := hide (iwayTo_any (.slice (some ⟨g, off, none⟩) ws.length uc) ws _ _ (u : Int) w8 (HWO7.out.below bd8 (by have := B7.size; omega)) (by have := bd8.size; have := B7.size; omega) (by omega))
                    obtain ⟨D, hD⟩ : ∃ D, D = wayToD (fstsW ws) (u : Int) := ⟨_, rfl⟩
                    rw [← hD] at HWT
                    clear n0 k0 k1
                    go_wp2_with fail
                    refine HWT.out.mono ?_
                    rintro e w9 ⟨u9, rfl, o9, b9⟩
                    obtain ⟨ea, ec, rfl⟩ := owns_lenS o9
                    have hxw9 := (b9.block _ (lt_of_heap hxw8)).trans hxw8
                    have k0 := cells_at hxw9 0
                    have k1 := cells_at hxw9 1
                    simp at k0 k1
                    have hk9 := lt_of_heap hxw9
                    have bd9 := bd8.trans (b9.mono bd8.size)
                    have BD9 := hide (bd9.alloc bd9.size (.cells #[.int .i64 D.to, .int .i64 D.cost, .slice ea D.hops.length ec] 73))
                    clear o9 b9 b8 hxw hxn hxw8 hxn8 hxw9 HWT HLK
                    unfold wayC
                    by_cases h0 : 0 < l
                    · obtain ⟨i1, i2⟩ := ways_link HWY.out HPM.out HTO.out ⟨hu1, by omega⟩ (by rw [← HL.out]; exact h0)
                      rw [i1]
                      rw [← hD, ← HL.out] at i2
                      have hl1 : l ≤ 1000 := by rw [HL.out]; exact (linkN_links HS.out).le _ _
                      have i3 : ¬ p.1.cost + l < D.cost := by omega
                      clear hD i1
                      go_wp2
                      go_roundw
                      case rel => exact ⟨u + 1, by omega, by omega, by go_num, BD9.out⟩
                      case measure => simp [intOf]; omega
                    · clear hD
                      go_wp2
                      go_roundw
                      case rel => exact ⟨u + 1, by omega, by omega, by go_num, BD9.out⟩
                      case measure => simp [intOf]; omega
                  · have hlu' : ¬ (u : Int) ≤ (N : Int) := by omega
                    have HXD := hide hxw
                    have HXM := hide hxn
                    have HHD := hide (HHO.out.keep (W' := wd) (fun i _ h2 h3 => by rw [bd.block i (by have := B7.size; omega), B7.block i (by omega), bc.block i h3]))
                    clear hxw hxn k0 k1 hlu hu2
                    go_wp2
                    go_loopw [19] (fun i wr => ∃ u : Nat, 1 ≤ u ∧ u ≤ N + 1 ∧ i = .int .i64 (u : Int) ∧ Below wd.heap.size wd wr) (fun i _ => 8 - (intOf i).toNat)
                    case atStart => exact ⟨1, by omega, by omega, rfl, Below.refl _ _⟩
                    case round =>
                      rename World => we
                      obtain ⟨u, hu1, hu2, rfl, be⟩ := hrel
                      have hxm := (be.block _ (lt_of_heap HXM.out)).trans HXM.out
                      have n0 := cells_at hxm 0
                      have hxe := (be.block _ (lt_of_heap HXD.out)).trans HXD.out
                      simp at n0
                      have be3 : Below w3.heap.size w3 we := bd3.trans (be.mono bd3.size)
                      by_cases hlu : u ≤ N
                      · have hlu' : (u : Int) ≤ (N : Int) := by omega
                        have HLK := hide (HLS.out (ar : Int) (v : Int) (u : Int) _ be3)
                        rw [linkedD_right HS.out (ar : Int) ⟨hv1, by omega⟩ ⟨hu1, by omega⟩] at HLK
                        obtain ⟨l, hl⟩ : ∃ l, l = linkN xs (ar : Int) v u := ⟨_, rfl⟩
                        rw [← hl] at HLK
                        have HL := hide hl
                        clear hl
                        go_wp2_with fail
                        refine HLK.out.mono ?_
                        rintro e w8 ⟨rfl, b8⟩
                        have hxw8 := (b8.block _ (lt_of_heap hxe)).trans hxe
                        have k0 := cells_at hxw8 0
                        have k1 := cells_at hxw8 1
                        have k2 := cells_at hxw8 2
                        simp at k0 k1 k2
                        have hk8 := lt_of_heap hxw8
                        have be8 := be.trans (b8.mono be.size)
                        have be38 : Below w3.heap.size w3 w8 := be3.trans (b8.mono be3.size)
                        have be38d : Below w3.heap.size w3 w8.drew := be38.drew
                        have HX8 := hide hxw8
                        clear hxm hxe b8 n0 HLK hxw8
                        go_wp2
                        have kk0 : w8.drew.cell? ⟨wq.heap.size, 0, none⟩ = some (.int .i64 (t : Int)) := k0
                        obtain ⟨LL, hLL⟩ : ∃ LL, LL = waysD xs (ar : Int) (u : Int) := ⟨_, rfl⟩
                        have HD1 := hide (show ∀ W, Below w8.heap.size w8.drew W → Calls Tryz.prog 44 #[.slice oa qs.length oc, .int .i64 (ar : Int), .int .i64 (u : Int)] W fun e w' => ∃ x qs, e = .returned x ∧ IsWays xs (ar : Int) (u : Int) LL ∧ fstsW qs = LL ∧ WaysOwn w' W.heap.size w'.heap.size x qs ∧ Below W.heap.size W w' from fun W hb => by
                          refine (HWS.out (ar : Int) (u : Int) W (be38d.trans (hb.mono be38.size))).mono ?_
                          rintro e w' ⟨x1, es, h1, h2, h3, h4⟩
                          exact ⟨x1, es, h1, by rw [hLL, ← h2.eq]; exact h2, by rw [hLL]; exact h2.eq, h3, h4⟩)
                        have HD2 := hide (fun v qs lo hi W (hf : fstsW qs = LL) (hv : WaysOwn W lo hi v qs) (hh : hi ≤ W.heap.size) => by have h := swayTo_any v qs lo hi (t : Int) W hv hh (by have := ways_tot (hf.trans hLL); omega); rw [hf] at h; exact h)
                        obtain ⟨D, hD⟩ : ∃ D, D = wayToD LL (t : Int) := ⟨_, rfl⟩
                        obtain ⟨F, hF⟩ : ∃ F, F = wayToB LL (t : Int) := ⟨_, rfl⟩
                        rw [← hD, ← hF] at HD2
                        have HDC := hide (show F = true → 0 ≤ D.cost ∧ D.cost ≤ 6000 from fun hf => by
                          have hm := wayTo_mem (by rw [← hF]; exact hf)
                          rw [← hD, hLL] at hm
                          have h := (waysD_asc xs (ar : Int) (u : Int)).2 D hm
                          exact ⟨h.1.cost.1, h.2⟩)
                        have HLL := hide hLL
                        have HDD := hide hD
                        have HFF := hide hF
                        clear hLL hD hF
                        try clear HWS
                        try clear HWI
                        try clear HLI
                        try clear HFI
                        try clear HLS
                        try clear HX3
                        try clear HB3
                        try clear HWO5
                        try clear HX5
                        try clear HXC
                        try clear HHO
                        try clear HPR
                        try clear HWO7
                        try clear HX7
                        try clear HXN
                        try clear HXD
                        try clear HXM
                        try clear bc3
                        try clear B7
                        try clear bd3
                        try clear be3
                        try clear BW7
                        try clear bb5
                        try clear bc
                        try clear bd
                        try clear be
                        try clear hcost
                        try clear hzz
                        try clear ht1x
                        try clear hgc
                        try clear c0
                        try clear c1
                        try clear c2
                        try clear hszc
                        try clear hlj
                        try clear hlj'
                        try clear hj00
                        try clear hs45
                        try clear hj
                        try clear hv2
                        try clear hv1x
                        try clear hlv
                        try clear hlv'
                        try clear hla
                        try clear hla'
                        try clear har
                        go_wp2_with fail
                        refine wp_region_noPanic ?_
                        refine wp_region_start (S := (fun W => W.cell? ⟨wq.heap.size, 0, none⟩ = some (.int .i64 (t : Int)))) (by kernel_rfl) 13 rfl kk0 (fun ops hops hHeld => ?_)
                        refine take_do 0 (oi := ?_) (v := ?_) ?_ (by rw [hops.out]; kernel_rfl) ?_ ?_ ?_ (by assumption) ?_
                        rotate_left 2
                        · rw [hops.out]; simp only [List.getElem?_toArray, List.getElem?_cons_succ, List.getElem?_cons_zero]; rfl
                        · rw [hops.out]; kernel_rfl
                        · intro W hW; (try dsimp only at hW); go_simp <;> with_reducible rfl
                        · exact fun _ _ _ h => h
                        try simp only [Act.put, List.setIfInBounds_toArray, List.set_cons_zero, List.set_cons_succ]
                        refine take_do 1 (oi := ?_) (v := ?_) ?_ (by rw [hops.out]; kernel_rfl) ?_ ?_ ?_ (by assumption) ?_
                        rotate_left 2
                        · rw [hops.out]; simp only [List.getElem?_toArray, List.getElem?_cons_succ, List.getElem?_cons_zero]; rfl
                        · rw [hops.out]; kernel_rfl
                        · intro W hW; (try dsimp only at hW); go_simp <;> with_reducible rfl
                        · exact fun _ _ _ h => h
                        try simp only [Act.put, List.setIfInBounds_toArray, List.set_cons_zero, List.set_cons_succ]
                        refine take_do 2 (oi := ?_) (v := ?_) ?_ (by rw [hops.out]; kernel_rfl) ?_ ?_ ?_ (by assumption) ?_
                        rotate_left 2
                        · rw [hops.out]; simp only [List.getElem?_toArray, List.getElem?_cons_succ, List.getElem?_cons_zero]; rfl
                        · rw [hops.out]; kernel_rfl
                        · intro W hW; (try dsimp only at hW); go_simp <;> with_reducible rfl
                        · exact fun _ _ _ h => h
                        try simp only [Act.put, List.setIfInBounds_toArray, List.set_cons_zero, List.set_cons_succ]
                        refine take_do 4 (oi := ?_) (v := ?_) ?_ (by rw [hops.out]; kernel_rfl) ?_ ?_ ?_ (by assumption) ?_
                        rotate_left 2
                        · rw [hops.out]; simp only [List.getElem?_toArray, List.getElem?_cons_succ, List.getElem?_cons_zero]; rfl
                        · rw [hops.out]; kernel_rfl
                        · intro W hW; (try dsimp only at hW); go_simp <;> with_reducible rfl
                        · exact fun _ _ _ h => h
                        try simp only [Act.put, List.setIfInBounds_toArray, List.set_cons_zero, List.set_cons_succ]
                        refine take_do 5 (oi := ?_) (v := ?_) ?_ (by rw [hops.out]; kernel_rfl) ?_ ?_ ?_ (by assumption) ?_
                        rotate_left 2
                        · rw [hops.out]; simp only [List.getElem?_toArray, List.getElem?_cons_succ, List.getElem?_cons_zero]; rfl
                        · rw [hops.out]; kernel_rfl
                        · intro W hW; (try dsimp only at hW); go_simp <;> with_reducible rfl
                        · exact fun _ _ _ h => h
                        try simp only [Act.put, List.setIfInBounds_toArray, List.set_cons_zero, List.set_cons_succ]
                        refine wys_dag D F LL (IsWays xs (ar : Int) (u : Int) LL) _ _ _ _ _ w8.heap.size w8.drew _ _ ops hops (Nat.le_refl _) ?_ HD1.out HD2.out ?_
                        · intro W hb
                          exact (hb.cell hk8).trans kk0
                        intro w10 vA ua' uc' z' b10 bx hlow hIW
                        clear hops ops hHeld kk0
                        have B10 : Below w8.heap.size w8 w10 := (Below.refl _ _).drew.trans b10
                        have hx10 := (B10.block _ (lt_of_heap HX8.out)).trans HX8.out
                        clear k0 k1 k2 b10
                        have k0 := cells_at hx10 0
                        have k1 := cells_at hx10 1
                        have k2 := cells_at hx10 2
                        have m1 := cells_at bx 1
                        simp at k0 k1 k2 m1
                        have be10 : Below wd.heap.size wd w10 := be8.trans (B10.mono be8.size)
                        cases bz with
                        | true =>
                          have hy1 : (t : Int) = (v : Int) := by simpa using hz2
                          have hn1 : ((t : Int) != (v : Int)) = false := by simp [hy1]
                          have hn2 : decide ((t : Int) = (v : Int)) = true := decide_eq_true hy1
                          have hn3 : decide (t = v) = true := decide_eq_true (by omega)
                          clear hy1
                          go_wp2
                          go_roundw
                          case rel => exact ⟨u + 1, by omega, by omega, by go_num, be10⟩
                          case measure => simp [intOf]; omega
                        | false =>
                          have HH10 := hide (HHD.out.keep (W' := w10) (fun i _ h2 h3 => be10.block i h3))
                          have hio := HH10.out.1
                          rw [HP2.out, flat_int] at hio
                          have HIN := hide (lin_any _ _ p.1.hops (u : Int) w10 hio (by have := totW_mem (List.mem_of_getElem? HPJ.out); omega))
                          have hne : ¬ (t : Int) = (v : Int) := by simpa using hz2
                          have HI := hide (show decide ((u : Int) ∈ p.1.hops) = (decide (0 < l) && (F && decide (l + D.cost = p.1.cost))) by
                            have h := ways_hop HS.out HWY.out HPM.out (by rw [HTO.out]; exact hne) ⟨hu1, by omega⟩ hIW
                            rw [HTO.out, ← HDD.out, ← HFF.out, ← HL.out] at h
                            rw [Bool.eq_iff_iff]
                            simp only [decide_eq_true_eq, Bool.and_eq_true]
                            exact h)
                          obtain ⟨I, hI⟩ : ∃ I, I = decide ((u : Int) ∈ p.1.hops) := ⟨_, rfl⟩
                          rw [← hI] at HIN HI
                          clear hI hio hx10 bx HX8 HD1 HD2
                          have hl1 : l ≤ 1000 := by rw [HL.out]; exact (linkN_links HS.out).le _ _
                          have hn1 : ((t : Int) != (v : Int)) = true := by simpa using hne
                          have hn2 : (!decide ((t : Int) = (v : Int))) = true := by simpa using hne
                          go_wp2_with fail
                          refine HIN.out.mono ?_
                          rintro e w11 ⟨rfl, rfl⟩
                          by_cases h0 : 0 < l
                          · have hd0 : decide (0 < l) = true := decide_eq_true h0
                            cases F with
                            | false =>
                              have hI2 : I = false := by rw [HI.out, hd0]; rfl
                              subst hI2
                              go_wp2
                              go_roundw
                              case rel => exact ⟨u + 1, by omega, by omega, by go_num, be10⟩
                              case measure => simp [intOf]; omega
                            | true =>
                              obtain ⟨c0, c6⟩ := HDC.out rfl
                              have hwr : IntKind.i64.wrap (l + D.cost) = l + D.cost := wrap_fit _ (by omega) (by omega)
                              by_cases he : l + D.cost = p.1.cost
                              · have hI2 : I = true := by rw [HI.out, hd0, decide_eq_true he]; rfl
                                have he1 : (l + D.cost == p.1.cost) = true := by simpa using he
                                have he2 : decide (l + D.cost = p.1.cost) = true := decide_eq_true he
                                subst hI2
                                clear he
                                go_wp2
                                go_roundw
                                case rel => exact ⟨u + 1, by omega, by omega, by go_num, be10⟩
                                case measure => simp [intOf]; omega
                              · have hI2 : I = false := by rw [HI.out, hd0, decide_eq_false he]; rfl
                                have he1 : (l + D.cost == p.1.cost) = false := by simpa using he
                                have he2 : decide (l + D.cost = p.1.cost) = false := decide_eq_false he
                                subst hI2
                                clear he
                                go_wp2
                                go_roundw
                                case rel => exact ⟨u + 1, by omega, by omega, by go_num, be10⟩
                                case measure => simp [intOf]; omega
                          · have hd0 : decide (0 < l) = false := decide_eq_false h0
                            have hI2 : I = false := by rw [HI.out, hd0]; rfl
                            subst hI2
                            go_wp2
                            go_roundw
                            case rel => exact ⟨u + 1, by omega, by omega, by go_num, be10⟩
                            case measure => simp [intOf]; omega
                      · have hlu' : ¬ (u : Int) ≤ (N : Int) := by omega
                        have bcj : Below w5.heap.size w5 we := bc.trans ((B7.trans ((bd.trans (be.mono bd.size)).mono B7.size)).mono hszc)
                        go_wp2
                        go_roundw
                        case rel => exact ⟨j + 1, by omega, by go_num, bcj⟩
                        case measure => simp [intOf]; omega
              · obtain ⟨q, hq⟩ : ∃ q, ws[m]? = some q := ⟨ws[m]'(by omega), List.getElem?_eq_getElem (by omega)⟩
                obtain ⟨g', off', cap'', hve', hgb', d0, _, _, _⟩ := HWO5.out.at.cells m q hq
                cases hve'
                rw [← bc.cell (p := ⟨g, off + m * 3, none⟩) (by show g < w5.heap.size; omega), ← HBB.out.cell (p := ⟨g, off + m * 3, none⟩) hgc] at d0
                have hlt := HPR.out m q hq (by omega)
                have hnge : ¬ (t : Int) ≤ q.1.to := by omega
                have hjp : decide ((0 : Int) < (j : Int)) = true := decide_eq_true (by omega)
                have hjp2 : decide (0 < j) = true := decide_eq_true (by omega)
                have hjm : (j : Int) - 1 = (m : Int) := by omega
                have hwm : IntKind.i64.wrap (m : Int) = (m : Int) := wrap_fit _ (by omega) (by omega)
                have hng : decide ((t : Int) ≤ q.1.to) = false := decide_eq_false hnge
                have hml : (m : Int) < (ws.length : Int) := by omega
                have hm0 : (0 : Int) ≤ (m : Int) := by omega
                clear hq hgb' hnge hlt hm
                go_wp2
                rw [← hw6]
                clear hw6
                go_quiet (fail)
                clear hjp hjp2 hjm hwm hng hml hm0 d0
                have B7 : Below wq.heap.size wq (w6.drewN nq) := bdrewW HBB.out
                have hx7 : (w6.drewN nq).heap[wq.heap.size]? = some (.cells #[.int .i64 (t : Int), .int .i64 p.1.cost, .slice pa p.1.hops.length pc] 73) := HBX.out
                generalize w6.drewN nq = w7 at B7 hx7 ⊢
                have HX7 := hide hx7
                have HXN := hide ((B7.block _ (lt_of_heap HXC.out)).trans HXC.out)
                have BW7 : Below w3.heap.size w3 w7 := bc3.trans (B7.mono bc3.size)
                have HWO7 := hide ((HWO5.out.below bc (by omega)).below B7 (by omega))
                clear hx7 k0 k1 k2 HBX HBB c0 c1 c2
                go_wp2
                go_loopw [15] (fun i wr => ∃ u : Nat, 1 ≤ u ∧ u ≤ N + 1 ∧ i = .int .i64 (u : Int) ∧ Below w7.heap.size w7 wr) (fun i _ => 8 - (intOf i).toNat)
                case atStart => exact ⟨1, by omega, by omega, rfl, Below.refl _ _⟩
                case round =>
                  rename World => wd
                  obtain ⟨u, hu1, hu2, rfl, bd⟩ := hrel
                  have hxn := (bd.block _ (lt_of_heap HXN.out)).trans HXN.out
                  have n0 := cells_at hxn 0
                  have hxw := (bd.block _ (lt_of_heap HX7.out)).trans HX7.out
                  have k0 := cells_at hxw 0
                  have k1 := cells_at hxw 1
                  simp at n0 k0 k1
                  have bd3 : Below w3.heap.size w3 wd := BW7.trans (bd.mono BW7.size)
                  by_cases hlu : u ≤ N
                  · have hlu' : (u : Int) ≤ (N : Int) := by omega
                    have HLK := hide (HLI.out (ar : Int) (t : Int) (u : Int) _ bd3)
                    rw [linked_right HS.out (ar : Int) ⟨ht1, ht6⟩ ⟨hu1, by omega⟩] at HLK
                    obtain ⟨l, hl⟩ : ∃ l, l = linkN xs (ar : Int) t u := ⟨_, rfl⟩
                    rw [← hl] at HLK
                    have HL := hide hl
                    clear hl
                    go_wp2_with fail
                    refine HLK.out.mono ?_
                    rintro e w8 ⟨rfl, b8⟩
                    have hxw8 := (b8.block _ (lt_of_heap hxw)).trans hxw
                    have hxn8 := (b8.block _ (lt_of_heap hxn)).trans hxn
                    have bd8 := bd.trans (b8.mono bd.size)
                    have HWT := hide (iwayTo_any (.slice (some ⟨g, off, none⟩) ws.length uc) ws _ _ (u : Int) w8 (HWO7.out.below bd8 (by have := B7.size; omega)) (by have := bd8.size; have := B7.size; omega) (by omega))
                    obtain ⟨D, hD⟩ : ∃ D, D = wayToD (fstsW ws) (u : Int) := ⟨_, rfl⟩
                    rw [← hD] at HWT
                    clear n0 k0 k1
                    go_wp2_with fail
                    refine HWT.out.mono ?_
                    rintro e w9 ⟨u9, rfl, o9, b9⟩
                    obtain ⟨ea, ec, rfl⟩ := owns_lenS o9
                    have hxw9 := (b9.block _ (lt_of_heap hxw8)).trans hxw8
                    have k0 := cells_at hxw9 0
                    have k1 := cells_at hxw9 1
                    simp at k0 k1
                    have hk9 := lt_of_heap hxw9
                    have bd9 := bd8.trans (b9.mono bd8.size)
                    have BD9 := hide (bd9.alloc bd9.size (.cells #[.int .i64 D.to, .int .i64 D.cost, .slice ea D.hops.length ec] 73))
                    clear o9 b9 b8 hxw hxn hxw8 hxn8 hxw9 HWT HLK
                    unfold wayC
                    by_cases h0 : 0 < l
                    · obtain ⟨i1, i2⟩ := ways_link HWY.out HPM.out HTO.out ⟨hu1, by omega⟩ (by rw [← HL.out]; exact h0)
                      rw [i1]
                      rw [← hD, ← HL.out] at i2
                      have hl1 : l ≤ 1000 := by rw [HL.out]; exact (linkN_links HS.out).le _ _
                      have i3 : ¬ p.1.cost + l < D.cost := by omega
                      clear hD i1
                      go_wp2
                      go_roundw
                      case rel => exact ⟨u + 1, by omega, by omega, by go_num, BD9.out⟩
                      case measure => simp [intOf]; omega
                    · clear hD
                      go_wp2
                      go_roundw
                      case rel => exact ⟨u + 1, by omega, by omega, by go_num, BD9.out⟩
                      case measure => simp [intOf]; omega
                  · have hlu' : ¬ (u : Int) ≤ (N : Int) := by omega
                    have HXD := hide hxw
                    have HXM := hide hxn
                    have HHD := hide (HHO.out.keep (W' := wd) (fun i _ h2 h3 => by rw [bd.block i (by have := B7.size; omega), B7.block i (by omega), bc.block i h3]))
                    clear hxw hxn k0 k1 hlu hu2
                    go_wp2
                    go_loopw [19] (fun i wr => ∃ u : Nat, 1 ≤ u ∧ u ≤ N + 1 ∧ i = .int .i64 (u : Int) ∧ Below wd.heap.size wd wr) (fun i _ => 8 - (intOf i).toNat)
                    case atStart => exact ⟨1, by omega, by omega, rfl, Below.refl _ _⟩
                    case round =>
                      rename World => we
                      obtain ⟨u, hu1, hu2, rfl, be⟩ := hrel
                      have hxm := (be.block _ (lt_of_heap HXM.out)).trans HXM.out
                      have n0 := cells_at hxm 0
                      have hxe := (be.block _ (lt_of_heap HXD.out)).trans HXD.out
                      simp at n0
                      have be3 : Below w3.heap.size w3 we := bd3.trans (be.mono bd3.size)
                      by_cases hlu : u ≤ N
                      · have hlu' : (u : Int) ≤ (N : Int) := by omega
                        have HLK := hide (HLS.out (ar : Int) (v : Int) (u : Int) _ be3)
                        rw [linkedD_right HS.out (ar : Int) ⟨hv1, by omega⟩ ⟨hu1, by omega⟩] at HLK
                        obtain ⟨l, hl⟩ : ∃ l, l = linkN xs (ar : Int) v u := ⟨_, rfl⟩
                        rw [← hl] at HLK
                        have HL := hide hl
                        clear hl
                        go_wp2_with fail
                        refine HLK.out.mono ?_
                        rintro e w8 ⟨rfl, b8⟩
                        have hxw8 := (b8.block _ (lt_of_heap hxe)).trans hxe
                        have k0 := cells_at hxw8 0
                        have k1 := cells_at hxw8 1
                        have k2 := cells_at hxw8 2
                        simp at k0 k1 k2
                        have hk8 := lt_of_heap hxw8
                        have be8 := be.trans (b8.mono be.size)
                        have be38 : Below w3.heap.size w3 w8 := be3.trans (b8.mono be3.size)
                        have be38d : Below w3.heap.size w3 w8.drew := be38.drew
                        have HX8 := hide hxw8
                        clear hxm hxe b8 n0 HLK hxw8
                        go_wp2
                        have kk0 : w8.drew.cell? ⟨wq.heap.size, 0, none⟩ = some (.int .i64 (t : Int)) := k0
                        obtain ⟨LL, hLL⟩ : ∃ LL, LL = waysD xs (ar : Int) (u : Int) := ⟨_, rfl⟩
                        have HD1 := hide (show ∀ W, Below w8.heap.size w8.drew W → Calls Tryz.prog 44 #[.slice oa qs.length oc, .int .i64 (ar : Int), .int .i64 (u : Int)] W fun e w' => ∃ x qs, e = .returned x ∧ IsWays xs (ar : Int) (u : Int) LL ∧ fstsW qs = LL ∧ WaysOwn w' W.heap.size w'.heap.size x qs ∧ Below W.heap.size W w' from fun W hb => by
                          refine (HWS.out (ar : Int) (u : Int) W (be38d.trans (hb.mono be38.size))).mono ?_
                          rintro e w' ⟨x1, es, h1, h2, h3, h4⟩
                          exact ⟨x1, es, h1, by rw [hLL, ← h2.eq]; exact h2, by rw [hLL]; exact h2.eq, h3, h4⟩)
                        have HD2 := hide (fun v qs lo hi W (hf : fstsW qs = LL) (hv : WaysOwn W lo hi v qs) (hh : hi ≤ W.heap.size) => by have h := swayTo_any v qs lo hi (t : Int) W hv hh (by have := ways_tot (hf.trans hLL); omega); rw [hf] at h; exact h)
                        obtain ⟨D, hD⟩ : ∃ D, D = wayToD LL (t : Int) := ⟨_, rfl⟩
                        obtain ⟨F, hF⟩ : ∃ F, F = wayToB LL (t : Int) := ⟨_, rfl⟩
                        rw [← hD, ← hF] at HD2
                        have HDC := hide (show F = true → 0 ≤ D.cost ∧ D.cost ≤ 6000 from fun hf => by
                          have hm := wayTo_mem (by rw [← hF]; exact hf)
                          rw [← hD, hLL] at hm
                          have h := (waysD_asc xs (ar : Int) (u : Int)).2 D hm
                          exact ⟨h.1.cost.1, h.2⟩)
                        have HLL := hide hLL
                        have HDD := hide hD
                        have HFF := hide hF
                        clear hLL hD hF
                        try clear HWS
                        try clear HWI
                        try clear HLI
                        try clear HFI
                        try clear HLS
                        try clear HX3
                        try clear HB3
                        try clear HWO5
                        try clear HX5
                        try clear HXC
                        try clear HHO
                        try clear HPR
                        try clear HWO7
                        try clear HX7
                        try clear HXN
                        try clear HXD
                        try clear HXM
                        try clear bc3
                        try clear B7
                        try clear bd3
                        try clear be3
                        try clear BW7
                        try clear bb5
                        try clear bc
                        try clear bd
                        try clear be
                        try clear hcost
                        try clear hzz
                        try clear ht1x
                        try clear hgc
                        try clear c0
                        try clear c1
                        try clear c2
                        try clear hszc
                        try clear hlj
                        try clear hlj'
                        try clear hj00
                        try clear hs45
                        try clear hj
                        try clear hv2
                        try clear hv1x
                        try clear hlv
                        try clear hlv'
                        try clear hla
                        try clear hla'
                        try clear har
                        go_wp2_with fail
                        refine wp_region_noPanic ?_
                        refine wp_region_start (S := (fun W => W.cell? ⟨wq.heap.size, 0, none⟩ = some (.int .i64 (t : Int)))) (by kernel_rfl) 13 rfl kk0 (fun ops hops hHeld => ?_)
                        refine take_do 0 (oi := ?_) (v := ?_) ?_ (by rw [hops.out]; kernel_rfl) ?_ ?_ ?_ (by assumption) ?_
                        rotate_left 2
                        · rw [hops.out]; simp only [List.getElem?_toArray, List.getElem?_cons_succ, List.getElem?_cons_zero]; rfl
                        · rw [hops.out]; kernel_rfl
                        · intro W hW; (try dsimp only at hW); go_simp <;> with_reducible rfl
                        · exact fun _ _ _ h => h
                        try simp only [Act.put, List.setIfInBounds_toArray, List.set_cons_zero, List.set_cons_succ]
                        refine take_do 1 (oi := ?_) (v := ?_) ?_ (by rw [hops.out]; kernel_rfl) ?_ ?_ ?_ (by assumption) ?_
                        rotate_left 2
                        · rw [hops.out]; simp only [List.getElem?_toArray, List.getElem?_cons_succ, List.getElem?_cons_zero]; rfl
                        · rw [hops.out]; kernel_rfl
                        · intro W hW; (try dsimp only at hW); go_simp <;> with_reducible rfl
                        · exact fun _ _ _ h => h
                        try simp only [Act.put, List.setIfInBounds_toArray, List.set_cons_zero, List.set_cons_succ]
                        refine take_do 2 (oi := ?_) (v := ?_) ?_ (by rw [hops.out]; kernel_rfl) ?_ ?_ ?_ (by assumption) ?_
                        rotate_left 2
                        · rw [hops.out]; simp only [List.getElem?_toArray, List.getElem?_cons_succ, List.getElem?_cons_zero]; rfl
                        · rw [hops.out]; kernel_rfl
                        · intro W hW; (try dsimp only at hW); go_simp <;> with_reducible rfl
                        · exact fun _ _ _ h => h
                        try simp only [Act.put, List.setIfInBounds_toArray, List.set_cons_zero, List.set_cons_succ]
                        refine take_do 4 (oi := ?_) (v := ?_) ?_ (by rw [hops.out]; kernel_rfl) ?_ ?_ ?_ (by assumption) ?_
                        rotate_left 2
                        · rw [hops.out]; simp only [List.getElem?_toArray, List.getElem?_cons_succ, List.getElem?_cons_zero]; rfl
                        · rw [hops.out]; kernel_rfl
                        · intro W hW; (try dsimp only at hW); go_simp <;> with_reducible rfl
                        · exact fun _ _ _ h => h
                        try simp only [Act.put, List.setIfInBounds_toArray, List.set_cons_zero, List.set_cons_succ]
                        refine take_do 5 (oi := ?_) (v := ?_) ?_ (by rw [hops.out]; kernel_rfl) ?_ ?_ ?_ (by assumption) ?_
                        rotate_left 2
                        · rw [hops.out]; simp only [List.getElem?_toArray, List.getElem?_cons_succ, List.getElem?_cons_zero]; rfl
                        · rw [hops.out]; kernel_rfl
                        · intro W hW; (try dsimp only at hW); go_simp <;> with_reducible rfl
                        · exact fun _ _ _ h => h
                        try simp only [Act.put, List.setIfInBounds_toArray, List.set_cons_zero, List.set_cons_succ]
                        refine wys_dag D F LL (IsWays xs (ar : Int) (u : Int) LL) _ _ _ _ _ w8.heap.size w8.drew _ _ ops hops (Nat.le_refl _) ?_ HD1.out HD2.out ?_
                        · intro W hb
                          exact (hb.cell hk8).trans kk0
                        intro w10 vA ua' uc' z' b10 bx hlow hIW
                        clear hops ops hHeld kk0
                        have B10 : Below w8.heap.size w8 w10 := (Below.refl _ _).drew.trans b10
                        have hx10 := (B10.block _ (lt_of_heap HX8.out)).trans HX8.out
                        clear k0 k1 k2 b10
                        have k0 := cells_at hx10 0
                        have k1 := cells_at hx10 1
                        have k2 := cells_at hx10 2
                        have m1 := cells_at bx 1
                        simp at k0 k1 k2 m1
                        have be10 : Below wd.heap.size wd w10 := be8.trans (B10.mono be8.size)
                        cases bz with
                        | true =>
                          have hy1 : (t : Int) = (v : Int) := by simpa using hz2
                          have hn1 : ((t : Int) != (v : Int)) = false := by simp [hy1]
                          have hn2 : decide ((t : Int) = (v : Int)) = true := decide_eq_true hy1
                          have hn3 : decide (t = v) = true := decide_eq_true (by omega)
                          clear hy1
                          go_wp2
                          go_roundw
                          case rel => exact ⟨u + 1, by omega, by omega, by go_num, be10⟩
                          case measure => simp [intOf]; omega
                        | false =>
                          have HH10 := hide (HHD.out.keep (W' := w10) (fun i _ h2 h3 => be10.block i h3))
                          have hio := HH10.out.1
                          rw [HP2.out, flat_int] at hio
                          have HIN := hide (lin_any _ _ p.1.hops (u : Int) w10 hio (by have := totW_mem (List.mem_of_getElem? HPJ.out); omega))
                          have hne : ¬ (t : Int) = (v : Int) := by simpa using hz2
                          have HI := hide (show decide ((u : Int) ∈ p.1.hops) = (decide (0 < l) && (F && decide (l + D.cost = p.1.cost))) by
                            have h := ways_hop HS.out HWY.out HPM.out (by rw [HTO.out]; exact hne) ⟨hu1, by omega⟩ hIW
                            rw [HTO.out, ← HDD.out, ← HFF.out, ← HL.out] at h
                            rw [Bool.eq_iff_iff]
                            simp only [decide_eq_true_eq, Bool.and_eq_true]
                            exact h)
                          obtain ⟨I, hI⟩ : ∃ I, I = decide ((u : Int) ∈ p.1.hops) := ⟨_, rfl⟩
                          rw [← hI] at HIN HI
                          clear hI hio hx10 bx HX8 HD1 HD2
                          have hl1 : l ≤ 1000 := by rw [HL.out]; exact (linkN_links HS.out).le _ _
                          have hn1 : ((t : Int) != (v : Int)) = true := by simpa using hne
                          have hn2 : (!decide ((t : Int) = (v : Int))) = true := by simpa using hne
                          go_wp2_with fail
                          refine HIN.out.mono ?_
                          rintro e w11 ⟨rfl, rfl⟩
                          by_cases h0 : 0 < l
                          · have hd0 : decide (0 < l) = true := decide_eq_true h0
                            cases F with
                            | false =>
                              have hI2 : I = false := by rw [HI.out, hd0]; rfl
                              subst hI2
                              go_wp2
                              go_roundw
                              case rel => exact ⟨u + 1, by omega, by omega, by go_num, be10⟩
                              case measure => simp [intOf]; omega
                            | true =>
                              obtain ⟨c0, c6⟩ := HDC.out rfl
                              have hwr : IntKind.i64.wrap (l + D.cost) = l + D.cost := wrap_fit _ (by omega) (by omega)
                              by_cases he : l + D.cost = p.1.cost
                              · have hI2 : I = true := by rw [HI.out, hd0, decide_eq_true he]; rfl
                                have he1 : (l + D.cost == p.1.cost) = true := by simpa using he
                                have he2 : decide (l + D.cost = p.1.cost) = true := decide_eq_true he
                                subst hI2
                                clear he
                                go_wp2
                                go_roundw
                                case rel => exact ⟨u + 1, by omega, by omega, by go_num, be10⟩
                                case measure => simp [intOf]; omega
                              · have hI2 : I = false := by rw [HI.out, hd0, decide_eq_false he]; rfl
                                have he1 : (l + D.cost == p.1.cost) = false := by simpa using he
                                have he2 : decide (l + D.cost = p.1.cost) = false := decide_eq_false he
                                subst hI2
                                clear he
                                go_wp2
                                go_roundw
                                case rel => exact ⟨u + 1, by omega, by omega, by go_num, be10⟩
                                case measure => simp [intOf]; omega
                          · have hd0 : decide (0 < l) = false := decide_eq_false h0
                            have hI2 : I = false := by rw [HI.out, hd0]; rfl
                            subst hI2
                            go_wp2
                            go_roundw
                            case rel => exact ⟨u + 1, by omega, by omega, by go_num, be10⟩
                            case measure => simp [intOf]; omega
                      · have hlu' : ¬ (u : Int) ≤ (N : Int) := by omega
                        have bcj : Below w5.heap.size w5 we := bc.trans ((B7.trans ((bd.trans (be.mono bd.size)).mono B7.size)).mono hszc)
                        go_wp2
                        go_roundw
                        case rel => exact ⟨j + 1, by omega, by go_num, bcj⟩
                        case measure => simp [intOf]; omega
            · have hlj' : ¬ (j : Int) < (ws.length : Int) := by omega
              go_wp2
              go_roundw
              case rel => exact ⟨v + 1, by omega, by omega, by go_num, bc3⟩
              case measure => simp [intOf]; omega
        · have hlv' : ¬ (v : Int) ≤ (N : Int) := by omega
          go_wp2
          go_roundw
          case rel => exact ⟨ar + 1, by omega, by go_num, bb⟩
          case measure => simp [intOf]; omega
    · have hla' : ¬ (ar : Int) ≤ 2 := by omega
      have HLK := hide (HLI.out 0 1 1 _ ba)
      rw [link_self HS.out] at HLK
      go_wp2_with fail
      refine HLK.out.mono ?_
      rintro e w9 ⟨rfl, b9⟩
      have HB9 := hide ((HB3.out.trans (ba.mono HB3.out.size)).trans (b9.mono (HB3.out.trans (ba.mono HB3.out.size)).size))
      go_wp2
      go_ret
      exact ⟨rfl, HB9.out⟩
end Go.Proofs.YtdaigojpeofmpaaGreat
namespace Go.Proofs.YtdaigojpeofmpaaGreat
namespace fnWays
open Go.ChangeShapes Go.WideShapes Go.ChangeAt Go.RowKit
open Go.ChangeMaps (open_string shut_string)
set_option linter.unusedVariables false

theorem own : ownKnob Tryz.prog.godebug = none := by kernel_rfl
theorem laidOut : laidOutB Tryz.prog = true := by kernel_rfl

set_option maxRecDepth 100000 in
theorem lifted (os : Os) (started : os.Started) (H : Type) (enc : TypeId × Value → H) :
    ReturnsInHanded {} Tryz.checked os 7 .any (Rows.fnWaysSpec.pre6 enc Tryz.prog Tryz.f7 Rows.fnWaysRow.domain false) (Rows.fnWaysSpec.post enc Tryz.prog Tryz.f7 false true false false) := by
  refine returnsInHanded_of_change (C := Tryz.checked) own started (by kernel_rfl) Tryz.func7
    (ChangeSpec.witness6 (enc := enc) (C := Tryz.checked) false ⟨#[], #[.slice none 0 0], []⟩ 8 (by kernel_rfl) (by kernel_rfl) (by kernel_rfl) (by kernel_rfl)) ?_
  intro W base args ds gs before hval0 hW hcnd _
  have hval : ∀ (j : Nat) t v, Tryz.f7.params[j]? = some t → args[j]? = some v → Value.okWide Tryz.prog W .any base t v := hval0
  have hW' := hW
  obtain ⟨p, q, hA0, hV, rfl, hfz, hnd⟩ := hW
  have hA : DataW.TrodAll enc Tryz.prog W 0 (fun _ => true) true Tryz.f7.params.toList args.toList ds p := hA0
  rw [Tryz.params7] at hA hval
  obtain ⟨v0, vs0, d0, ds0, p0, q0, hargs, rfl, rfl, h0, r0⟩ := trodAll_cons hA
  obtain ⟨rfl, rfl, rfl⟩ := trodAll_nil r0
  obtain rfl : args = #[v0] := by cases args; simp_all
  obtain ⟨rfl, rfl⟩ := trodVars_none hV
  obtain ⟨a0, len0, cap0, rfl⟩ := okWide_slice Tryz.underlying22 (hval 0 22 v0 rfl rfl)
  have k0 := h0
  have lt0 : ∀ x ∈ p0, x.block < W.heap.size := by obtain ⟨m, hm⟩ := k0; exact DataW.trod_lt m _ _ _ hm
  have w0 : len0 ≤ 1048576 → Code W a0 len0 W.heap.size := fun hl20 => by
    obtain ⟨fuel, hf⟩ := h0
    refine ⟨hl20, ?_⟩
    rcases open_ints Tryz.underlying22 Tryz.underlying5 (by kernel_rfl) hf with ⟨hcs, _⟩ | ⟨x, l, c, zs, hcs, _, hl, hm, hz, _, hcell, hwz⟩
    · simp [Value.cells] at hcs
      exact .inl hcs.2.1
    · simp [Value.cells] at hcs
      obtain ⟨rfl, rfl, rfl⟩ := hcs
      by_cases hl0 : len0 = 0
      · exact .inl hl0
      · obtain ⟨b, off, spot⟩ := x
        have hzl : zs.length = cap0 := by simpa using hz
        have hc0 := hcell 0 (by omega)
        have hspot : spot = none := by simpa [Addr.add] using World.cell?_spot hc0
        subst hspot
        have hb : b < W.heap.size := by
          have := World.block_lt_of_cell? W _ hc0
          simpa [Addr.add] using this
        refine .inr ⟨b, off, rfl, hb, fun j hj => ?_⟩
        have hjz : j < zs.length := by omega
        have hcj := hcell j hjz
        have e1 : (⟨b, off, none⟩ : Addr).add j = ⟨b, off + j, none⟩ := by
          simp only [Addr.add]
          split <;> simp_all
        have hgd : zs.getD j 0 = zs[j] := by simp [List.getElem?_eq_getElem hjz]
        have hwj := bounds_u8 (hwz (zs.getD j 0) (by rw [hgd]; exact List.getElem_mem hjz))
        rw [e1] at hcj
        exact ⟨(zs.getD j 0).toNat, by omega, by rw [hcj]; congr 2; omega⟩
  clear hA0 hval0
  refine (fnWays_walk a0 len0 cap0 W w0).mono fun e W' ⟨he, bel⟩ => ?_
  subst he
  exact ⟨_, rfl, _, _, _, [], _, [], hW', trodAll_mk1 (shut_bool Tryz.underlying4 _), (trodAll_cons_mk (Below.trod laidOut (by kernel_rfl) (of_decide_eq_true (by kernel_rfl)) k0 bel lt0) trodAll_mk0), rfl, bel.frame _, fun h => by cases h⟩

theorem over : Rows.fnWaysRow.holds Tryz.pinned (OpenSpec.ofChange Rows.fnWaysSpec) :=
  OpenClaim.holds_of_wide 7 Tryz.f7 rfl rfl rfl rfl rfl rfl rfl ⟨rfl, rfl, rfl, rfl, rfl⟩ rfl rfl rfl rfl rfl (by kernel_rfl) Tryz.func7 (by kernel_rfl)
    (of_decide_eq_true (by kernel_rfl)) (by unfold Func.isWrapper; first | (rw [if_pos (by decide +kernel)]; kernel_rfl) | (rw [if_neg (by decide +kernel)]; exact ⟨rfl, rfl⟩))
    (fun os started H enc _ => lifted os started H enc)
end fnWays

theorem fnWays_proved : Rows.FnWaysSaid := fnWays.over
#print axioms fnWays_proved
end Go.Proofs.YtdaigojpeofmpaaGreat
