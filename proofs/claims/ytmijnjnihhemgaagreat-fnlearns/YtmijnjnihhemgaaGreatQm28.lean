/-
  spec.l08Self: a right node is drawn.
  spec.DrawRightSelf: a right node is drawn.
  spec.DrawRecords: some right records.
  An empty list made: its block under a name.
-/
import Derived.Test.YtmijnjnihhemgaaGreatQm5
import Derived.Test.YtmijnjnihhemgaaGreatQm13
import Derived.Test.YtmijnjnihhemgaaGreatQm18
import Derived.Test.YtmijnjnihhemgaaGreatQm26
import Derived.Test.YtmijnjnihhemgaaGreatQm27
import Derived.Test.YtmijnjnihhemgaaGreatQm14
import Derived.Test.YtmijnjnihhemgaaGreatQm6
namespace Go.Proofs.YtmijnjnihhemgaaGreat
open Go.RowKit
set_option linter.unusedSimpArgs false
set_option linter.unusedVariables false
set_option maxRecDepth 100000
set_option maxHeartbeats 8000000
theorem netOkI_thS {x : NetD} (h : netOkI x = true) : ∀ t ∈ x.ts, 1 ≤ t.o ∧ t.o ≤ x.n := by
 simp only [netOkI, Bool.and_eq_true] at h
 intro t ht
 have := okT_of h.2 t ht
 simp only [thOkB, inB, Bool.and_eq_true, decide_eq_true_eq] at this
 omega
theorem flat_bl (bs : List Bool) : flat blE bs = bs.map Value.bool := by
 induction bs with
 | nil => rfl
 | cons b bs ih => simp only [flat, List.flatMap_cons] at *; rw [ih]; rfl
theorem flat_bl_set (bs : List Bool) (k : Nat) (b : Bool) : (flat blE bs).set k (.bool b) = flat blE (bs.set k b) := by
 rw [flat_bl, flat_bl, List.map_set]
theorem wpList_append_two {bytes : Nat} (hbb : bytes ≤ 100) {P : Program} (w : World) {ops : Array Oper} {rest : List Oper} {o : Oper} {a : Act} {Q : Exit → Act → World → Prop} (hgd : o.guard = none) (s x : Operand) (t : TypeId)
  (ho : o.op = .call { callee := .builtin .append, args := #[s, x], argTypes := #[t, t] }) (base : Nat) (e : TypeId) (ht : P.underlying t = some (.slice e))
  (hinfo : (P.info? e).map (fun i => (i.zero, i.size, i.bytes)) = some (some (.int .i64 0), 1, bytes))
  (v : Value) (l : List Int) (y1 y2 : Int) (hs : a.eval s = v) (hown : w.ownsRow base e 1 v l.length (flat intE l))
  (ad : Addr) (c : Nat) (hx : a.eval x = .slice (some ad) 2 c) (hnews : ∀ j u, ([.int .i64 y1, .int .i64 y2] : List Value)[j]? = some u → w.cell? (ad.add j) = some u)
  (hl : l.length + 2 ≤ 1000000000) (hbase : base ≤ w.heap.size)
  (h : ∀ v' w' l', Hid (l' = l ++ [y1, y2]) → w'.ownsRow base e 1 v' l'.length (flat intE l') → w.grownBy w' v.ownBlock → wpList P ops Q rest (a.put o.dst v') w') : wpList P ops Q (o :: rest) a w := by
 obtain ⟨i0, hi, hz0, hz1, hz2⟩ := info_parts hinfo
 refine wpList_append_own_at w hgd s x t ho base e i0 (.int .i64 0) 1 bytes ht hi hz0 hz1 hz2 rfl (by decide) v l.length (flat intE l) hs hown ad 2 c [.int .i64 y1, .int .i64 y2] hx rfl hnews (by simp [Value.oneCell']) (by unfold maxLen; omega) ?_ hbase ?_
 ·have : (l.length + 2) * bytes ≤ 1000000000 * 100 := Nat.mul_le_mul hl hbb
  omega
 ·intro v' w' h1 h2 _ _
  have e1 : flat intE l ++ [.int .i64 y1, .int .i64 y2] = flat intE (l ++ [y1, y2]) := by rw [flat_append]; simp [flat, intE]
  rw [e1] at h1
  exact h v' w' (l ++ [y1, y2]) rfl (by simpa using h1) h2
theorem selfR_any (p : Nat) (a : Option Addr) (len cap : Nat) (w : World) (hc : Cur w p a len cap) :
  Calls Tryz.prog 45 #[.pointer (some ⟨p, 0, none⟩)] w fun e w' => ∃ x v1 v2 v3 v4 ps, e = .returned (selfV x v1 v2 v3 v4) ∧ selfB x ps = true ∧ totS x ps ≤ 5000 ∧ SelfSrc w' w'.heap.size v1 v2 v3 v4 x ps ∧ Cur w' p a len cap ∧ w.grownBy w' (some p) := by
 have hp := lt_of_cur hc
 have h0 := heap_alloc_new w (.cells #[.int .i64 0, .int .i64 0, .int .i64 0, .slice none 0 0, .slice none 0 0, .slice none 0 0, .slice none 0 0] 31)
 have g0 : w.grownBy (w.alloc (.cells #[.int .i64 0, .int .i64 0, .int .i64 0, .slice none 0 0, .slice none 0 0, .slice none 0 0, .slice none 0 0] 31)) (some p) := World.grownBy_alloc w _ _
 have HN := hide (net_fine p a len cap _ (cur_alloc hc (.cells #[.int .i64 0, .int .i64 0, .int .i64 0, .slice none 0 0, .slice none 0 0, .slice none 0 0, .slice none 0 0] 31)))
 have H0 := hide h0
 clear hc h0
 go_enter Tryz.func45, Tryz.ntmps45
 go_wp2_with fail
 obtain ⟨w0, hw0⟩ : ∃ V, V = w.alloc (.cells #[.int .i64 0, .int .i64 0, .int .i64 0, .slice none 0 0, .slice none 0 0, .slice none 0 0, .slice none 0 0] 31) := ⟨_, rfl⟩
 have hs0 : w.heap.size < w0.heap.size := by rw [hw0]; simp
 rw [← hw0] at HN H0 g0 ⊢
 clear hw0
 refine HN.out.mono ?_
 rintro e w1 ⟨x, v1, v2, rfl, hok, o1, o2, c1, -, g1⟩
 obtain ⟨n, ls, ts⟩ := x
 simp only [] at o1 o2
 obtain ⟨a1, d1, rfl⟩ := owns_lenS o1
 obtain ⟨a2, d2, rfl⟩ := owns_lenS o2
 have hn6 := netOkI_n hok
 have hl12 := netOkI_l hok
 simp only [] at hn6 hl12
 have hs1 := g1.size
 have r1 := (g1.block _ (lt_of_heap H0.out) (by simp; omega)).trans H0.out
 have G1 := grown_trans g0 g1
 have HB := hide (below_any p a len cap 2 w1 c1 (by omega) (by omega))
 have R1 := hide r1
 have O1 := hide o1
 have O2 := hide o2
 have HOK := hide hok
 clear r1 o1 o2 c1 hok HN H0 g0 g1
 go_wp2_with fail
 refine HB.out.mono ?_
 rintro e w2 ⟨y, rfl, hy0, hy1, c2, g2⟩
 have hs2 := g2.size
 have st3 : SfSt w (w2.alloc (.cells #[.int .i64 0, .int .i64 y, .int .i64 n, .slice a1 ls.length d1, .slice a2 ts.length d2, .slice none 0 0, .slice none 0 0] 31)) p w2.heap.size a len cap 0 y n ls ts [] (.slice a1 ls.length d1) (.slice a2 ts.length d2) (.slice none 0 0) (.slice none 0 0) :=
  {cur := cur_alloc c2 _
   gro := grown_trans (grown_trans G1 g2) (World.grownBy_alloc w2 _ _)
   new := by omega
   res := by
    rw [Below.heap_alloc _ _ _ (by omega), g2.block _ (lt_of_heap R1.out) (by simp; omega)]
    exact R1.out
   box := heap_alloc_new w2 _
   o1 := owns_baseS ((kept_otherN O1.out g2 (by omega)).alloc _) (by omega)
   o2 := owns_baseS ((kept_otherN O2.out g2 (by omega)).alloc _) (by omega)
   o3 := World.ownsRow_nil _ _ _ _ }
 have HB3 := hide (below_any p a len cap n _ st3.cur (by omega) (by omega))
 have ST3 := hide st3
 clear st3 c2 g2 G1 R1 O1 O2 HB
 go_wp2_with fail
 obtain ⟨w3, hw3⟩ : ∃ V, V = w2.alloc (.cells #[.int .i64 0, .int .i64 y, .int .i64 n, .slice a1 ls.length d1, .slice a2 ts.length d2, .slice none 0 0, .slice none 0 0] 31) := ⟨_, rfl⟩
 rw [← hw3] at HB3 ST3 ⊢
 clear hw3
 obtain ⟨z, hz⟩ : ∃ z, z = w2.heap.size := ⟨_, rfl⟩
 rw [← hz] at ST3 ⊢
 clear hz
 obtain ⟨N, rfl⟩ : ∃ N : Nat, n = (N : Int) := ⟨n.toNat, by omega⟩
 refine HB3.out.mono ?_
 rintro e w4 ⟨yi, rfl, hyi0, hyi1, c4, g4⟩
 have st4 := ST3.out.grown c4 g4 hp
 have q0 := cells_at st4.box 0
 simp at q0
 have f0 := frozen_at st4.box 0
 have ST5 := hide (st4.setId hp (1 + yi))
 clear st4 c4 g4 ST3 HB3
 have hwr : IntKind.i64.wrap (1 + yi) = 1 + yi := wrap_fit _ (by omega) (by omega)
 go_wp2
 go_loopw [4] (fun i wr => ∃ (v : Nat) (hd : List Int) (v3 : Value), 1 ≤ v ∧ v ≤ N + 1 ∧ i = .int .i64 (v : Int) ∧ SfSt w wr p z a len cap (1 + yi) y (N : Int) ls ts hd (.slice a1 ls.length d1) (.slice a2 ts.length d2) v3 (.slice none 0 0) ∧ HearUp ls (1 + yi) hd (v : Int) 0) (fun i _ => 9 - (intOf i).toNat)
 case atStart => exact ⟨1, [], _, by omega, by omega, rfl, ST5.out, HearUp.start _ _⟩
 case round =>
  rename World => wa
  clear ST5 q0 f0
  obtain ⟨v, hd, v3, hv1, hv2, rfl, st, hu⟩ := hrel
  have q2 := cells_at st.box 2
  simp at q2
  have ST := hide st
  have HU := hide hu
  clear st hu
  by_cases hlv : v ≤ N
  ·have hlv' : (v : Int) ≤ (N : Int) := by omega
   go_wp2
   go_loopw [5] (fun i wr => ∃ (k : Nat) (hd : List Int) (v3 : Value), k ≤ 3 ∧ i = .int .i64 (k : Int) ∧ SfSt w wr p z a len cap (1 + yi) y (N : Int) ls ts hd (.slice a1 ls.length d1) (.slice a2 ts.length d2) v3 (.slice none 0 0) ∧ HearUp ls (1 + yi) hd (v : Int) (k : Int)) (fun i _ => 9 - (intOf i).toNat)
   case atStart => exact ⟨0, hd, v3, by omega, rfl, ST.out, HU.out⟩
   case round =>
    rename World => wb
    clear ST HU q2
    obtain ⟨k, hd, v3, hk, rfl, st, hu⟩ := hrel
    obtain ⟨a3, d3, rfl⟩ := owns_lenS st.o3
    have q0 := cells_at st.box 0
    have q2 := cells_at st.box 2
    have q3 := cells_at st.box 3
    have q4 := cells_at st.box 4
    simp at q0 q2 q3 q4
    have HCO := hide (scost_any (.int .i64 (N : Int)) (.slice a1 ls.length d1) (.slice a2 ts.length d2) ls (1 + yi) (v : Int) (k : Int) wb (by omega) (owns_rowAt st.o1))
    have ST := hide st
    have HU := hide hu
    clear st hu
    by_cases hlk : k ≤ 2
    ·have hlk' : (k : Int) ≤ 2 := by omega
     obtain ⟨C, hC⟩ : ∃ C, C = costN ls (1 + yi) (v : Int) (k : Int) := ⟨_, rfl⟩
     rw [← hC] at HCO
     have HCC := hide hC
     clear hC
     go_wp2_with fail
     refine HCO.out.mono ?_
     rintro e w5 ⟨rfl, b5⟩
     have st5 := ST.out.below b5
     have ST5 := hide st5
     clear b5 st5 ST q0 q2 q3 q4 HCO
     by_cases hC : 0 < C
     ·have hCg : decide (0 < C) = true := decide_eq_true hC
      go_wp2_with fail
      refine (once_any p a len cap 4 w5 ST5.out.cur (by omega) (by omega)).mono ?_
      rintro e w6 ⟨b, rfl, c6, g6⟩
      have st6 := ST5.out.grown c6 g6 hp
      have ST6 := hide st6
      have q5 := cells_at st6.box 5
      simp at q5
      have hzl := lt_of_heap st6.box
      clear c6 g6 st6 ST5
      cases b
      ·have HAL := hide (ST6.out.alloc (.cells #[.int .i64 (v : Int), .int .i64 (k : Int)] 3))
       have hhl : hd.length ≤ 100 := by have := HU.out.len; omega
       have hzn := ST6.out.new
       go_wp2_with (first
        | (at_builtin; refine wpList_append_two (by decide) _ rfl _ _ 28 rfl (z + 1) 3 Tryz.underlying28 Tryz.info3 (.slice a3 hd.length d3) hd (v : Int) (k : Int) rfl HAL.out.o3 ⟨w6.heap.size, 0, none⟩ 2 rfl (news_struct (cs := [.int .i64 (v : Int), .int .i64 (k : Int)])) (by omega) (by simp; omega) ?_))
       intro v' w7 l' hl' hown' hgrow
       obtain ⟨a3', d3', rfl⟩ := owns_lenS hown'
       have hb7 := (hgrow.block z (lt_of_heap HAL.out.box) (fun e => by have := HAL.out.o3.lt z e.symm; omega)).trans HAL.out.box
       have q5' := cells_at hb7 5
       simp at q5'
       have f5 := frozen_at hb7 5
       have st7 := HAL.out.hear hp hgrow hown'
       have ST7 := hide st7
       clear st7 hown' hgrow hb7 HAL ST6 q5
       go_wp2
       go_roundw
       case rel => exact ⟨k + 1, l', _, by omega, by go_num, ST7.out, by rw [hl'.out]; exact HU.out.push (by rw [← HCC.out]; exact hC)⟩
       case measure => simp [intOf]; omega
      ·go_wp2
       go_roundw
       case rel => exact ⟨k + 1, hd, _, by omega, by go_num, ST6.out, HU.out.skip⟩
       case measure => simp [intOf]; omega
     ·have hCg : decide (0 < C) = false := decide_eq_false hC
      go_wp2
      go_roundw
      case rel => exact ⟨k + 1, hd, _, by omega, by go_num, ST5.out, HU.out.skip⟩
      case measure => simp [intOf]; omega
    ·have hlk' : ¬ (k : Int) ≤ 2 := by omega
     have hk3 : (k : Int) = 3 := by omega
     have HU3 := HU.out
     rw [hk3] at HU3
     have HUN := hide HU3.next
     clear HU3 hk3 HU
     go_wp2
     go_roundw
     case rel => exact ⟨v + 1, hd, _, by omega, by omega, by go_num, ST.out, HUN.out⟩
     case measure => simp [intOf]; omega
  ·have hlv' : ¬ (v : Int) ≤ (N : Int) := by omega
   have q3 := cells_at ST.out.box 3
   simp at q3
   obtain ⟨i0, hi, hz0, hz1, hz2⟩ := info_parts Tryz.infoB
   have HI := hide hi
   have HZ0 := hide hz0
   clear hi hz0
   have hzl := lt_of_heap ST.out.box
   have hzn := ST.out.new
   go_wp2_with (first
    | (refine wpList_make_structs blE_len (by omega) _ rfl _ _ 62 rfl (z + 1) 4 i0 (.bool false) false rfl Tryz.underlying62 HI.out HZ0.out hz1 ls.length rfl rfl (by rw [hz2]; omega) (by unfold maxLen; omega) (by omega) ?_))
   intro wb ob gb
   have stb := ST.out.below (W' := wb) ⟨gb.os, gb.tape, gb.output, gb.size, fun k hk => gb.block k hk (by simp)⟩
   have hsb : wa.heap.size < wb.heap.size := by
    rcases ob.2 with ⟨h0, _⟩ | ⟨g, cp, cur, hv, _, hh, _⟩
    ·cases h0
    ·cases hv; exact lt_of_heap hh
   obtain ⟨B, hB⟩ : ∃ B, B = wa.heap.size := ⟨_, rfl⟩
   rw [← hB] at ob hsb ⊢
   have hzB : z < B := by omega
   have STB := hide stb
   have OB := hide ob
   have q2 := cells_at stb.box 2
   simp at q2
   clear stb ob gb hB ST q3 hzl
   go_wp2_with (first
    | (refine wpList_make_structs blE_len (by omega) _ rfl _ _ 62 rfl (z + 1) 4 i0 (.bool false) false rfl Tryz.underlying62 HI.out HZ0.out hz1 N rfl rfl (by rw [hz2]; omega) (by unfold maxLen; omega) (by omega) ?_))
   intro wc oc gc
   have stc := STB.out.below (W' := wc) ⟨gc.os, gc.tape, gc.output, gc.size, fun k hk => gc.block k hk (by simp)⟩
   have hsc : wb.heap.size < wc.heap.size := by
    rcases oc.2 with ⟨h0, _⟩ | ⟨g, cp, cur, hv, _, hh, _⟩
    ·cases h0
    ·cases hv; exact lt_of_heap hh
   have obc := OB.out.kept gc (.inr (by simp [Value.ownBlock]))
   have STC := hide stc
   have OBC := hide obc
   have OUC := hide oc
   obtain ⟨U, hU⟩ : ∃ U, U = wb.heap.size := ⟨_, rfl⟩
   rw [← hU] at OUC hsc ⊢
   have hBU : B < U := by omega
   clear stc obc oc gc hU STB OB q2
   go_wp2
   go_loopw [8] (fun i wr => ∃ (k : Nat) (bs zs : List Bool), k ≤ ls.length ∧ i = .int .i64 (k : Int) ∧ bs.length = ls.length ∧ zs.length = N ∧ SfSt w wr p z a len cap (1 + yi) y (N : Int) ls ts hd (.slice a1 ls.length d1) (.slice a2 ts.length d2) v3 (.slice none 0 0) ∧ wr.ownsRow (z + 1) 4 1 (.slice (some ⟨B, 0, none⟩) ls.length ls.length) ls.length (flat blE bs) ∧ wr.ownsRow (z + 1) 4 1 (.slice (some ⟨U, 0, none⟩) N N) N (flat blE zs)) (fun i _ => 20 - (intOf i).toNat)
   case atStart => exact ⟨0, _, _, by omega, rfl, by simp, by simp, STC.out, OBC.out, OUC.out⟩
   case round =>
    clear STC OBC OUC
    rename World => wd
    obtain ⟨k, bs, zs, hk, rfl, hbl, hzl2, st, ob, ou⟩ := hrel
    by_cases hlk : k < ls.length
    ·have hlk' : (k : Int) < (ls.length : Int) := by omega
     have hk0 : (0 : Int) ≤ (k : Int) := by omega
     have hp2 := lt_of_cur st.cur
     have hnw := st.new
     go_wp2_with fail
     refine (once_any p a len cap 6 wd st.cur (by omega) (by omega)).mono ?_
     rintro e w7 ⟨c, rfl, c7, g7⟩
     have st7 := st.grown c7 g7 hp
     have ob7 := kept_otherN ob g7 (by omega)
     have ou7 := kept_otherN ou g7 (by omega)
     obtain ⟨t, hcl⟩ := own_cell ob7 k (by omega)
     have hfr := ob7.frozenAt k
     obtain ⟨cs, hbk⟩ : ∃ cs, w7.heap[B]? = some (.cells cs 4) := by
      rcases ob7.2 with ⟨h0, _⟩ | ⟨g, cp, cur, hv, _, hh, _⟩
      ·cases h0
      ·cases hv; exact ⟨_, hh⟩
     have hst := (ob7.stored k (.bool (!c))).1
     rw [flat_bl_set] at hst
     have hgs := grown_set w7 B k (.bool (!c))
     have hot := ou7.kept hgs (.inr (by simp [Value.ownBlock]; omega))
     have ST7 := hide (st7.other hp hgs (by omega) hbk)
     have HST := hide hst
     have HOT := hide hot
     clear st7 ob7 ou7 hst hot hgs hbk c7 g7 st ob ou
     go_wp2
     go_roundw
     case rel => exact ⟨k + 1, bs.set k (!c), zs, by omega, by go_num, by simp [hbl], hzl2, ST7.out, HST.out, HOT.out⟩
     case measure => simp [intOf]; omega
    ·have hlk' : ¬ (k : Int) < (ls.length : Int) := by omega
     have ST := hide st
     have OB := hide ob
     have OU := hide ou
     have HBL := hide hbl
     clear st ob ou hbl hk hlk
     go_wp2
     go_loopw [9] (fun i wr => ∃ (k : Nat) (zs : List Bool), k ≤ N ∧ i = .int .i64 (k : Int) ∧ zs.length = N ∧ SfSt w wr p z a len cap (1 + yi) y (N : Int) ls ts hd (.slice a1 ls.length d1) (.slice a2 ts.length d2) v3 (.slice none 0 0) ∧ wr.ownsRow (z + 1) 4 1 (.slice (some ⟨B, 0, none⟩) ls.length ls.length) ls.length (flat blE bs) ∧ wr.ownsRow (z + 1) 4 1 (.slice (some ⟨U, 0, none⟩) N N) N (flat blE zs)) (fun i _ => 20 - (intOf i).toNat)
     case atStart => exact ⟨0, zs, by omega, rfl, hzl2, ST.out, OB.out, OU.out⟩
     case round =>
      clear ST OB OU hzl2
      rename World => we
      obtain ⟨k, zs, hk, rfl, hzl2, st, ob, ou⟩ := hrel
      by_cases hlk : k < N
      ·have hlk' : (k : Int) < (N : Int) := by omega
       have hk0 : (0 : Int) ≤ (k : Int) := by omega
       have hp2 := lt_of_cur st.cur
       have hnw := st.new
       go_wp2_with fail
       refine (once_any p a len cap 8 we st.cur (by omega) (by omega)).mono ?_
       rintro e w7 ⟨c, rfl, c7, g7⟩
       have st7 := st.grown c7 g7 hp
       have ob7 := kept_otherN ob g7 (by omega)
       have ou7 := kept_otherN ou g7 (by omega)
       obtain ⟨t, hcl⟩ := own_cell ou7 k (by omega)
       have hfr := ou7.frozenAt k
       obtain ⟨cs, hbk⟩ : ∃ cs, w7.heap[U]? = some (.cells cs 4) := by
        rcases ou7.2 with ⟨h0, _⟩ | ⟨g, cp, cur, hv, _, hh, _⟩
        ·cases h0
        ·cases hv; exact ⟨_, hh⟩
       have hst := (ou7.stored k (.bool (!c))).1
       rw [flat_bl_set] at hst
       have hgs := grown_set w7 U k (.bool (!c))
       have hot := ob7.kept hgs (.inr (by simp [Value.ownBlock]; omega))
       have ST7 := hide (st7.other hp hgs (by omega) hbk)
       have HST := hide hst
       have HOT := hide hot
       clear st7 ob7 ou7 hst hot hgs hbk c7 g7 st ob ou
       go_wp2
       go_roundw
       case rel => exact ⟨k + 1, zs.set k (!c), by omega, by go_num, by simp [hzl2], ST7.out, HOT.out, HST.out⟩
       case measure => simp [intOf]; omega
      ·have hlk' : ¬ (k : Int) < (N : Int) := by omega
       have hid := sideal_any (.slice a1 ls.length d1) (.slice a2 ts.length d2) (.slice (some ⟨B, 0, none⟩) ls.length ls.length) (.slice (some ⟨U, 0, none⟩) N N) N ls ts bs zs we HOK.out (by omega) (by omega) hl12.1 hl12.2 (netOkI_thS HOK.out) (owns_rowAt st.o1) (owns_rowAt st.o2) (owns_rowAt (xs := bs) (by rw [HBL.out]; exact ob)) (owns_rowAt (xs := zs) (by rw [hzl2]; exact ou)) HBL.out hzl2
       have HID := hide hid
       have HSTO := hide (ideal_store (bs := bs) (zs := zs) HOK.out)
       have q2 := cells_at st.box 2
       have q3 := cells_at st.box 3
       have q4 := cells_at st.box 4
       simp at q2 q3 q4
       have ST := hide st
       clear hid st ob ou hk hlk
       go_wp2_with fail
       refine HID.out.mono ?_
       rintro e w8 ⟨o, qs, rfl, hqs, htq, ho, b8⟩
       obtain ⟨oa, oc, rfl⟩ := owns_lenS ho.row
       have st8 := ST.out.below b8
       have q6 := cells_at st8.box 6
       simp at q6
       have f6 := frozen_at st8.box 6
       have st9 := st8.setStore hp (.slice oa qs.length oc)
       have r9 := (ho.in).box st8.box (grown_set w8 z 6 (.slice oa qs.length oc))
       have hst9 : storeB (fsts qs) = true := by rw [hqs]; exact HSTO.out
       have HON := hide (once_any p a len cap 3 _ st9.cur (by omega) (by omega))
       have ST9 := hide st9
       have R9 := hide r9
       have HS9 := hide hst9
       clear hqs htq ho b8 st8 st9 r9 hst9 HID HSTO ST q2 q3 q4
       go_wp2_with fail
       refine HON.out.mono ?_
       rintro e w9 ⟨b, rfl, c9, g9⟩
       have ST10 := hide (ST9.out.grown c9 g9 hp)
       have R10 := hide ((R9.out.cur ST9.out.cur g9).wide (show w8.heap.size ≤ w9.heap.size by have := g9.size; simpa using this))
       clear c9 g9 HON q6 f6
       cases b
       ·have hs10 := ST10.out.gro.size
        go_wp2
        go_loopw [12] (fun i wr => ∃ (k : Nat) (ps : List RP) (v4 : Value), k ≤ 2 ∧ i = .int .i64 (k : Int) ∧ SfSt w wr p z a len cap (1 + yi) y (N : Int) ls ts hd (.slice a1 ls.length d1) (.slice a2 ts.length d2) v3 v4 ∧ RecsIn wr wr.heap.size v4 ps ∧ storeB (fsts ps) = true) (fun i _ => 9 - (intOf i).toNat)
        case atStart => exact ⟨0, qs, _, by omega, rfl, ST10.out, R10.out, HS9.out⟩
        case round =>
         rename World => wf
         clear ST10 R10 HS9
         obtain ⟨k, ps, v4, hk, rfl, st, rin, hsp⟩ := hrel
         obtain ⟨a4, d4, rfl⟩ := owns_lenS rin.row
         have ST := hide st
         have RI := hide rin
         have HSP := hide hsp
         have HBE := hide (below_any p a len cap 3 wf st.cur (by omega) (by omega))
         clear st rin hsp
         go_wp2_with fail
         refine HBE.out.mono ?_
         rintro e w11 ⟨y3, rfl, hy30, hy31, c11, g11⟩
         have RI11 := hide ((RI.out.cur ST.out.cur g11).wide g11.size)
         have ST11 := hide (ST.out.grown c11 g11 hp)
         clear c11 g11 HBE ST RI
         by_cases hlt : (k : Int) < y3
         ·go_wp2
          refine wp_region_noPanic ?_
          refine wp_region_start (S := fun _ => True) (by kernel_rfl) 10 rfl trivial ?_
          intro ops hops hHeld
          refine take_d 0 ?_ ?_ ?_ (by rw [hops.out]; kernel_rfl) ?_ ?_ trivial ?_
          rotate_left 2
          ·rw [hops.out]; simp only [getS]; rfl
          ·intro W hW; (try dsimp only at hW); go_simp <;> with_reducible rfl
          ·exact fun _ _ _ => id
          try simp only [putS]
          refine take_d 2 ?_ ?_ ?_ (by rw [hops.out]; kernel_rfl) ?_ ?_ trivial ?_
          rotate_left 2
          ·rw [hops.out]; simp only [getS]; rfl
          ·intro W hW; (try dsimp only at hW); go_simp <;> with_reducible rfl
          ·exact fun _ _ _ => id
          try simp only [putS]
          have st11 := ST11.out.drew
          have hzn := ST11.out.new
          have hcd := st11.cur
          refine sf_dag p z a len cap _ _ _ _ _ _ a4 d4 ps w11.drew _ ops hops (lt_of_cur hcd) (lt_of_heap st11.box) (by omega) hcd st11.box (RI11.out.below (Below.refl _ _).drew (Nat.le_refl _)) HSP.out (by rw [tot_D]; have := store_tot HSP.out; omega) ?_
          intro W w12 x na nc xa xc qn TT g cu b5 o5 hsq
          clear hops ops
          have st12 := (st11.grown cu g hp).below b5
          have ST13 := hide (st12.setStore hp (.slice xa qn.length xc))
          have RI13 := hide ((o5.box st12.box (grown_set w12 z 6 (.slice xa qn.length xc))).wide (hi' := (w12.setCell ⟨z, 6, none⟩ (.slice xa qn.length xc)).heap.size) (by simp))
          have HSQ := hide hsq
          clear st11 st12 hcd g cu b5 o5 hsq ST11 RI11
          go_wp2
          go_roundw
          case rel => exact ⟨k + 1, qn, _, by omega, by go_num, ST13.out, RI13.out, HSQ.out⟩
          case measure => simp [intOf]; omega
         ·obtain ⟨a3, d3, e3⟩ := owns_lenS ST11.out.o3
          have hbx := ST11.out.box
          rw [e3] at hbx
          have q0 := cells_at hbx 0
          have q1 := cells_at hbx 1
          have q2 := cells_at hbx 2
          have q3 := cells_at hbx 3
          have q4 := cells_at hbx 4
          have q5 := cells_at hbx 5
          have q6 := cells_at hbx 6
          simp at q0 q1 q2 q3 q4 q5 q6
          have r0 := cells_at ST11.out.res 0
          have r1 := cells_at ST11.out.res 1
          have r2 := cells_at ST11.out.res 2
          have r3 := cells_at ST11.out.res 3
          have r4 := cells_at ST11.out.res 4
          have r5 := cells_at ST11.out.res 5
          have r6 := cells_at ST11.out.res 6
          simp at r0 r1 r2 r3 r4 r5 r6
          have fr := frozen_at ST11.out.res
          clear hbx
          go_wp2
          have hst := ST11.out
          rw [e3] at hst
          have F := hst.out hp RI11.out
          (try simp only [Exit.inBlock, Exit.then])
          refine bodyPost_ret (results_cell_row rfl _ _ w.heap.size 31 #[.int .i64 (1 + yi), .int .i64 y, .int .i64 (N : Int), .slice a1 ls.length d1, .slice a2 ts.length d2, .slice a3 hd.length d3, .slice a4 ps.length d4] (0, 0) _ rfl F.1 Tryz.underlying31 rfl (by kernel_rfl)) rfl ?_
          have hto := store_tot HSP.out
          have hhl := HU.out.len
          have htt : tot ps ≤ 1050 := by rw [tot_D]; exact hto
          exact ⟨⟨1 + yi, y, ⟨(N : Int), ls, ts⟩, hd⟩, _, _, _, _, ps, rfl, by
           unfold selfB
           simp only []
           rw [HOK.out, inB_of (by omega) (by omega), inB_of (by omega) (by omega), HU.out.ok, HSP.out]
           rfl, by unfold totS; simp only []; omega, F.2.1, F.2.2.1, F.2.2.2⟩
       ·have HDS := hide (drawStore_any p a len cap w9 ST10.out.cur)
        go_wp2_with fail
        refine HDS.out.mono ?_
        rintro e w10 ⟨vs, qs2, rfl, rin2, hst2, hl2, c10, g10⟩
        obtain ⟨sa, sc, rfl⟩ := owns_lenS rin2.row
        have st10 := ST10.out.grown c10 g10 hp
        have q6 := cells_at st10.box 6
        simp at q6
        have f6 := frozen_at st10.box 6
        have ST12 := hide (st10.setStore hp (.slice sa qs2.length sc))
        have R12 := hide ((rin2.box st10.box (grown_set w10 z 6 (.slice sa qs2.length sc))).wide (hi' := (w10.setCell ⟨z, 6, none⟩ (.slice sa qs2.length sc)).heap.size) (by simp))
        have HS12 := hide hst2
        clear rin2 hst2 c10 g10 st10 HDS ST10 R10 HS9
        go_wp2
        go_loopw [12] (fun i wr => ∃ (k : Nat) (ps : List RP) (v4 : Value), k ≤ 2 ∧ i = .int .i64 (k : Int) ∧ SfSt w wr p z a len cap (1 + yi) y (N : Int) ls ts hd (.slice a1 ls.length d1) (.slice a2 ts.length d2) v3 v4 ∧ RecsIn wr wr.heap.size v4 ps ∧ storeB (fsts ps) = true) (fun i _ => 9 - (intOf i).toNat)
        case atStart => exact ⟨0, qs2, _, by omega, rfl, ST12.out, R12.out, HS12.out⟩
        case round =>
         rename World => wf
         clear ST12 R12 HS12 q6 f6
         obtain ⟨k, ps, v4, hk, rfl, st, rin, hsp⟩ := hrel
         obtain ⟨a4, d4, rfl⟩ := owns_lenS rin.row
         have ST := hide st
         have RI := hide rin
         have HSP := hide hsp
         have HBE := hide (below_any p a len cap 3 wf st.cur (by omega) (by omega))
         clear st rin hsp
         go_wp2_with fail
         refine HBE.out.mono ?_
         rintro e w11 ⟨y3, rfl, hy30, hy31, c11, g11⟩
         have RI11 := hide ((RI.out.cur ST.out.cur g11).wide g11.size)
         have ST11 := hide (ST.out.grown c11 g11 hp)
         clear c11 g11 HBE ST RI
         by_cases hlt : (k : Int) < y3
         ·go_wp2
          refine wp_region_noPanic ?_
          refine wp_region_start (S := fun _ => True) (by kernel_rfl) 10 rfl trivial ?_
          intro ops hops hHeld
          refine take_d 0 ?_ ?_ ?_ (by rw [hops.out]; kernel_rfl) ?_ ?_ trivial ?_
          rotate_left 2
          ·rw [hops.out]; simp only [getS]; rfl
          ·intro W hW; (try dsimp only at hW); go_simp <;> with_reducible rfl
          ·exact fun _ _ _ => id
          try simp only [putS]
          refine take_d 2 ?_ ?_ ?_ (by rw [hops.out]; kernel_rfl) ?_ ?_ trivial ?_
          rotate_left 2
          ·rw [hops.out]; simp only [getS]; rfl
          ·intro W hW; (try dsimp only at hW); go_simp <;> with_reducible rfl
          ·exact fun _ _ _ => id
          try simp only [putS]
          have st11 := ST11.out.drew
          have hzn := ST11.out.new
          have hcd := st11.cur
          refine sf_dag p z a len cap _ _ _ _ _ _ a4 d4 ps w11.drew _ ops hops (lt_of_cur hcd) (lt_of_heap st11.box) (by omega) hcd st11.box (RI11.out.below (Below.refl _ _).drew (Nat.le_refl _)) HSP.out (by rw [tot_D]; have := store_tot HSP.out; omega) ?_
          intro W w12 x na nc xa xc qn TT g cu b5 o5 hsq
          clear hops ops
          have st12 := (st11.grown cu g hp).below b5
          have ST13 := hide (st12.setStore hp (.slice xa qn.length xc))
          have RI13 := hide ((o5.box st12.box (grown_set w12 z 6 (.slice xa qn.length xc))).wide (hi' := (w12.setCell ⟨z, 6, none⟩ (.slice xa qn.length xc)).heap.size) (by simp))
          have HSQ := hide hsq
          clear st11 st12 hcd g cu b5 o5 hsq ST11 RI11
          go_wp2
          go_roundw
          case rel => exact ⟨k + 1, qn, _, by omega, by go_num, ST13.out, RI13.out, HSQ.out⟩
          case measure => simp [intOf]; omega
         ·obtain ⟨a3, d3, e3⟩ := owns_lenS ST11.out.o3
          have hbx := ST11.out.box
          rw [e3] at hbx
          have q0 := cells_at hbx 0
          have q1 := cells_at hbx 1
          have q2 := cells_at hbx 2
          have q3 := cells_at hbx 3
          have q4 := cells_at hbx 4
          have q5 := cells_at hbx 5
          have q6 := cells_at hbx 6
          simp at q0 q1 q2 q3 q4 q5 q6
          have r0 := cells_at ST11.out.res 0
          have r1 := cells_at ST11.out.res 1
          have r2 := cells_at ST11.out.res 2
          have r3 := cells_at ST11.out.res 3
          have r4 := cells_at ST11.out.res 4
          have r5 := cells_at ST11.out.res 5
          have r6 := cells_at ST11.out.res 6
          simp at r0 r1 r2 r3 r4 r5 r6
          have fr := frozen_at ST11.out.res
          clear hbx
          go_wp2
          have hst := ST11.out
          rw [e3] at hst
          have F := hst.out hp RI11.out
          (try simp only [Exit.inBlock, Exit.then])
          refine bodyPost_ret (results_cell_row rfl _ _ w.heap.size 31 #[.int .i64 (1 + yi), .int .i64 y, .int .i64 (N : Int), .slice a1 ls.length d1, .slice a2 ts.length d2, .slice a3 hd.length d3, .slice a4 ps.length d4] (0, 0) _ rfl F.1 Tryz.underlying31 rfl (by kernel_rfl)) rfl ?_
          have hto := store_tot HSP.out
          have hhl := HU.out.len
          have htt : tot ps ≤ 1050 := by rw [tot_D]; exact hto
          exact ⟨⟨1 + yi, y, ⟨(N : Int), ls, ts⟩, hd⟩, _, _, _, _, ps, rfl, by
           unfold selfB
           simp only []
           rw [HOK.out, inB_of (by omega) (by omega), inB_of (by omega) (by omega), HU.out.ok, HSP.out]
           rfl, by unfold totS; simp only []; omega, F.2.1, F.2.2.1, F.2.2.2⟩
theorem SelfSrc.box {W W' : World} {hi z : Nat} {v1 v2 v3 v4 : Value} {x : SelfD} {ps : List RP} {cs : Array Value} (h : SelfSrc W hi v1 v2 v3 v4 x ps) (hz : W.heap[z]? = some (.cells cs 31)) (hg : W.grownBy W' (some z)) : SelfSrc W' hi v1 v2 v3 v4 x ps where
 links := h.links.kept hg (.inr (owns_not h.links hz (by decide)))
 ltop := h.ltop
 things := h.things.kept hg (.inr (owns_not h.things hz (by decide)))
 ttop := h.ttop
 heard := h.heard.kept hg (.inr (owns_not h.heard hz (by decide)))
 htop := h.htop
 store := h.store.box hz hg
theorem SelfSrc.wide {W : World} {hi hi' : Nat} {v1 v2 v3 v4 : Value} {x : SelfD} {ps : List RP} (h : SelfSrc W hi v1 v2 v3 v4 x ps) (hh : hi ≤ hi') : SelfSrc W hi' v1 v2 v3 v4 x ps where
 links := h.links
 ltop := fun k e => Nat.lt_of_lt_of_le (h.ltop k e) hh
 things := h.things
 ttop := fun k e => Nat.lt_of_lt_of_le (h.ttop k e) hh
 heard := h.heard
 htop := fun k e => Nat.lt_of_lt_of_le (h.htop k e) hh
 store := h.store.wide hh
theorem drawSelf_any (a : Option Addr) (len cap : Nat) (w : World) (hc : Code w a len w.heap.size) :
  Calls Tryz.prog 9 #[.slice a len cap] w fun e w' => ∃ x v1 v2 v3 v4 ps, e = .returned (selfV x v1 v2 v3 v4) ∧ selfB x ps = true ∧ totS x ps ≤ 5000 ∧ SelfSrc w' w'.heap.size v1 v2 v3 v4 x ps ∧ Below w.heap.size w w' := by
 have B0 : Below w.heap.size w (w.alloc (.cells #[.int .i64 0, .int .i64 0, .int .i64 0, .slice none 0 0, .slice none 0 0, .slice none 0 0, .slice none 0 0] 31)) := (Below.refl _ _).alloc (Nat.le_refl _) _
 have g0 := heap_alloc_new w (.cells #[.int .i64 0, .int .i64 0, .int .i64 0, .slice none 0 0, .slice none 0 0, .slice none 0 0, .slice none 0 0] 31)
 have HN := hide (new_any a len cap (w.alloc (.cells #[.int .i64 0, .int .i64 0, .int .i64 0, .slice none 0 0, .slice none 0 0, .slice none 0 0, .slice none 0 0] 31)) (code_later hc B0))
 have G0 := hide g0
 clear hc g0
 go_enter Tryz.func9, Tryz.ntmps9
 go_wp2_with fail
 obtain ⟨w0, hw0⟩ : ∃ W, W = w.alloc (.cells #[.int .i64 0, .int .i64 0, .int .i64 0, .slice none 0 0, .slice none 0 0, .slice none 0 0, .slice none 0 0] 31) := ⟨_, rfl⟩
 rw [← hw0] at B0 HN G0 ⊢
 clear hw0
 refine HN.out.mono ?_
 rintro e w1 ⟨rfl, hc1, hb1⟩
 have hz0 := lt_of_heap G0.out
 have HS := hide (selfR_any w0.heap.size a len cap w1 hc1)
 have g1 := (hb1.block _ hz0).trans G0.out
 have B1 : Below w.heap.size w w1 := B0.trans (hb1.mono B0.size)
 have hs1 := hb1.size
 have G1 := hide g1
 clear hc1 hb1 g1 G0 HN
 go_wp2_with fail
 refine HS.out.mono ?_
 rintro e w2 ⟨x, v1, v2, v3, v4, ps, rfl, hok, htt, src, hc2, gr2⟩
 obtain ⟨⟨a1, a1c, rfl⟩, ⟨a2, a2c, rfl⟩, ⟨a3, a3c, rfl⟩, ⟨a4, a4c, rfl⟩⟩ := src.in.shapes
 have g2 := (gr2.block _ (lt_of_heap G1.out) (by simp; omega)).trans G1.out
 have B2 : Below w.heap.size w w2 := B1.grown gr2 B1.size (fun k hk => by simp at hk; omega)
 have r0 := cells_at g2 0
 have r1 := cells_at g2 1
 have r2 := cells_at g2 2
 have r3 := cells_at g2 3
 have r4 := cells_at g2 4
 have r5 := cells_at g2 5
 have r6 := cells_at g2 6
 simp at r0 r1 r2 r3 r4 r5 r6
 have fr := frozen_at g2
 have e0 := heap_setCell_same _ _ 0 _ _ (.int .i64 x.id) g2
 have e1 := heap_setCell_same _ _ 1 _ _ (.int .i64 x.boot) e0
 have e2 := heap_setCell_same _ _ 2 _ _ (.int .i64 x.net.n) e1
 have e3 := heap_setCell_same _ _ 3 _ _ (.slice a1 x.net.ls.length a1c) e2
 have e4 := heap_setCell_same _ _ 4 _ _ (.slice a2 x.net.ts.length a2c) e3
 have e5 := heap_setCell_same _ _ 5 _ _ (.slice a3 x.heard.length a3c) e4
 have e6 := heap_setCell_same _ _ 6 _ _ (.slice a4 ps.length a4c) e5
 have hg : w2.grownBy (((((((w2.setCell ⟨w.heap.size, 0, none⟩ (.int .i64 x.id)).setCell ⟨w.heap.size, 1, none⟩ (.int .i64 x.boot)).setCell ⟨w.heap.size, 2, none⟩ (.int .i64 x.net.n)).setCell ⟨w.heap.size, 3, none⟩ (.slice a1 x.net.ls.length a1c)).setCell ⟨w.heap.size, 4, none⟩ (.slice a2 x.net.ts.length a2c)).setCell ⟨w.heap.size, 5, none⟩ (.slice a3 x.heard.length a3c)).setCell ⟨w.heap.size, 6, none⟩ (.slice a4 ps.length a4c)) (some w.heap.size) := (grown_trans (grown_trans (grown_trans (grown_trans (grown_trans (grown_trans (grown_set w2 w.heap.size _ _) (grown_set _ w.heap.size _ _)) (grown_set _ w.heap.size _ _)) (grown_set _ w.heap.size _ _)) (grown_set _ w.heap.size _ _)) (grown_set _ w.heap.size _ _)) (grown_set _ w.heap.size _ _))
 have S2 := hide ((src.box g2 hg).wide hg.size)
 have hB : Below w.heap.size w (((((((w2.setCell ⟨w.heap.size, 0, none⟩ (.int .i64 x.id)).setCell ⟨w.heap.size, 1, none⟩ (.int .i64 x.boot)).setCell ⟨w.heap.size, 2, none⟩ (.int .i64 x.net.n)).setCell ⟨w.heap.size, 3, none⟩ (.slice a1 x.net.ls.length a1c)).setCell ⟨w.heap.size, 4, none⟩ (.slice a2 x.net.ts.length a2c)).setCell ⟨w.heap.size, 5, none⟩ (.slice a3 x.heard.length a3c)).setCell ⟨w.heap.size, 6, none⟩ (.slice a4 ps.length a4c)) := B2.grown hg (by have := lt_of_heap g2; omega) (fun k hk => by simp at hk; omega)
 have HB := hide hB
 have HF := hide e6
 have HOK := hide hok
 have HTT := hide htt
 clear e0 e1 e2 e3 e4 e5 e6 hg hB src g2 G1 gr2 hc2 hok htt HS B1 B2
 go_wp2
 (try simp only [Exit.inBlock, Exit.then])
 refine bodyPost_ret (results_cell_row rfl _ _ w.heap.size 31 #[.int .i64 x.id, .int .i64 x.boot, .int .i64 x.net.n, .slice a1 x.net.ls.length a1c, .slice a2 x.net.ts.length a2c, .slice a3 x.heard.length a3c, .slice a4 ps.length a4c] (0, 0) _ rfl HF.out Tryz.underlying31 rfl (by kernel_rfl)) rfl ?_
 exact ⟨x, _, _, _, _, ps, rfl, HOK.out, HTT.out, S2.out, HB.out⟩
theorem RecsOwn.push2 {Wa W2 : World} {lo hi : Nat} {v v' : Value} {qs : List RP} {p : RP} (h : RecsOwn Wa lo hi v qs) (hhi : hi ≤ Wa.heap.size) (hlo : lo ≤ hi) (hp : NearOwn Wa hi Wa.heap.size p)
  (row : W2.ownsRow lo 39 8 v' (qs.length + 1) (flat encP (qs ++ [p]))) (hg : Wa.grownBy W2 v.ownBlock) : RecsOwn W2 lo W2.heap.size v' (qs ++ [p]) where
 row := by simpa using row
 top := fun k hk => (row.lt k hk).2
 apart := apart_add h.apart h.nears (fun k hk => (hp.1.lt k hk).1)
 nears := by
  have key : ∀ q, NearOwn Wa lo Wa.heap.size q → NearOwn W2 lo W2.heap.size q := fun q hq =>
   ⟨owns_keepB hq.1 (fun j hj => hg.block j (hq.2 j hj) (near_row_ne hq h.row j hj)), fun k hk => Nat.lt_of_lt_of_le (hq.2 k hk) hg.size⟩
  intro q hq
  rcases List.mem_append.1 hq with h1 | h1
  ·exact key q ((h.nears q h1).wide (Nat.le_refl _) hhi)
  ·have : q = p := by simpa using h1
   subst this
   exact key q (hp.wide hlo (Nat.le_refl _))
theorem RecsOwn.grownP {W W' : World} {lo hi p : Nat} {v : Value} {ps : List RP} (h : RecsOwn W lo hi v ps) (hg : W.grownBy W' (some p)) (hp : p < lo) : RecsOwn W' lo hi v ps := h.keep (fun k h1 _ h3 => hg.block k h3 (by simp; omega))
theorem drawRecs_any (a : Option Addr) (len cap : Nat) (w : World) (hc : Code w a len w.heap.size) :
  Calls Tryz.prog 20 #[.slice a len cap] w fun e w' => ∃ (v : Value) (qs : List RP), e = .returned v ∧ RecsOwn w' w.heap.size w'.heap.size v qs ∧ (∀ p ∈ qs, recOkB p.1 = true) ∧ qs.length ≤ 13 ∧ Below w.heap.size w w' := by
 have HC := hide hc
 clear hc
 go_enter Tryz.func20, Tryz.ntmps20
 go_wp2_with fail
 refine (new_any a len cap w HC.out).mono ?_
 rintro e w1 ⟨rfl, hc1, hb1⟩
 have hp1 := lt_of_cur hc1
 obtain ⟨p, hpe⟩ : ∃ p, p = w.heap.size := ⟨_, rfl⟩
 have HPE := hide hpe
 rw [← hpe] at hc1 hp1 ⊢
 have C2 := hide (cur_alloc hc1 (.cells #[] 39))
 have R2 := hide (recs_lit w1 (p + 1) hp1)
 have G2 := hide (hb1.alloc hb1.size (.cells #[] 39))
 clear hc1 hb1 HC hpe
 go_wp2
 generalize w1.alloc (.cells #[] 39) = w2 at *
 go_loopw [5, 4] (fun i o wr => ∃ (k : Nat) (qs : List RP) (u : Value), k ≤ 13 ∧ i = .int .i64 k ∧ o = u ∧ qs.length = k ∧ Hid (∀ q ∈ qs, recOkB q.1 = true) ∧ RecsOwn wr (p + 1) wr.heap.size u qs ∧ p < wr.heap.size ∧ Cur wr p a len cap ∧ Below w.heap.size w wr) (fun i _ _ => 14 - (intOf i).toNat)
 case atStart => exact ⟨0, [], _, by omega, rfl, rfl, rfl, hide (by simp), R2.out, lt_of_cur C2.out, C2.out, G2.out⟩
 case round =>
  obtain ⟨k, qs, u, hk, rfl, rfl, hql, HOK, hown, hpr, hcr, hnx⟩ := hrel
  obtain ⟨ua, uc, rfl⟩ := owns_lenS hown.row
  have hsz := hnx.size
  have OW := hide hown
  have HCR := hide hcr
  have HQL := hide hql
  clear hown hcr hql
  go_wp2_with fail
  refine (below_any p a len cap 14 _ HCR.out (by omega) (by omega)).mono ?_
  rintro e w3 ⟨y, rfl, hy0, hy1, hc3, hg3⟩
  have s3 := hg3.size
  have OW3 := hide ((OW.out.grownP hg3 (by omega)).wide (Nat.le_refl _) s3)
  have B3 : Below w.heap.size w w3 := hnx.grown hg3 hsz (fun j hj => by have := HPE.out; simp at hj; omega)
  have C3 := hide hc3
  clear hc3 hg3 OW HCR
  by_cases hlt : (k : Int) < y
  ·go_wp2_with fail
   refine (recR_any p a len cap _ C3.out).mono ?_
   rintro e w4 ⟨x, n1, rfl, ho4, hl4, hok4, hc4, hg4⟩
   have s4 := hg4.size
   have OW4 := hide (OW3.out.grownP hg4 (by omega))
   have C4 := hide hc4
   have HOK4 := hide hok4
   have B4 : Below w.heap.size w w4 := B3.grown hg4 B3.size (fun j hj => by have := HPE.out; simp at hj; omega)
   have hn4 : NearOwn w4 w3.heap.size w4.heap.size (x, n1) := ⟨owns_baseS ho4 (by omega), fun k hk => (ho4.lt k hk).2⟩
   obtain ⟨na, nc, rfl⟩ := owns_lenS ho4
   have HN4 := hide hn4
   clear hc4 hg4 ho4 hok4 OW3 C3 hn4
   unfold recC
   have HQ2 := hide (show qs.length ≤ 1048576 by have := HQL.out; omega)
   go_wp2_with (first
    | (at_builtin; refine append_struct5 encP_len (by omega) (by omega) _ rfl _ _ 29 rfl (p + 1) 39 Tryz.underlying29 (.agg (recC zeroRD (.slice none 0 0))) rfl Tryz.infoRec _ qs (x, .slice na x.near.length nc) (encP_one _ _ _ _) rfl (OW4.out.row.alloc _) ⟨w4.heap.size, 0, none⟩ 1 rfl (news_struct (cs := encP (x, .slice na x.near.length nc))) (by have := HQ2.out; omega) (by simp; omega) ?_))
   intro v' w5 hown' hgrow
   have h4 := (OW4.out.keep (W' := w4.alloc (.cells (encP (x, .slice na x.near.length nc)).toArray 39)) (fun j _ _ h3 => Below.heap_alloc _ _ _ h3))
   have ow5 := h4.push2 (p := (x, .slice na x.near.length nc)) (by simp; omega) (by omega) ((HN4.out.keep (fun j _ _ h3 => Below.heap_alloc _ _ _ h3)).wide (Nat.le_refl _) (by simp)) hown' hgrow
   obtain ⟨va, vc, rfl⟩ := owns_lenS hown'
   have B5 : Below w.heap.size w w5 := (B4.alloc B4.size _).grown hgrow (by simp; have := B4.size; omega) (fun j hj => by have := (h4.row.lt j hj).1; have := HPE.out; omega)
   have C5 := hide ((cur_alloc C4.out (.cells (encP (x, .slice na x.near.length nc)).toArray 39)).grown hgrow (fun b hb e => by have := (h4.row.lt b e.symm).1; omega))
   have OW5 := hide ow5
   have HOK5 := hide (show ∀ q ∈ qs ++ [(x, .slice na x.near.length nc)], recOkB q.1 = true by
    intro q hq
    rcases List.mem_append.1 hq with h1 | h1
    ·exact HOK.out q h1
    ·have : q = (x, .slice na x.near.length nc) := by simpa using h1
     subst this
     exact HOK4.out)
   have hs5 : p < w5.heap.size := lt_of_cur C5.out
   clear ow5 h4 hown' hgrow
   go_wp2
   go_roundw
   case rel => exact ⟨k + 1, qs ++ [(x, .slice na x.near.length nc)], _, by omega, by go_num, rfl, by have := HQL.out; simp; omega, HOK5, OW5.out, hs5, C5.out, B5⟩
   case measure => simp [intOf]; omega
  ·go_wp2
   go_ret
   have hp2 := HPE.out
   have O3 := OW3.out.wide (show w.heap.size ≤ p + 1 by omega) (Nat.le_refl _)
   first
    | exact ⟨_, qs, rfl, O3, HOK.out, by have := HQL.out; omega, B3⟩
    | exact ⟨_, rfl, qs, O3, HOK.out, by have := HQL.out; omega, B3⟩
theorem wpList_build0 {w : World} {ops : Array Oper} {rest : List Oper} {o : Oper} {a : Act} {Q : Exit → Act → World → Prop} (hgd : o.guard = none)
  (ho : o.op = .buildSlice 29 0 #[]) (h : ∀ W, Hid (W = w.alloc (.cells #[] 39)) → wpList Tryz.prog ops Q rest (a.put o.dst (.slice (some ⟨w.heap.size, 0, none⟩) 0 0)) W) : wpList Tryz.prog ops Q (o :: rest) a w :=
 wpList_plain hgd fun _ hK => by
  unfold Oper.wp execOp
  rw [ho]
  have h2 := hK _ _ (h _ (hide rfl))
  go_simp
  exact h2
end Go.Proofs.YtmijnjnihhemgaaGreat
