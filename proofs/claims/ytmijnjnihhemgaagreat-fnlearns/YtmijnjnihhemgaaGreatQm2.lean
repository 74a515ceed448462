/-
  spec.l03PutThing: its contract.
  The cursor of a draw: spec.l01Byte, l01Below, l01Once: some number in its range comes back; nothing but the cursor's own block turns.
  spec.l01Below: some answer in its range.
  A cursor over the bytes of a draw: spec.l01New, l01Once, l01PickInt; laws.big.
  Lists that ascend, lists all of whose elements are right.
  impl.isIn, cmp.isNaN, cmp.Compare: their contracts.
  cmp.Compare, cmp.Or, impl.orderOfLinks, impl.orderOfThings: their contracts.
  impl.isIn, impl.LinkOk: their contracts.
  impl.ascends of links and of things: their contracts.
-/
import Derived.Test.YtmijnjnihhemgaaGreatQm1
import Derived.Deep.RegionHeld3
import Derived.Deep.QuietTactic
import Derived.BigQuiet
namespace Go.Proofs.YtmijnjnihhemgaaGreat
open Go.RowKit
set_option linter.unusedSimpArgs false
set_option linter.unusedVariables false
set_option maxRecDepth 100000
set_option maxHeartbeats 8000000
theorem thE_one (l : Th) : ∀ u ∈ thE l, u.oneCell' = true := by
 intro u hu
 simp only [thE, List.mem_cons, List.not_mem_nil, or_false] at hu
 rcases hu with rfl | rfl | rfl | rfl <;> rfl
def putT (ls : List Th) (l : Th) : List Th := ls.filter (fun x => thingB x l) ++ [l] ++ ls.filter (fun x => thingB l x)
theorem putT_any (v : Value) (ls : List Th) (l : Th) (w : World) (hls : ls.length ≤ 1000) (hv : ThingsAt w v ls w.heap.size) :
  Calls Tryz.prog 163 #[v, thV l] w fun e w' => ∃ x, e = .returned x ∧ w'.ownsRow (w.heap.size + 1) 87 4 x (putT ls l).length (flat thE (putT ls l)) ∧ Below w.heap.size w w' := by
 obtain ⟨a, cap, rfl⟩ := hv.shape
 have HV := hide hv
 clear hv
 obtain ⟨la, lb, lc, lr⟩ := l
 unfold thV
 simp only []
 go_enter Tryz.func163, Tryz.ntmps163
 go_wp2
 go_loopw [5, 6] (fun u i wr => ∃ k : Nat, k ≤ ls.length ∧ i = .int .i64 k ∧ wr.ownsRow (w.heap.size + 1) 87 4 u ((ls.take k).filter (fun x => thingB x ⟨la, lb, lc, lr⟩)).length (flat thE ((ls.take k).filter (fun x => thingB x ⟨la, lb, lc, lr⟩))) ∧ Below w.heap.size w wr ∧ wr.heap[w.heap.size]? = some (.cells #[.int .i64 la, .int .i64 lb, .int .i64 lc, .bool lr] 87)) (fun _ i _ => ls.length - (intOf i).toNat)
 case atStart =>
  refine ⟨0, by omega, rfl, ?_, ?_, ?_⟩
  ·have h := World.ownsRow_lit (base := w.heap.size + 1) (e := 87) (size := 4) (w.alloc (.cells #[.int .i64 la, .int .i64 lb, .int .i64 lc, .bool lr] 87)) #[] 0 (by simp) (by decide) rfl
   simpa [flat] using h
  ·exact ((Below.refl _ _).alloc (Nat.le_refl _) _).alloc (by simp) _
  ·rw [Below.heap_alloc _ _ _ (by simp), heap_alloc_new]
 case round =>
  obtain ⟨k, hk, rfl, hown, hb, hx⟩ := hrel
  have hfl := filt_len (fun x => thingB x ⟨la, lb, lc, lr⟩) ls k
  have hxl := lt_of_heap hx
  by_cases hlt : k < ls.length
  ·obtain ⟨x, hl⟩ : ∃ l, ls[k]? = some l := ⟨ls[k], List.getElem?_eq_getElem hlt⟩
   obtain ⟨b, off, cap', hve, hbb, c0, c1, c2, c3⟩ := HV.out.cells k x hl
   cases hve
   have d0 := c0
   have d1 := c1
   have d2 := c2
   have d3 := c3
   rw [← hb.cell (p := ⟨b, off + k * 4, none⟩) hbb] at c0
   rw [← hb.cell (p := ⟨b, off + k * 4 + 1, none⟩) hbb] at c1
   rw [← hb.cell (p := ⟨b, off + k * 4 + 2, none⟩) hbb] at c2
   rw [← hb.cell (p := ⟨b, off + k * 4 + 3, none⟩) hbb] at c3
   have g0 := cells_at hx 0
   have g1 := cells_at hx 1
   have g2 := cells_at hx 2
   have g3 := cells_at hx 3
   simp at g0 g1 g2 g3
   have hzr := hb.size
   have hbr : b < wr.heap.size := by omega
   have hki : (0 : Int) ≤ (k : Int) := by omega
   have hkj : (k : Int) < (ls.length : Int) := by omega
   obtain ⟨q, hq⟩ : ∃ q, q = thingB x ⟨la, lb, lc, lr⟩ := ⟨_, rfl⟩
   have hah := sthing_any x ⟨la, lb, lc, lr⟩
   rw [← hq] at hah
   unfold thV at hah
   have HAH := hide hah
   have OW := hide hown
   have HX := hide hx
   have HL := hide hl
   have HQ := hide hq
   have D0 := hide d0
   have D1 := hide d1
   have D2 := hide d2
   have D3 := hide d3
   clear hah hown hx hl hq d0 d1 d2 d3
   go_wp2
   go_region_held3 (fun W => W.cell? ⟨b, off + k * 4, none⟩ = some (.int .i64 x.o) ∧ W.cell? ⟨b, off + k * 4 + 1, none⟩ = some (.int .i64 x.k) ∧ W.cell? ⟨b, off + k * 4 + 2, none⟩ = some (.int .i64 x.c) ∧ W.cell? ⟨b, off + k * 4 + 3, none⟩ = some (.bool x.f) ∧ W.cell? ⟨w.heap.size, 0, none⟩ = some (.int .i64 la) ∧ W.cell? ⟨w.heap.size, 1, none⟩ = some (.int .i64 lb) ∧ W.cell? ⟨w.heap.size, 2, none⟩ = some (.int .i64 lc) ∧ W.cell? ⟨w.heap.size, 3, none⟩ = some (.bool lr)) (first | go_keep | (refine ⟨?_, ?_, ?_, ?_, ?_, ?_, ?_, ?_⟩ <;> (rw [hbc.cell (by assumption)]; assumption))) (first | (go_at_call 166; refine (HAH.out _).mono ?_; rintro e w1 ⟨rfl, hbc⟩))
   have B1 : Below w.heap.size w w1 := hb.drew.trans (hbc.mono hb.size)
   have hx1 : w1.heap[w.heap.size]? = some (.cells #[.int .i64 la, .int .i64 lb, .int .i64 lc, .bool lr] 87) := by rw [hbc.block _ hxl]; exact HX.out
   have hown1 := owns_below OW.out.drew hbc (Nat.le_refl _)
   have c0 := D0.out
   have c1 := D1.out
   have c2 := D2.out
   have c3 := D3.out
   rw [← B1.cell (p := ⟨b, off + k * 4, none⟩) hbb] at c0
   rw [← B1.cell (p := ⟨b, off + k * 4 + 1, none⟩) hbb] at c1
   rw [← B1.cell (p := ⟨b, off + k * 4 + 2, none⟩) hbb] at c2
   rw [← B1.cell (p := ⟨b, off + k * 4 + 3, none⟩) hbb] at c3
   have hxl1 := lt_of_heap hx1
   have HX1 := hide hx1
   have OW1 := hide hown1
   clear hx1 hown1 hbc
   cases q
   ·have hs := filt_no (p := fun x => thingB x ⟨la, lb, lc, lr⟩) HL.out HQ.out.symm
    have HS := hide hs
    clear hs
    go_wp2
    go_roundw
    case rel => exact ⟨k + 1, by omega, by go_num, by rw [HS.out]; exact OW1.out, B1, HX1.out⟩
    case measure => simp [intOf]; omega
   ·have hs := filt_yes (p := fun x => thingB x ⟨la, lb, lc, lr⟩) HL.out HQ.out.symm
    have HS := hide hs
    clear hs
    go_wp2_with (first
     | (at_builtin; refine wpList_append_struct thE_len (by omega) thE_one (by omega) _ rfl _ _ 25 rfl (w.heap.size + 1) 87 Tryz.underlying25 (thV th0) rfl Tryz.infoTh u5 _ x rfl (OW1.out.alloc _) ⟨w1.heap.size, 0, none⟩ 1 rfl (news_struct (cs := thE x)) (by omega) (by simp; omega) ?_))
    intro v' w2 l' hl' hown' hgrow
    have B2 : Below w.heap.size w w2 := (B1.alloc B1.size _).grown hgrow (by simp; omega) (fun k hk => by have := (OW1.out.lt k hk).1; omega)
    have hx2 : w2.heap[w.heap.size]? = some (.cells #[.int .i64 la, .int .i64 lb, .int .i64 lc, .bool lr] 87) := by rw [heap_grown_below (OW1.out.alloc _) hgrow (by omega) (by simp; omega), Below.heap_alloc _ _ _ hxl1]; exact HX1.out
    have HX2 := hide hx2
    have OW2 := hide hown'
    clear hx2 hown' hgrow
    go_wp2
    go_roundw
    case rel => exact ⟨k + 1, by omega, by go_num, by rw [HS.out, ← hl'.out]; exact OW2.out, B2, HX2.out⟩
    case measure => simp [intOf]; omega
  ·have hk' : k = ls.length := by omega
   rw [hk', List.take_length] at hown
   have g0 := cells_at hx 0
   have g1 := cells_at hx 1
   have g2 := cells_at hx 2
   have g3 := cells_at hx 3
   simp at g0 g1 g2 g3
   have hzr := hb.size
   have hfl2 : (ls.filter (fun x => thingB x ⟨la, lb, lc, lr⟩)).length ≤ ls.length := List.length_filter_le _ _
   have OW := hide hown
   have HX := hide hx
   clear hown hx hk'
   obtain ⟨wo, rfl⟩ : ∃ wo : World, wo = wr := ⟨_, rfl⟩
   go_wp2_with (first
    | (at_builtin; refine wpList_append_struct thE_len (by omega) thE_one (by omega) _ rfl _ _ 25 rfl (w.heap.size + 1) 87 Tryz.underlying25 (thV th0) rfl Tryz.infoTh u5 _ ⟨la, lb, lc, lr⟩ rfl (OW.out.alloc _) ⟨wo.heap.size, 0, none⟩ 1 rfl (news_struct (cs := thE ⟨la, lb, lc, lr⟩)) (by omega) (by simp; omega) ?_))
   intro v' w2 l' hl' hown' hgrow
   have B2 : Below w.heap.size w w2 := (hb.alloc hb.size _).grown hgrow (by simp; omega) (fun k hk => by have := (OW.out.lt k hk).1; omega)
   have hx2 : w2.heap[w.heap.size]? = some (.cells #[.int .i64 la, .int .i64 lb, .int .i64 lc, .bool lr] 87) := by rw [heap_grown_below (OW.out.alloc _) hgrow (by omega) (by simp; omega), Below.heap_alloc _ _ _ hxl]; exact HX.out
   have hll : l'.length ≤ ls.length + 1 := by rw [hl'.out]; simp; omega
   have HX2 := hide hx2
   have OW2 := hide hown'
   clear hx2 hown' hgrow hlt
   go_wp2
   go_loopw [5, 7] (fun u i wr => ∃ k : Nat, k ≤ ls.length ∧ i = .int .i64 k ∧ wr.ownsRow (w.heap.size + 1) 87 4 u (l' ++ (ls.take k).filter (fun x => thingB ⟨la, lb, lc, lr⟩ x)).length (flat thE (l' ++ (ls.take k).filter (fun x => thingB ⟨la, lb, lc, lr⟩ x))) ∧ Below w.heap.size w wr ∧ wr.heap[w.heap.size]? = some (.cells #[.int .i64 la, .int .i64 lb, .int .i64 lc, .bool lr] 87)) (fun _ i _ => ls.length - (intOf i).toNat)
   case atStart => exact ⟨0, by omega, rfl, by simpa using OW2.out, B2, HX2.out⟩
   case round =>
    clear OW2 HX2 B2 OW HX hb g0 g1 g2 g3 hzr hxl
    obtain ⟨k, hk, rfl, hown, hb, hx⟩ := hrel
    have hfl := filt_len (fun x => thingB ⟨la, lb, lc, lr⟩ x) ls k
    have hfl3 : (l' ++ (ls.take k).filter (fun x => thingB ⟨la, lb, lc, lr⟩ x)).length ≤ 2 * ls.length + 1 := by rw [List.length_append]; omega
    have hxl := lt_of_heap hx
    by_cases hlt : k < ls.length
    ·obtain ⟨x, hl⟩ : ∃ l, ls[k]? = some l := ⟨ls[k], List.getElem?_eq_getElem hlt⟩
     obtain ⟨b, off, cap', hve, hbb, c0, c1, c2, c3⟩ := HV.out.cells k x hl
     cases hve
     have d0 := c0
     have d1 := c1
     have d2 := c2
     have d3 := c3
     rw [← hb.cell (p := ⟨b, off + k * 4, none⟩) hbb] at c0
     rw [← hb.cell (p := ⟨b, off + k * 4 + 1, none⟩) hbb] at c1
     rw [← hb.cell (p := ⟨b, off + k * 4 + 2, none⟩) hbb] at c2
     rw [← hb.cell (p := ⟨b, off + k * 4 + 3, none⟩) hbb] at c3
     have g0 := cells_at hx 0
     have g1 := cells_at hx 1
     have g2 := cells_at hx 2
     have g3 := cells_at hx 3
     simp at g0 g1 g2 g3
     have hzr := hb.size
     have hbr : b < wr.heap.size := by omega
     have hki : (0 : Int) ≤ (k : Int) := by omega
     have hkj : (k : Int) < (ls.length : Int) := by omega
     obtain ⟨q, hq⟩ : ∃ q, q = thingB ⟨la, lb, lc, lr⟩ x := ⟨_, rfl⟩
     have hah := sthing_any ⟨la, lb, lc, lr⟩ x
     rw [← hq] at hah
     unfold thV at hah
     have HAH := hide hah
     have OW := hide hown
     have HX := hide hx
     have HL := hide hl
     have HQ := hide hq
     have D0 := hide d0
     have D1 := hide d1
     have D2 := hide d2
     have D3 := hide d3
     clear hah hown hx hl hq d0 d1 d2 d3
     go_wp2
     go_region_held3 (fun W => W.cell? ⟨b, off + k * 4, none⟩ = some (.int .i64 x.o) ∧ W.cell? ⟨b, off + k * 4 + 1, none⟩ = some (.int .i64 x.k) ∧ W.cell? ⟨b, off + k * 4 + 2, none⟩ = some (.int .i64 x.c) ∧ W.cell? ⟨b, off + k * 4 + 3, none⟩ = some (.bool x.f) ∧ W.cell? ⟨w.heap.size, 0, none⟩ = some (.int .i64 la) ∧ W.cell? ⟨w.heap.size, 1, none⟩ = some (.int .i64 lb) ∧ W.cell? ⟨w.heap.size, 2, none⟩ = some (.int .i64 lc) ∧ W.cell? ⟨w.heap.size, 3, none⟩ = some (.bool lr)) (first | go_keep | (refine ⟨?_, ?_, ?_, ?_, ?_, ?_, ?_, ?_⟩ <;> (rw [hbc.cell (by assumption)]; assumption))) (first | (go_at_call 166; refine (HAH.out _).mono ?_; rintro e w1 ⟨rfl, hbc⟩))
     have B1 : Below w.heap.size w w1 := hb.drew.trans (hbc.mono hb.size)
     have hx1 : w1.heap[w.heap.size]? = some (.cells #[.int .i64 la, .int .i64 lb, .int .i64 lc, .bool lr] 87) := by rw [hbc.block _ hxl]; exact HX.out
     have hown1 := owns_below OW.out.drew hbc (Nat.le_refl _)
     have c0 := D0.out
     have c1 := D1.out
     have c2 := D2.out
     have c3 := D3.out
     rw [← B1.cell (p := ⟨b, off + k * 4, none⟩) hbb] at c0
     rw [← B1.cell (p := ⟨b, off + k * 4 + 1, none⟩) hbb] at c1
     rw [← B1.cell (p := ⟨b, off + k * 4 + 2, none⟩) hbb] at c2
     rw [← B1.cell (p := ⟨b, off + k * 4 + 3, none⟩) hbb] at c3
     have hxl1 := lt_of_heap hx1
     have HX1 := hide hx1
     have OW1 := hide hown1
     clear hx1 hown1 hbc
     cases q
     ·have hs := filt_no (p := fun x => thingB ⟨la, lb, lc, lr⟩ x) HL.out HQ.out.symm
      have HS := hide hs
      clear hs
      go_wp2
      go_roundw
      case rel => exact ⟨k + 1, by omega, by go_num, by rw [HS.out]; exact OW1.out, B1, HX1.out⟩
      case measure => simp [intOf]; omega
     ·have hs := filt_yes (p := fun x => thingB ⟨la, lb, lc, lr⟩ x) HL.out HQ.out.symm
      have HS := hide hs
      clear hs
      go_wp2_with (first
       | (at_builtin; refine wpList_append_struct thE_len (by omega) thE_one (by omega) _ rfl _ _ 25 rfl (w.heap.size + 1) 87 Tryz.underlying25 (thV th0) rfl Tryz.infoTh u5 _ x rfl (OW1.out.alloc _) ⟨w1.heap.size, 0, none⟩ 1 rfl (news_struct (cs := thE x)) (by omega) (by simp; omega) ?_))
      intro v' w2 l2 hl2 hown' hgrow
      have B2 : Below w.heap.size w w2 := (B1.alloc B1.size _).grown hgrow (by simp; omega) (fun k hk => by have := (OW1.out.lt k hk).1; omega)
      have hx2 : w2.heap[w.heap.size]? = some (.cells #[.int .i64 la, .int .i64 lb, .int .i64 lc, .bool lr] 87) := by rw [heap_grown_below (OW1.out.alloc _) hgrow (by omega) (by simp; omega), Below.heap_alloc _ _ _ hxl1]; exact HX1.out
      have HX2 := hide hx2
      have OW2 := hide hown'
      clear hx2 hown' hgrow
      go_wp2
      go_roundw
      case rel => exact ⟨k + 1, by omega, by go_num, by rw [HS.out]; first | (rw [← hl2.out]; exact OW2.out) | (rw [← List.append_assoc, ← hl2.out]; exact OW2.out), B2, HX2.out⟩
      case measure => simp [intOf]; omega
    ·have hk' : k = ls.length := by omega
     rw [hk', List.take_length] at hown
     have OW := hide hown
     clear hown hk'
     go_wp2
     go_ret
     exact ⟨_, rfl, by unfold putT; rw [← hl'.out]; exact OW.out, hb⟩
def Code (w : World) (a : Option Addr) (len p : Nat) : Prop :=
 len ≤ 1048576 ∧ (len = 0 ∨ ∃ b off, a = some ⟨b, off, none⟩ ∧ b < p ∧ ∀ i, i < len → ∃ x : Nat, x < 256 ∧ w.cell? ⟨b, off + i, none⟩ = some (.int .u8 (x : Int)))
def Cur (w : World) (p : Nat) (a : Option Addr) (len cap : Nat) : Prop :=
 (∃ (i : Nat) (h : Int), i ≤ len ∧ w.heap[p]? = some (.cells #[.slice a len cap, .int .i64 (i : Int), .int .i64 h] 145 (0, 0))) ∧ Code w a len p
theorem and255 (n : Int) : 0 ≤ bits .and .i64 n 255 ∧ bits .and .i64 n 255 ≤ 255 := by
 have key : (BitVec.ofInt 64 n &&& BitVec.ofInt 64 255).toNat ≤ 255 := by
  rw [BitVec.toNat_and]
  exact Nat.le_trans Nat.and_le_right (by decide)
 have e : bits .and .i64 n 255 = IntKind.i64.wrap ((BitVec.ofInt 64 n &&& BitVec.ofInt 64 255).toNat : Nat) := rfl
 rw [e, IntKind.wrap_i64]
 omega
theorem Code.grown {w w' : World} {a : Option Addr} {len p : Nat} {row : Option Nat} (h : Code w a len p) (hg : w.grownBy w' row) (hr : ∀ b, b < p → some b ≠ row) : Code w' a len p := by
 refine ⟨h.1, ?_⟩
 rcases h.2 with h0 | ⟨b, off, ha, hb, hx⟩
 ·exact .inl h0
 ·refine .inr ⟨b, off, ha, hb, fun i hi => ?_⟩
  obtain ⟨x, h1, h2⟩ := hx i hi
  exact ⟨x, h1, hg.cell h2 (hr b hb)⟩
theorem Cur.grown {w w' : World} {p : Nat} {a : Option Addr} {len cap : Nat} {row : Option Nat} (h : Cur w p a len cap) (hg : w.grownBy w' row) (hr : ∀ b, b ≤ p → some b ≠ row) : Cur w' p a len cap := by
 obtain ⟨⟨i, hh, hi, e⟩, hc⟩ := h
 refine ⟨⟨i, hh, hi, ?_⟩, hc.grown hg (fun b hb => hr b (by omega))⟩
 have hlt : p < w.heap.size := by
  rcases Nat.lt_or_ge p w.heap.size with hl | hl
  ·exact hl
  ·rw [Array.getElem?_eq_none hl] at e; cases e
 rw [hg.block p hlt (hr p (Nat.le_refl _))]
 exact e
theorem Cur.end {w W2 : World} {p : Nat} {a : Option Addr} {len cap : Nat} (hc : Code w a len p) (hg : w.grownBy W2 (some p)) (i : Nat) (h : Int) (hi : i ≤ len)
  (hh : W2.heap[p]? = some (.cells #[.slice a len cap, .int .i64 (i : Int), .int .i64 h] 145 (0, 0))) : Cur W2 p a len cap ∧ w.grownBy W2 (some p) :=
 ⟨⟨⟨i, h, hi, hh⟩, hc.grown hg (fun b hb => by simp; omega)⟩, hg⟩
theorem byte_any (p : Nat) (a : Option Addr) (len cap : Nat) (w : World) (hc : Cur w p a len cap) :
  Calls Tryz.prog 145 #[.pointer (some ⟨p, 0, none⟩)] w fun e w' => ∃ x : Int, e = .returned (.int .i64 x) ∧ 0 ≤ x ∧ x ≤ 255 ∧ Cur w' p a len cap ∧ w.grownBy w' (some p) := by
 obtain ⟨⟨i, h, hi, hh⟩, hlen, hcode⟩ := hc
 have c0 := cells_at hh 0
 have c1 := cells_at hh 1
 have c2 := cells_at hh 2
 have f1 := frozen_at hh 1
 have f2 := frozen_at hh 2
 simp at c0 c1 c2
 have HH := hide hh
 have HC := hide hcode
 clear hh hcode
 go_enter Tryz.func145, Tryz.ntmps145
 go_wp2
 generalize wrap64 (wrap64 (h * 6364136223846793005) + 1442695040888963407) = h2
 have hh2 : (w.setCell ⟨p, 2, none⟩ (.int .i64 h2)).heap[p]? = some (.cells #[.slice a len cap, .int .i64 (i : Int), .int .i64 h2] 145 (0, 0)) := by
  rw [heap_setCell_same w p 2 _ _ _ HH.out]; rfl
 have hg1 : w.grownBy (w.setCell ⟨p, 2, none⟩ (.int .i64 h2)) (some p) := ⟨rfl, rfl, rfl, by simp, fun k _ hk => heap_setCell_other w ⟨p, 2, none⟩ k _ (fun e => hk (by simp [e]))⟩
 generalize w.setCell ⟨p, 2, none⟩ (.int .i64 h2) = W1 at hh2 hg1 ⊢
 have d0 := cells_at hh2 0
 have d1 := cells_at hh2 1
 have d2 := cells_at hh2 2
 have e1 := frozen_at hh2 1
 simp at d0 d1 d2
 have HH2 := hide hh2
 clear hh2 c0 c1 c2 f1 f2
 have hbx := and255 (bits .xor .i64 (h2 / 8589934592) (h2 / 35184372088832))
 by_cases hil : i < len
 ·have hil2 : (i : Int) < (len : Int) := by omega
  have hcell : ∃ b off, a = some ⟨b, off, none⟩ ∧ b ≠ p ∧ ∃ x : Nat, x < 256 ∧ W1.cell? ⟨b, off + i, none⟩ = some (.int .u8 (x : Int)) := by
   rcases HC.out with h0 | ⟨b, off, ha, hb, hx⟩
   ·omega
   ·obtain ⟨x, hx1, hx2⟩ := hx i hil
    exact ⟨b, off, ha, by omega, x, hx1, hg1.cell hx2 (by simp; omega)⟩
  obtain ⟨b, off, ha, hbp, x, hx, d3⟩ := hcell
  subst ha
  go_quiet (fail)
  go_wp2
  generalize bits .and .i64 (bits .xor .i64 (h2 / 8589934592) (h2 / 35184372088832)) 255 = x0 at hbx ⊢
  obtain ⟨hb0, hb1⟩ := hbx
  go_quiet (fail)
  go_wp2
  go_quiet (fail)
  go_wp2
  go_ret
  have hbz := and255 (x0 + (x : Int))
  exact ⟨_, rfl, hbz.1, hbz.2, Cur.end ⟨hlen, HC.out⟩ (grown_trans hg1 (grown_trans (grown_drewN W1 _ _) (grown_set _ p 1 _))) (i + 1) h2 (by omega) (heap_setCell_same (W1.drewN _) p 1 _ _ _ HH2.out)⟩
 ·have hil2 : ¬ (i : Int) < (len : Int) := by omega
  go_quiet (fail)
  go_wp2
  generalize bits .and .i64 (bits .xor .i64 (h2 / 8589934592) (h2 / 35184372088832)) 255 = x0 at hbx ⊢
  obtain ⟨hb0, hb1⟩ := hbx
  go_quiet (fail)
  go_wp2
  go_ret
  exact ⟨_, rfl, hb0, hb1, Cur.end ⟨hlen, HC.out⟩ (grown_trans hg1 (grown_trans (grown_drewN W1 _ _) (grown_drewN _ _ _))) i h2 hi HH2.out⟩
theorem below_any (p : Nat) (a : Option Addr) (len cap : Nat) (n : Int) (w : World) (hc : Cur w p a len cap) (hn : 0 < n) (hn2 : n ≤ 1000000000000) :
  Calls Tryz.prog 72 #[.pointer (some ⟨p, 0, none⟩), .int .i64 n] w fun e w' => ∃ x : Int, e = .returned (.int .i64 x) ∧ 0 ≤ x ∧ x < n ∧ Cur w' p a len cap ∧ w.grownBy w' (some p) := by
 by_cases h256 : n ≤ 256
 ·go_enter Tryz.func72, Tryz.ntmps72
  go_wp2_with fail
  refine (byte_any p a len cap _ hc).mono ?_
  rintro e w1 ⟨x, rfl, h0, h1, hc1, hg1⟩
  have hr0 := Int.emod_nonneg x (show n ≠ 0 by omega)
  have hr1 := Int.emod_lt_of_pos x hn
  have htm : x.tmod n = x % n := Int.tmod_eq_emod_of_nonneg h0
  have HG := hide hg1
  have HC := hide hc1
  clear hc1 hg1 hc
  go_wp2
  go_ret
  exact ⟨_, rfl, hr0, hr1, HC.out, HG.out⟩
 ·go_enter Tryz.func72, Tryz.ntmps72
  go_wp2_with fail
  refine (byte_any p a len cap _ hc).mono ?_
  rintro e w1 ⟨x, rfl, hx0, hx1, hc1, hg1⟩
  have HG1 := hide hg1
  clear hc hg1
  go_wp2_with fail
  refine (byte_any p a len cap _ hc1).mono ?_
  rintro e w2 ⟨y, rfl, hy0, hy1, hc2, hg2⟩
  have HG2 := hide hg2
  clear hc1 hg2
  go_wp2_with fail
  refine (byte_any p a len cap _ hc2).mono ?_
  rintro e w3 ⟨z, rfl, hz0, hz1, hc3, hg3⟩
  have HG3 := hide hg3
  clear hc2 hg3
  go_wp2_with fail
  refine (byte_any p a len cap _ hc3).mono ?_
  rintro e w4 ⟨u, rfl, hu0, hu1, hc4, hg4⟩
  have HG4 := hide hg4
  have HC4 := hide hc4
  clear hc3 hg4 hc4
  have hr0 := Int.emod_nonneg (x * 16777216 + y * 65536 + z * 256 + u) (show n ≠ 0 by omega)
  have hr1 := Int.emod_lt_of_pos (x * 16777216 + y * 65536 + z * 256 + u) hn
  have htm : (x * 16777216 + y * 65536 + z * 256 + u).tmod n = (x * 16777216 + y * 65536 + z * 256 + u) % n := Int.tmod_eq_emod_of_nonneg (by omega)
  go_wp2
  go_ret
  exact ⟨_, rfl, hr0, hr1, HC4.out, grown_trans HG1.out (grown_trans HG2.out (grown_trans HG3.out HG4.out))⟩
theorem lt_of_cur {w : World} {p : Nat} {a : Option Addr} {len cap : Nat} (h : Cur w p a len cap) : p < w.heap.size := by
 obtain ⟨⟨i, hh, hi, e⟩, _⟩ := h
 rcases Nat.lt_or_ge p w.heap.size with hl | hl
 ·exact hl
 ·rw [Array.getElem?_eq_none hl] at e; cases e
theorem new_any (a : Option Addr) (len cap : Nat) (w : World) (hc : Code w a len w.heap.size) :
  Calls Tryz.prog 46 #[.slice a len cap] w fun e w' => e = .returned (.pointer (some ⟨w.heap.size, 0, none⟩)) ∧ Cur w' w.heap.size a len cap ∧ Below w.heap.size w w' := by
 have hlen := hc.1
 have HC := hide hc
 clear hc
 have fin : ∀ h : Int, Cur (w.alloc (.cells #[.slice a len cap, .int .i64 0, .int .i64 h] 145)) w.heap.size a len cap := fun h =>
  ⟨⟨0, h, by omega, heap_alloc_new w _⟩, HC.out.grown (row := none) ⟨rfl, rfl, rfl, by simp, fun k hk _ => Below.heap_alloc _ _ _ hk⟩ (fun b _ => by simp)⟩
 have FIN := hide fin
 clear fin
 by_cases h0 : len = 0
 ·subst h0
  go_enter Tryz.func46, Tryz.ntmps46
  go_wp2
  refine wp_loop_rounds 1 ?_
  rw [rounds_succ]
  go_wp2
  go_ret
  exact ⟨rfl, FIN.out _, (Below.refl _ _).alloc (Nat.le_refl _) _⟩
 ·obtain ⟨b, off, ha, hb, hx⟩ : ∃ b off, a = some ⟨b, off, none⟩ ∧ b < w.heap.size ∧ ∀ i, i < len → ∃ x : Nat, x < 256 ∧ w.cell? ⟨b, off + i, none⟩ = some (.int .u8 (x : Int)) := by
   rcases HC.out.2 with h | h
   ·exact absurd h h0
   ·exact h
  subst ha
  have HX := hide hx
  clear hx
  go_enter Tryz.func46, Tryz.ntmps46
  go_wp2
  go_loop [3, 4] (fun h i => ∃ (k : Nat) (z : Int), k ≤ len ∧ i = .int .i64 k ∧ h = .int .i64 z) (fun _ i => len - (intOf i).toNat)
  case atStart => exact ⟨0, _, by omega, rfl, rfl⟩
  case round =>
   obtain ⟨k, z, hk, rfl, rfl⟩ := hrel
   by_cases hlt : k < len
   ·obtain ⟨x, hx1, hx2⟩ := HX.out k hlt
    have hki : (k : Int) < (len : Int) := by omega
    by_cases h4 : (k : Int) < 4000
    ·go_wp2
     go_round
     case rel => exact ⟨k + 1, _, by omega, by go_num, rfl⟩
     case measure => simp [intOf]; omega
    ·go_wp2
     go_ret
     exact ⟨rfl, FIN.out _, (Below.refl _ _).alloc (Nat.le_refl _) _⟩
   ·go_wp2
    go_ret
    exact ⟨rfl, FIN.out _, (Below.refl _ _).alloc (Nat.le_refl _) _⟩
theorem cur_alloc {w : World} {p : Nat} {a : Option Addr} {len cap : Nat} (h : Cur w p a len cap) (o : Obj) : Cur (w.alloc o) p a len cap :=
 h.grown (row := none) ⟨rfl, rfl, rfl, by simp, fun k hk _ => Below.heap_alloc _ _ _ hk⟩ (fun b _ => by simp)
theorem big_any (a : Option Addr) (len cap : Nat) (w : World) : Calls Tryz.prog 8 #[.slice a len cap] w fun e w' => e = .returned (.bool (decide ((1048576 : Int) < (len : Int)))) ∧ w = w' := by
 go_enter Tryz.func8, Tryz.ntmps8
 go_wp2
 go_ret
 exact ⟨rfl, rfl⟩
theorem code_later {w w' : World} {a : Option Addr} {len : Nat} (h : Code w a len w.heap.size) (hb : Below w.heap.size w w') : Code w' a len w'.heap.size := by
 refine ⟨h.1, ?_⟩
 rcases h.2 with h0 | ⟨b, off, ha, hb1, hx⟩
 ·exact .inl h0
 ·refine .inr ⟨b, off, ha, by have := hb.size; omega, fun i hi => ?_⟩
  obtain ⟨x, h1, h2⟩ := hx i hi
  exact ⟨x, h1, by rw [hb.cell (p := ⟨b, off + i, none⟩) hb1]; exact h2⟩
theorem once_any (p : Nat) (a : Option Addr) (len cap : Nat) (n : Int) (w : World) (hc : Cur w p a len cap) (hn : 0 < n) (hn2 : n ≤ 1000000000000) :
  Calls Tryz.prog 93 #[.pointer (some ⟨p, 0, none⟩), .int .i64 n] w fun e w' => ∃ x : Bool, e = .returned (.bool x) ∧ Cur w' p a len cap ∧ w.grownBy w' (some p) := by
 go_enter Tryz.func93, Tryz.ntmps93
 go_wp2_with fail
 refine (below_any p a len cap n _ hc hn hn2).mono ?_
 rintro e w1 ⟨x, rfl, h0, h1, hc1, hg1⟩
 have HG := hide hg1
 have HC := hide hc1
 clear hc1 hg1 hc
 go_wp2
 go_ret
 exact ⟨_, rfl, HC.out, HG.out⟩
theorem pickR_any (R : Int → Prop) (p : Nat) (a : Option Addr) (len cap : Nat) (g n : Nat) (w : World) (hc : Cur w p a len cap) (hn : 0 < n) (hn2 : n ≤ 1000) (hg : g ≠ p) (hz : ∀ k, k < n → ∃ z : Int, R z ∧ w.cell? ⟨g, k, none⟩ = some (.int .i64 z)) :
  Calls Tryz.prog 146 #[.pointer (some ⟨p, 0, none⟩), .slice (some ⟨g, 0, none⟩) n n] w fun e w' => ∃ x : Int, e = .returned (.int .i64 x) ∧ R x ∧ Cur w' p a len cap ∧ w.grownBy w' (some p) := by
 have HZ := hide hz
 have HC := hide hc
 clear hz hc
 go_enter Tryz.func146, Tryz.ntmps146
 go_wp2_with fail
 refine (below_any p a len cap _ _ HC.out (by omega) (by omega)).mono ?_
 rintro e w1 ⟨x, rfl, h0, h1, hc1, hg1⟩
 obtain ⟨z, hR, hz⟩ := HZ.out x.toNat (by omega)
 have hz1 := hg1.cell hz (by simp; exact hg)
 have hxn : x < (n : Int) := h1
 have HR := hide hR
 have HG := hide hg1
 have HC1 := hide hc1
 clear hg1 hc1 hz hR
 go_wp2
 go_ret
 exact ⟨_, rfl, HR.out, HC1.out, HG.out⟩
def ascAt {α : Type} (ord : α → α → Int) (ls : List α) : Nat → Bool
 | 0 => true
 | k + 1 => match ls[k]?, ls[k + 1]? with
  | some p, some l => decide (ord p l < 0)
  | _, _ => true
theorem ascAt_eq {α : Type} {ord : α → α → Int} {ls : List α} {j : Nat} {p l : α} (hp : ls[j]? = some p) (hl : ls[j + 1]? = some l) : ascAt ord ls (j + 1) = decide (ord p l < 0) := by
 simp only [ascAt, hp, hl]
def ascB {α : Type} (ord : α → α → Int) (ls : List α) : Bool := (List.range ls.length).all (ascAt ord ls)
theorem all_false {n k : Nat} {p : Nat → Bool} (hk : k < n) (h : p k = false) : (List.range n).all p = false := by
 cases e : (List.range n).all p with
 | false => rfl
 | true => rw [List.all_eq_true.1 e k (List.mem_range.2 hk)] at h; cases h
theorem all_true {n : Nat} {p : Nat → Bool} (h : ∀ j, j < n → p j = true) : (List.range n).all p = true := List.all_eq_true.2 fun j hj => h j (List.mem_range.1 hj)
theorem next_true {k : Nat} {p : Nat → Bool} (h : ∀ j, j < k → p j = true) (hk : p k = true) : ∀ j, j < k + 1 → p j = true := fun j hj => by
 by_cases e : j = k
 ·subst e; exact hk
 ·exact h j (by omega)
def okAt {α : Type} (ok : α → Bool) (ls : List α) (k : Nat) : Bool := match ls[k]? with
 | some l => ok l
 | none => true
theorem okAt_eq {α : Type} {ok : α → Bool} {ls : List α} {k : Nat} {l : α} (h : ls[k]? = some l) : okAt ok ls k = ok l := by simp only [okAt, h]
def allOk {α : Type} (ok : α → Bool) (ls : List α) : Bool := (List.range ls.length).all (okAt ok ls)
theorem isIn_any (x a b : Int) (w : World) : Calls Tryz.prog 65 #[.int .i64 x, .int .i64 a, .int .i64 b] w fun e w' => e = .returned (.bool (inB x a b)) ∧ w = w' := by
 by_cases h1 : a ≤ x <;> by_cases h2 : x ≤ b
 all_goals
  go_enter Tryz.func65, Tryz.ntmps65
  go_wp2
  go_ret
  exact ⟨by simp [inB, h1, h2], rfl⟩
def cmpN (a b : Int) : Int := if a < b then -1 else if b < a then 1 else 0
theorem cmpN_zero {a b : Int} : cmpN a b = 0 ↔ a = b := by unfold cmpN; split <;> (try split) <;> omega
theorem cmpN_neg {a b : Int} : cmpN a b < 0 ↔ a < b := by unfold cmpN; split <;> (try split) <;> omega
theorem ret_i {a b : Int} (h : b = a) : Ending.returned (.int .i64 a) = .returned (.int .i64 b) := by rw [h]
theorem isNaN_any (a : Int) (w : World) : Calls Tryz.prog 236 #[.int .i64 a] w fun e w' => e = .returned (.bool false) ∧ w = w' := by
 go_enter Tryz.func236, Tryz.ntmps236
 go_wp2
 go_ret
 exact ⟨by simp, rfl⟩
theorem compare_any (a b : Int) (w : World) : Calls Tryz.prog 206 #[.int .i64 a, .int .i64 b] w fun e w' => e = .returned (.int .i64 (cmpN a b)) ∧ w = w' := by
 go_enter Tryz.func206, Tryz.ntmps206
 go_wp2_with fail
 refine (isNaN_any a _).mono ?_
 rintro e w1 ⟨rfl, rfl⟩
 go_wp2_with fail
 refine (isNaN_any b _).mono ?_
 rintro e w1 ⟨rfl, rfl⟩
 go_wp2
 all_goals go_ret
 all_goals refine ⟨ret_i ?_, rfl⟩
 all_goals (unfold cmpN; grind)
def orN : List Int → Int
 | [] => 0
 | x :: xs => if x = 0 then orN xs else x
theorem orN_skip : ∀ (k : Nat) (l : List Int), (∀ j, j < k → l.getD j 0 = 0) → orN l = orN (l.drop k)
 | 0, l, _ => by simp
 | k + 1, [], _ => by simp
 | k + 1, x :: xs, h => by
  have h0 : x = 0 := by simpa using h 0 (by omega)
  subst h0
  have e : orN (0 :: xs) = orN xs := by simp [orN]
  rw [e, List.drop_succ_cons]
  exact orN_skip k xs (fun j hj => by simpa using h (j + 1) (by omega))
theorem orN_at {k : Nat} {l : List Int} (h : ∀ j, j < k → l.getD j 0 = 0) (hk : k < l.length) (hx : l.getD k 0 ≠ 0) : orN l = l.getD k 0 := by
 rw [orN_skip k l h, List.drop_eq_getElem_cons hk]
 have e : l.getD k 0 = l[k] := by simp [List.getElem?_eq_getElem hk]
 rw [e] at hx ⊢
 simp only [orN]
 rw [if_neg hx]
theorem orN_none {k : Nat} {l : List Int} (h : ∀ j, j < k → l.getD j 0 = 0) (hk : k = l.length) : orN l = 0 := by
 rw [orN_skip k l h, List.drop_of_length_le (by omega)]
 rfl
theorem or_any (b n : Nat) (l : List Int) (w : World) (hn : n = l.length) (hs : l.length ≤ 1000) (hc : ∀ j, j < l.length → w.cell? ⟨b, j, none⟩ = some (.int .i64 (l.getD j 0))) :
  Calls Tryz.prog 205 #[.slice (some ⟨b, 0, none⟩) n n] w fun e w' => e = .returned (.int .i64 (orN l)) ∧ w = w' := by
 subst hn
 have HC := hide hc
 clear hc
 go_enter Tryz.func205, Tryz.ntmps205
 go_wp2
 go_loopw [8] (fun i wr => ∃ k : Nat, k ≤ l.length ∧ i = .int .i64 k ∧ (∀ j, j < k → l.getD j 0 = 0) ∧ w = wr) (fun i _ => l.length - (intOf i).toNat)
 case atStart => exact ⟨0, by omega, rfl, by omega, rfl⟩
 case round =>
  obtain ⟨k, hk, rfl, hno, rfl⟩ := hrel
  have HNO := hide hno
  clear hno
  by_cases hlt : k < l.length
  ·have hcell := HC.out k hlt
   by_cases h0 : l.getD k 0 = 0
   ·have hnx : ∀ j, j < k + 1 → l.getD j 0 = 0 := fun j hj => by
     by_cases e : j = k
     ·subst e; exact h0
     ·exact HNO.out j (by omega)
    rw [h0] at hcell
    have HN := hide hnx
    clear h0 hnx
    go_wp2
    go_roundw
    case rel => exact ⟨k + 1, by omega, by go_num, HN.out, trivial⟩
    case measure => simp [intOf]; omega
   ·obtain ⟨y, hy⟩ : ∃ y, y = l.getD k 0 := ⟨_, rfl⟩
    rw [← hy] at hcell h0
    have hor : orN l = y := by rw [hy]; exact orN_at HNO.out hlt (by rw [← hy]; exact h0)
    have HO := hide hor
    clear hy hor
    go_wp2
    go_ret
    exact ⟨ret_i HO.out, rfl⟩
  ·have hk' : k = l.length := by omega
   have HK := hide hk'
   clear hk'
   go_wp2
   go_ret
   exact ⟨ret_i (orN_none HNO.out HK.out), rfl⟩
theorem or_three (b : Nat) (x y z : Int) (w : World) (h0 : w.cell? ⟨b, 0, none⟩ = some (.int .i64 x)) (h1 : w.cell? ⟨b, 1, none⟩ = some (.int .i64 y)) (h2 : w.cell? ⟨b, 2, none⟩ = some (.int .i64 z)) :
  Calls Tryz.prog 205 #[.slice (some ⟨b, 0, none⟩) 3 3] w fun e w' => e = .returned (.int .i64 (orN [x, y, z])) ∧ w = w' :=
 or_any b 3 [x, y, z] w rfl (by simp) (fun j hj => by
  match j, hj with
  | 0, _ => exact h0
  | 1, _ => exact h1
  | 2, _ => exact h2
  | j + 3, hj => exact absurd hj (by simp only [List.length_cons, List.length_nil]; omega))
theorem or_two (b : Nat) (x y : Int) (w : World) (h0 : w.cell? ⟨b, 0, none⟩ = some (.int .i64 x)) (h1 : w.cell? ⟨b, 1, none⟩ = some (.int .i64 y)) :
  Calls Tryz.prog 205 #[.slice (some ⟨b, 0, none⟩) 2 2] w fun e w' => e = .returned (.int .i64 (orN [x, y])) ∧ w = w' :=
 or_any b 2 [x, y] w rfl (by simp) (fun j hj => by
  match j, hj with
  | 0, _ => exact h0
  | 1, _ => exact h1
  | j + 2, hj => exact absurd hj (by simp only [List.length_cons, List.length_nil]; omega))
theorem new_cell (w1 : World) (cs : Array Value) (t : TypeId) (j : Nat) (v : Value) (h : cs[j]? = some v) : (w1.alloc (.cells cs t)).drew.cell? ⟨w1.heap.size, j, none⟩ = some v := by
 have := cells_at (heap_alloc_new w1 (.cells cs t)) j
 rw [h] at this
 exact this
def ordL (l m : Lk) : Int := orN [cmpN l.a m.a, cmpN l.b m.b, cmpN l.r m.r]
def ordT (l m : Th) : Int := orN [cmpN l.k m.k, cmpN l.o m.o]
theorem ordL_any (l m : Lk) (w : World) : Calls Tryz.prog 201 #[lkV l, lkV m] w fun e w' => e = .returned (.int .i64 (ordL l m)) ∧ Below w.heap.size w w' := by
 obtain ⟨a, b, c, r⟩ := l
 obtain ⟨a', b', c', r'⟩ := m
 unfold lkV ordL
 simp only []
 go_enter Tryz.func201, Tryz.ntmps201
 go_wp2
 obtain ⟨w1, hw1⟩ : ∃ w1, w1 = (w.alloc (.cells #[.int .i64 a, .int .i64 b, .int .i64 c, .int .i64 r] 83)).alloc (.cells #[.int .i64 a', .int .i64 b', .int .i64 c', .int .i64 r'] 83) := ⟨_, rfl⟩
 have B1 : Below w.heap.size w w1 := by rw [hw1]; exact below_two _ _
 have p0 : w1.heap[w.heap.size]? = some (.cells #[.int .i64 a, .int .i64 b, .int .i64 c, .int .i64 r] 83) := by rw [hw1, Below.heap_alloc _ _ _ (by simp), heap_alloc_new]
 have q0 : w1.heap[w.heap.size + 1]? = some (.cells #[.int .i64 a', .int .i64 b', .int .i64 c', .int .i64 r'] 83) := by
  rw [hw1]
  have := heap_alloc_new (w.alloc (.cells #[.int .i64 a, .int .i64 b, .int .i64 c, .int .i64 r] 83)) (.cells #[.int .i64 a', .int .i64 b', .int .i64 c', .int .i64 r'] 83)
  simpa using this
 rw [← hw1]
 clear hw1
 have s0 := cells_at p0 0
 have s1 := cells_at p0 1
 have s3 := cells_at p0 3
 have t0 := cells_at q0 0
 have t1 := cells_at q0 1
 have t3 := cells_at q0 3
 have hz0 := lt_of_heap p0
 have hz1 := lt_of_heap q0
 simp at s0 s1 s3 t0 t1 t3
 clear p0 q0
 have hz2 := B1.size
 go_region_held3 (fun W => W.cell? ⟨w.heap.size, 0, none⟩ = some (.int .i64 a) ∧ W.cell? ⟨w.heap.size, 1, none⟩ = some (.int .i64 b) ∧ W.cell? ⟨w.heap.size, 3, none⟩ = some (.int .i64 r) ∧ W.cell? ⟨w.heap.size + 1, 0, none⟩ = some (.int .i64 a') ∧ W.cell? ⟨w.heap.size + 1, 1, none⟩ = some (.int .i64 b') ∧ W.cell? ⟨w.heap.size + 1, 3, none⟩ = some (.int .i64 r')) (first | go_keep | assumption) (first | (go_at_call 206; refine (compare_any _ _ _).mono ?_; rintro e w' ⟨rfl, rfl⟩) | (go_at_call 205; refine (or_three _ (cmpN a a') (cmpN b b') (cmpN r r') _ ?_ ?_ ?_).mono ?_; (exact new_cell _ _ _ _ _ rfl); (exact new_cell _ _ _ _ _ rfl); (exact new_cell _ _ _ _ _ rfl); rintro e w' ⟨rfl, rfl⟩))
 go_wp2
 go_ret
 exact ⟨rfl, B1.drew.alloc B1.size _⟩
theorem ordT_any (l m : Th) (w : World) : Calls Tryz.prog 203 #[thV l, thV m] w fun e w' => e = .returned (.int .i64 (ordT l m)) ∧ Below w.heap.size w w' := by
 obtain ⟨o, k, c, f⟩ := l
 obtain ⟨o', k', c', f'⟩ := m
 unfold thV ordT
 simp only []
 go_enter Tryz.func203, Tryz.ntmps203
 go_wp2
 obtain ⟨w1, hw1⟩ : ∃ w1, w1 = (w.alloc (.cells #[.int .i64 o, .int .i64 k, .int .i64 c, .bool f] 87)).alloc (.cells #[.int .i64 o', .int .i64 k', .int .i64 c', .bool f'] 87) := ⟨_, rfl⟩
 have B1 : Below w.heap.size w w1 := by rw [hw1]; exact below_two _ _
 have p0 : w1.heap[w.heap.size]? = some (.cells #[.int .i64 o, .int .i64 k, .int .i64 c, .bool f] 87) := by rw [hw1, Below.heap_alloc _ _ _ (by simp), heap_alloc_new]
 have q0 : w1.heap[w.heap.size + 1]? = some (.cells #[.int .i64 o', .int .i64 k', .int .i64 c', .bool f'] 87) := by
  rw [hw1]
  have := heap_alloc_new (w.alloc (.cells #[.int .i64 o, .int .i64 k, .int .i64 c, .bool f] 87)) (.cells #[.int .i64 o', .int .i64 k', .int .i64 c', .bool f'] 87)
  simpa using this
 rw [← hw1]
 clear hw1
 have s0 := cells_at p0 0
 have s1 := cells_at p0 1
 have t0 := cells_at q0 0
 have t1 := cells_at q0 1
 have hz0 := lt_of_heap p0
 have hz1 := lt_of_heap q0
 simp at s0 s1 t0 t1
 clear p0 q0
 have hz2 := B1.size
 go_region_held3 (fun W => W.cell? ⟨w.heap.size, 0, none⟩ = some (.int .i64 o) ∧ W.cell? ⟨w.heap.size, 1, none⟩ = some (.int .i64 k) ∧ W.cell? ⟨w.heap.size + 1, 0, none⟩ = some (.int .i64 o') ∧ W.cell? ⟨w.heap.size + 1, 1, none⟩ = some (.int .i64 k')) (first | go_keep | assumption) (first | (go_at_call 206; refine (compare_any _ _ _).mono ?_; rintro e w' ⟨rfl, rfl⟩) | (go_at_call 205; refine (or_two _ (cmpN k k') (cmpN o o') _ ?_ ?_).mono ?_; (exact new_cell _ _ _ _ _ rfl); (exact new_cell _ _ _ _ _ rfl); rintro e w' ⟨rfl, rfl⟩))
 go_wp2
 go_ret
 exact ⟨rfl, B1.drew.alloc B1.size _⟩
theorem ilinkOk_any (n : Int) (l : Lk) (w : World) : Calls Tryz.prog 199 #[.int .i64 n, lkV l] w fun e w' => e = .returned (.bool (linkOkB n l)) ∧ Below w.heap.size w w' := by
 obtain ⟨a, b, c, r⟩ := l
 unfold lkV linkOkB
 simp only []
 generalize hq1 : inB n 1 6 = q1
 generalize hq2 : inB a 1 n = q2
 generalize hq3 : inB b 1 n = q3
 generalize hq4 : inB c 1 1000 = q4
 generalize hq5 : inB r 0 2 = q5
 have h1 := isIn_any n 1 6
 have h2 := isIn_any a 1 n
 have h3 := isIn_any b 1 n
 have h4 := isIn_any c 1 1000
 have h5 := isIn_any r 0 2
 rw [hq1] at h1
 rw [hq2] at h2
 rw [hq3] at h3
 rw [hq4] at h4
 rw [hq5] at h5
 have H1 := hide h1
 have H2 := hide h2
 have H3 := hide h3
 have H4 := hide h4
 have H5 := hide h5
 clear h1 h2 h3 h4 h5 hq1 hq2 hq3 hq4 hq5
 cases q1
 ·go_enter Tryz.func199, Tryz.ntmps199
  go_wp2_with fail
  refine (H1.out _).mono ?_
  rintro e w1 ⟨rfl, rfl⟩
  go_wp2
  go_ret
  exact ⟨by simp, (Below.refl _ _).alloc (Nat.le_refl _) _⟩
 cases q2
 ·go_enter Tryz.func199, Tryz.ntmps199
  go_wp2_with fail
  refine (H1.out _).mono ?_
  rintro e w1 ⟨rfl, rfl⟩
  go_wp2_with fail
  refine (H2.out _).mono ?_
  rintro e w1 ⟨rfl, rfl⟩
  go_wp2
  go_ret
  exact ⟨by simp, (Below.refl _ _).alloc (Nat.le_refl _) _⟩
 cases q3
 ·go_enter Tryz.func199, Tryz.ntmps199
  go_wp2_with fail
  refine (H1.out _).mono ?_
  rintro e w1 ⟨rfl, rfl⟩
  go_wp2_with fail
  refine (H2.out _).mono ?_
  rintro e w1 ⟨rfl, rfl⟩
  go_wp2_with fail
  refine (H3.out _).mono ?_
  rintro e w1 ⟨rfl, rfl⟩
  go_wp2
  go_ret
  exact ⟨by simp, (Below.refl _ _).alloc (Nat.le_refl _) _⟩
 by_cases hab : a < b
 ·cases q4
  ·go_enter Tryz.func199, Tryz.ntmps199
   go_wp2_with fail
   refine (H1.out _).mono ?_
   rintro e w1 ⟨rfl, rfl⟩
   go_wp2_with fail
   refine (H2.out _).mono ?_
   rintro e w1 ⟨rfl, rfl⟩
   go_wp2_with fail
   refine (H3.out _).mono ?_
   rintro e w1 ⟨rfl, rfl⟩
   go_wp2_with fail
   refine (H4.out _).mono ?_
   rintro e w1 ⟨rfl, rfl⟩
   go_wp2
   go_ret
   exact ⟨by simp, (Below.refl _ _).alloc (Nat.le_refl _) _⟩
  ·go_enter Tryz.func199, Tryz.ntmps199
   go_wp2_with fail
   refine (H1.out _).mono ?_
   rintro e w1 ⟨rfl, rfl⟩
   go_wp2_with fail
   refine (H2.out _).mono ?_
   rintro e w1 ⟨rfl, rfl⟩
   go_wp2_with fail
   refine (H3.out _).mono ?_
   rintro e w1 ⟨rfl, rfl⟩
   go_wp2_with fail
   refine (H4.out _).mono ?_
   rintro e w1 ⟨rfl, rfl⟩
   go_wp2_with fail
   refine (H5.out _).mono ?_
   rintro e w1 ⟨rfl, rfl⟩
   go_wp2
   go_ret
   exact ⟨ret_bool (by rw [decide_eq_true hab]; simp), (Below.refl _ _).alloc (Nat.le_refl _) _⟩
 ·go_enter Tryz.func199, Tryz.ntmps199
  go_wp2_with fail
  refine (H1.out _).mono ?_
  rintro e w1 ⟨rfl, rfl⟩
  go_wp2_with fail
  refine (H2.out _).mono ?_
  rintro e w1 ⟨rfl, rfl⟩
  go_wp2_with fail
  refine (H3.out _).mono ?_
  rintro e w1 ⟨rfl, rfl⟩
  go_wp2
  go_ret
  exact ⟨ret_bool (by rw [decide_eq_false (show ¬ a < b by omega)]; simp), (Below.refl _ _).alloc (Nat.le_refl _) _⟩
theorem ascL_any (v : Value) (ls : List Lk) (w : World) (hls : ls.length ≤ 1048576) (hv : LinksAt w v ls w.heap.size) :
  Calls Tryz.prog 200 #[v, .func (.func 201) #[] #[]] w fun e w' => e = .returned (.bool (ascB ordL ls)) ∧ Below w.heap.size w w' := by
 obtain ⟨a, cap, rfl⟩ := hv.shape
 have HV := hide hv
 clear hv
 go_enter Tryz.func200, Tryz.ntmps200
 go_wp2
 go_loopw [5] (fun i wr => ∃ k : Nat, 1 ≤ k ∧ (k ≤ ls.length ∨ k = 1) ∧ i = .int .i64 k ∧ (∀ j, j < k → ascAt ordL ls j = true) ∧ Below w.heap.size w wr) (fun i _ => ls.length + 1 - (intOf i).toNat)
 case atStart => exact ⟨1, by omega, by omega, rfl, fun j hj => by (obtain rfl : j = 0 := by omega); rfl, Below.refl _ _⟩
 case round =>
  obtain ⟨k, hk1, hk, rfl, hno, hb⟩ := hrel
  have HNO := hide hno
  clear hno
  by_cases hlt : k < ls.length
  ·obtain ⟨l, hl⟩ : ∃ l, ls[k]? = some l := ⟨ls[k], List.getElem?_eq_getElem hlt⟩
   obtain ⟨j, hj⟩ : ∃ j, k = j + 1 := ⟨k - 1, by omega⟩
   obtain ⟨p, hp⟩ : ∃ p, ls[j]? = some p := ⟨ls[j], List.getElem?_eq_getElem (by omega)⟩
   obtain ⟨b, off, cap', hve, hbb, c0, c1, c2, c3⟩ := HV.out.cells k l hl
   cases hve
   obtain ⟨b', off', cap2, hve2, hbb2, d0, d1, d2, d3⟩ := HV.out.cells j p hp
   cases hve2
   rw [← hb.cell (p := ⟨b, off + k * 4, none⟩) hbb] at c0
   rw [← hb.cell (p := ⟨b, off + k * 4 + 1, none⟩) hbb] at c1
   rw [← hb.cell (p := ⟨b, off + k * 4 + 2, none⟩) hbb] at c2
   rw [← hb.cell (p := ⟨b, off + k * 4 + 3, none⟩) hbb] at c3
   rw [← hb.cell (p := ⟨b, off + j * 4, none⟩) hbb] at d0
   rw [← hb.cell (p := ⟨b, off + j * 4 + 1, none⟩) hbb] at d1
   rw [← hb.cell (p := ⟨b, off + j * 4 + 2, none⟩) hbb] at d2
   rw [← hb.cell (p := ⟨b, off + j * 4 + 3, none⟩) hbb] at d3
   have hat : ascAt ordL ls k = decide (ordL p l < 0) := by rw [hj]; exact ascAt_eq hp (by rw [← hj]; exact hl)
   have hzr := hb.size
   have hbr : b < wr.heap.size := by omega
   have hki : (0 : Int) ≤ (k : Int) := by omega
   have hkj : (k : Int) < (ls.length : Int) := by omega
   have hj1 : (k : Int) - 1 = (j : Int) := by omega
   have hj2 : (0 : Int) ≤ (j : Int) := by omega
   have hj3 : (j : Int) < (ls.length : Int) := by omega
   have hj5 : IntKind.i64.wrap (j : Int) = (j : Int) := wrap_fit _ (by omega) (by omega)
   have HORD := hide (ordL_any p l)
   have HAT := hide hat
   have HJ := hide hj
   clear hl hp hat hj
   obtain ⟨x, hx⟩ : ∃ x, x = ordL p l := ⟨_, rfl⟩
   rw [← hx] at HORD HAT
   clear hx
   unfold lkV at HORD
   by_cases hx0 : x < 0
   ·have hx1 : ¬ (0 : Int) ≤ x := by omega
    rw [decide_eq_true hx0] at HAT
    go_wp2
    go_region_held3 (fun W => W.cell? ⟨b, off + k * 4, none⟩ = some (.int .i64 l.a) ∧ W.cell? ⟨b, off + k * 4 + 1, none⟩ = some (.int .i64 l.b) ∧ W.cell? ⟨b, off + k * 4 + 2, none⟩ = some (.int .i64 l.c) ∧ W.cell? ⟨b, off + k * 4 + 3, none⟩ = some (.int .i64 l.r) ∧ W.cell? ⟨b, off + j * 4, none⟩ = some (.int .i64 p.a) ∧ W.cell? ⟨b, off + j * 4 + 1, none⟩ = some (.int .i64 p.b) ∧ W.cell? ⟨b, off + j * 4 + 2, none⟩ = some (.int .i64 p.c) ∧ W.cell? ⟨b, off + j * 4 + 3, none⟩ = some (.int .i64 p.r)) (first | go_keep | (refine ⟨?_, ?_, ?_, ?_, ?_, ?_, ?_, ?_⟩ <;> (rw [hbc.cell (by assumption)]; assumption))) (first | (go_at_call 201; refine (HORD.out _).mono ?_; rintro e w2 ⟨rfl, hbc⟩))
    go_wp2
    exact ⟨⟨k + 1, by omega, by omega, by go_num, next_true HNO.out HAT.out, hb.drew.trans (hbc.mono hb.size)⟩, by simp [intOf]; omega⟩
   ·have hx1 : (0 : Int) ≤ x := by omega
    rw [decide_eq_false hx0] at HAT
    have hf : ascB ordL ls = false := all_false hlt HAT.out
    have HF := hide hf
    clear hf
    go_wp2
    go_region_held3 (fun W => W.cell? ⟨b, off + k * 4, none⟩ = some (.int .i64 l.a) ∧ W.cell? ⟨b, off + k * 4 + 1, none⟩ = some (.int .i64 l.b) ∧ W.cell? ⟨b, off + k * 4 + 2, none⟩ = some (.int .i64 l.c) ∧ W.cell? ⟨b, off + k * 4 + 3, none⟩ = some (.int .i64 l.r) ∧ W.cell? ⟨b, off + j * 4, none⟩ = some (.int .i64 p.a) ∧ W.cell? ⟨b, off + j * 4 + 1, none⟩ = some (.int .i64 p.b) ∧ W.cell? ⟨b, off + j * 4 + 2, none⟩ = some (.int .i64 p.c) ∧ W.cell? ⟨b, off + j * 4 + 3, none⟩ = some (.int .i64 p.r)) (first | go_keep | (refine ⟨?_, ?_, ?_, ?_, ?_, ?_, ?_, ?_⟩ <;> (rw [hbc.cell (by assumption)]; assumption))) (first | (go_at_call 201; refine (HORD.out _).mono ?_; rintro e w2 ⟨rfl, hbc⟩))
    go_wp2
    go_ret
    exact ⟨ret_bool HF.out, hb.drew.trans (hbc.mono hb.size)⟩
  ·have hall : ascB ordL ls = true := all_true fun i hi => HNO.out i (by omega)
   have HA := hide hall
   clear hall
   go_wp2
   go_ret
   exact ⟨ret_bool HA.out, hb⟩
theorem ascT_any (v : Value) (ls : List Th) (w : World) (hls : ls.length ≤ 1048576) (hv : ThingsAt w v ls w.heap.size) :
  Calls Tryz.prog 202 #[v, .func (.func 203) #[] #[]] w fun e w' => e = .returned (.bool (ascB ordT ls)) ∧ Below w.heap.size w w' := by
 obtain ⟨a, cap, rfl⟩ := hv.shape
 have HV := hide hv
 clear hv
 go_enter Tryz.func202, Tryz.ntmps202
 go_wp2
 go_loopw [5] (fun i wr => ∃ k : Nat, 1 ≤ k ∧ (k ≤ ls.length ∨ k = 1) ∧ i = .int .i64 k ∧ (∀ j, j < k → ascAt ordT ls j = true) ∧ Below w.heap.size w wr) (fun i _ => ls.length + 1 - (intOf i).toNat)
 case atStart => exact ⟨1, by omega, by omega, rfl, fun j hj => by (obtain rfl : j = 0 := by omega); rfl, Below.refl _ _⟩
 case round =>
  obtain ⟨k, hk1, hk, rfl, hno, hb⟩ := hrel
  have HNO := hide hno
  clear hno
  by_cases hlt : k < ls.length
  ·obtain ⟨l, hl⟩ : ∃ l, ls[k]? = some l := ⟨ls[k], List.getElem?_eq_getElem hlt⟩
   obtain ⟨j, hj⟩ : ∃ j, k = j + 1 := ⟨k - 1, by omega⟩
   obtain ⟨p, hp⟩ : ∃ p, ls[j]? = some p := ⟨ls[j], List.getElem?_eq_getElem (by omega)⟩
   obtain ⟨b, off, cap', hve, hbb, c0, c1, c2, c3⟩ := HV.out.cells k l hl
   cases hve
   obtain ⟨b', off', cap2, hve2, hbb2, d0, d1, d2, d3⟩ := HV.out.cells j p hp
   cases hve2
   rw [← hb.cell (p := ⟨b, off + k * 4, none⟩) hbb] at c0
   rw [← hb.cell (p := ⟨b, off + k * 4 + 1, none⟩) hbb] at c1
   rw [← hb.cell (p := ⟨b, off + k * 4 + 2, none⟩) hbb] at c2
   rw [← hb.cell (p := ⟨b, off + k * 4 + 3, none⟩) hbb] at c3
   rw [← hb.cell (p := ⟨b, off + j * 4, none⟩) hbb] at d0
   rw [← hb.cell (p := ⟨b, off + j * 4 + 1, none⟩) hbb] at d1
   rw [← hb.cell (p := ⟨b, off + j * 4 + 2, none⟩) hbb] at d2
   rw [← hb.cell (p := ⟨b, off + j * 4 + 3, none⟩) hbb] at d3
   have hat : ascAt ordT ls k = decide (ordT p l < 0) := by rw [hj]; exact ascAt_eq hp (by rw [← hj]; exact hl)
   have hzr := hb.size
   have hbr : b < wr.heap.size := by omega
   have hki : (0 : Int) ≤ (k : Int) := by omega
   have hkj : (k : Int) < (ls.length : Int) := by omega
   have hj1 : (k : Int) - 1 = (j : Int) := by omega
   have hj2 : (0 : Int) ≤ (j : Int) := by omega
   have hj3 : (j : Int) < (ls.length : Int) := by omega
   have hj5 : IntKind.i64.wrap (j : Int) = (j : Int) := wrap_fit _ (by omega) (by omega)
   have HORD := hide (ordT_any p l)
   have HAT := hide hat
   have HJ := hide hj
   clear hl hp hat hj
   obtain ⟨x, hx⟩ : ∃ x, x = ordT p l := ⟨_, rfl⟩
   rw [← hx] at HORD HAT
   clear hx
   unfold thV at HORD
   by_cases hx0 : x < 0
   ·have hx1 : ¬ (0 : Int) ≤ x := by omega
    rw [decide_eq_true hx0] at HAT
    go_wp2
    go_region_held3 (fun W => W.cell? ⟨b, off + k * 4, none⟩ = some (.int .i64 l.o) ∧ W.cell? ⟨b, off + k * 4 + 1, none⟩ = some (.int .i64 l.k) ∧ W.cell? ⟨b, off + k * 4 + 2, none⟩ = some (.int .i64 l.c) ∧ W.cell? ⟨b, off + k * 4 + 3, none⟩ = some (.bool l.f) ∧ W.cell? ⟨b, off + j * 4, none⟩ = some (.int .i64 p.o) ∧ W.cell? ⟨b, off + j * 4 + 1, none⟩ = some (.int .i64 p.k) ∧ W.cell? ⟨b, off + j * 4 + 2, none⟩ = some (.int .i64 p.c) ∧ W.cell? ⟨b, off + j * 4 + 3, none⟩ = some (.bool p.f)) (first | go_keep | (refine ⟨?_, ?_, ?_, ?_, ?_, ?_, ?_, ?_⟩ <;> (rw [hbc.cell (by assumption)]; assumption))) (first | (go_at_call 203; refine (HORD.out _).mono ?_; rintro e w2 ⟨rfl, hbc⟩))
    go_wp2
    exact ⟨⟨k + 1, by omega, by omega, by go_num, next_true HNO.out HAT.out, hb.drew.trans (hbc.mono hb.size)⟩, by simp [intOf]; omega⟩
   ·have hx1 : (0 : Int) ≤ x := by omega
    rw [decide_eq_false hx0] at HAT
    have hf : ascB ordT ls = false := all_false hlt HAT.out
    have HF := hide hf
    clear hf
    go_wp2
    go_region_held3 (fun W => W.cell? ⟨b, off + k * 4, none⟩ = some (.int .i64 l.o) ∧ W.cell? ⟨b, off + k * 4 + 1, none⟩ = some (.int .i64 l.k) ∧ W.cell? ⟨b, off + k * 4 + 2, none⟩ = some (.int .i64 l.c) ∧ W.cell? ⟨b, off + k * 4 + 3, none⟩ = some (.bool l.f) ∧ W.cell? ⟨b, off + j * 4, none⟩ = some (.int .i64 p.o) ∧ W.cell? ⟨b, off + j * 4 + 1, none⟩ = some (.int .i64 p.k) ∧ W.cell? ⟨b, off + j * 4 + 2, none⟩ = some (.int .i64 p.c) ∧ W.cell? ⟨b, off + j * 4 + 3, none⟩ = some (.bool p.f)) (first | go_keep | (refine ⟨?_, ?_, ?_, ?_, ?_, ?_, ?_, ?_⟩ <;> (rw [hbc.cell (by assumption)]; assumption))) (first | (go_at_call 203; refine (HORD.out _).mono ?_; rintro e w2 ⟨rfl, hbc⟩))
    go_wp2
    go_ret
    exact ⟨ret_bool HF.out, hb.drew.trans (hbc.mono hb.size)⟩
  ·have hall : ascB ordT ls = true := all_true fun i hi => HNO.out i (by omega)
   have HA := hide hall
   clear hall
   go_wp2
   go_ret
   exact ⟨ret_bool HA.out, hb⟩
end Go.Proofs.YtmijnjnihhemgaaGreat
