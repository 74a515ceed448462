/-
  laws.eqLinkS, eqThingS: their contracts.
  laws.szNet, toNet, eqNet: their contracts.
  Nears (two numbers) as values and in rows; laws.toNear, eqNear, toNearS, eqNearS, szNearS.
-/
import Derived.Test.YtcimbiinljcifaaGreatLe1
import Derived.Deep.RegionHeld3
namespace Go.Proofs.YtcimbiinljcifaaGreat
open Go.RowKit

set_option maxRecDepth 100000 in
set_option maxHeartbeats 1000000 in
theorem eqLinkS_any (v1 v2 : Value) (xs ys : List Lk) (w : World) (h1 : LinksAt w v1 xs w.heap.size) (h2 : LinksAt w v2 ys w.heap.size) (hn : xs.length ≤ 1048576) :
    Calls Tryz.prog 90 #[v1, v2] w fun e w' => e = .returned (.bool (decide (xs = ys))) ∧ Below w.heap.size w w' := by
  obtain ⟨a1, c1, rfl⟩ := h1.shape
  obtain ⟨a2, c2, rfl⟩ := h2.shape
  by_cases hl : xs.length = ys.length
  · have K1 := hide h1
    have K2 := hide h2
    have HLN := hide hl
    rw [← hl]
    clear h1 h2 hl
    go_enter Tryz.func90, Tryz.ntmps90
    go_wp2
    go_loopw [5] (fun i wr => ∃ k : Nat, k ≤ xs.length ∧ i = .int .i64 k ∧ (∀ j, j < k → xs[j]? = ys[j]?) ∧ Below w.heap.size w wr) (fun i _ => xs.length - (intOf i).toNat)
    case atStart => exact ⟨0, by omega, rfl, by omega, Below.refl _ _⟩
    case round =>
      obtain ⟨k, hk, rfl, hall, hnx⟩ := hrel
      have HALL := hide hall
      clear hall
      by_cases hlt : k < xs.length
      · obtain ⟨x, hx⟩ : ∃ l, xs[k]? = some l := ⟨xs[k], List.getElem?_eq_getElem hlt⟩
        obtain ⟨y, hy⟩ : ∃ l, ys[k]? = some l := ⟨ys[k], List.getElem?_eq_getElem (by have := HLN.out; omega)⟩
        obtain ⟨b1, o1, cp1, hv1, hb1, c0, c1', c2', c3⟩ := K1.out.cells k x hx
        obtain ⟨b2, o2, cp2, hv2, hb2, d0, d1, d2, d3⟩ := K2.out.cells k y hy
        cases hv1
        cases hv2
        rw [← hnx.cell (p := ⟨b1, o1 + k * 4, none⟩) hb1] at c0
        rw [← hnx.cell (p := ⟨b1, o1 + k * 4 + 1, none⟩) hb1] at c1'
        rw [← hnx.cell (p := ⟨b1, o1 + k * 4 + 2, none⟩) hb1] at c2'
        rw [← hnx.cell (p := ⟨b1, o1 + k * 4 + 3, none⟩) hb1] at c3
        rw [← hnx.cell (p := ⟨b2, o2 + k * 4, none⟩) hb2] at d0
        rw [← hnx.cell (p := ⟨b2, o2 + k * 4 + 1, none⟩) hb2] at d1
        rw [← hnx.cell (p := ⟨b2, o2 + k * 4 + 2, none⟩) hb2] at d2
        rw [← hnx.cell (p := ⟨b2, o2 + k * 4 + 3, none⟩) hb2] at d3
        have hzr := hnx.size
        have hb1' : b1 < wr.heap.size := by omega
        have hb2' : b2 < wr.heap.size := by omega
        have hki : (0 : Int) ≤ (k : Int) := by omega
        have hkj : (k : Int) < (xs.length : Int) := by omega
        have hq := eqLink_any x y
        unfold lkV at hq
        obtain ⟨q, hqq⟩ : ∃ q, q = decide (x = y) := ⟨_, rfl⟩
        rw [← hqq] at hq
        have HQ := hide hq
        have HQQ := hide hqq
        have HX := hide hx
        have HY := hide hy
        clear hq hqq hx hy
        cases q
        · go_wp2
          go_region_held3 (fun W => W.cell? ⟨b1, o1 + k * 4, none⟩ = some (.int .i64 x.a) ∧ W.cell? ⟨b1, o1 + k * 4 + 1, none⟩ = some (.int .i64 x.b) ∧ W.cell? ⟨b1, o1 + k * 4 + 2, none⟩ = some (.int .i64 x.c) ∧ W.cell? ⟨b1, o1 + k * 4 + 3, none⟩ = some (.int .i64 x.r) ∧ W.cell? ⟨b2, o2 + k * 4, none⟩ = some (.int .i64 y.a) ∧ W.cell? ⟨b2, o2 + k * 4 + 1, none⟩ = some (.int .i64 y.b) ∧ W.cell? ⟨b2, o2 + k * 4 + 2, none⟩ = some (.int .i64 y.c) ∧ W.cell? ⟨b2, o2 + k * 4 + 3, none⟩ = some (.int .i64 y.r)) (first | go_keep | (refine ⟨?_, ?_, ?_, ?_, ?_, ?_, ?_, ?_⟩ <;> (rw [hbc.cell (by assumption)]; assumption))) (first | (go_at_call 126; refine (HQ.out _).mono ?_; rintro e w1 ⟨rfl, hbc⟩))
          go_wp2
          go_ret
          exact ⟨ret_bool_no (ne_at HX.out HY.out (of_decide_eq_false HQQ.out.symm)), hnx.trans ((Below.refl _ _).drew.trans (hbc.mono hzr))⟩
        · go_wp2
          go_region_held3 (fun W => W.cell? ⟨b1, o1 + k * 4, none⟩ = some (.int .i64 x.a) ∧ W.cell? ⟨b1, o1 + k * 4 + 1, none⟩ = some (.int .i64 x.b) ∧ W.cell? ⟨b1, o1 + k * 4 + 2, none⟩ = some (.int .i64 x.c) ∧ W.cell? ⟨b1, o1 + k * 4 + 3, none⟩ = some (.int .i64 x.r) ∧ W.cell? ⟨b2, o2 + k * 4, none⟩ = some (.int .i64 y.a) ∧ W.cell? ⟨b2, o2 + k * 4 + 1, none⟩ = some (.int .i64 y.b) ∧ W.cell? ⟨b2, o2 + k * 4 + 2, none⟩ = some (.int .i64 y.c) ∧ W.cell? ⟨b2, o2 + k * 4 + 3, none⟩ = some (.int .i64 y.r)) (first | go_keep | (refine ⟨?_, ?_, ?_, ?_, ?_, ?_, ?_, ?_⟩ <;> (rw [hbc.cell (by assumption)]; assumption))) (first | (go_at_call 126; refine (HQ.out _).mono ?_; rintro e w1 ⟨rfl, hbc⟩))
          go_wp2
          go_roundw
          case rel => exact ⟨k + 1, by omega, by go_num, (fun j hj => by
            by_cases e : j = k
            · subst e; rw [HX.out, HY.out, of_decide_eq_true HQQ.out.symm]
            · exact HALL.out j (by omega)), hnx.trans ((Below.refl _ _).drew.trans (hbc.mono hzr))⟩
          case measure => simp [intOf]; omega
      · have hkn : k = xs.length := by omega
        have KN := hide hkn
        clear hkn
        go_wp2
        go_ret
        exact ⟨ret_bool_yes (eq_all HLN.out (by rw [← KN.out]; exact HALL.out)), hnx⟩
  · clear h1 h2
    have hd : ((xs.length : Int) != (ys.length : Int)) = true := by simp; omega
    go_enter Tryz.func90, Tryz.ntmps90
    go_wp2
    go_ret
    exact ⟨ret_bool_no (fun h => hl (by rw [h])), Below.refl _ _⟩
set_option maxRecDepth 100000 in
set_option maxHeartbeats 1000000 in
theorem eqThingS_any (v1 v2 : Value) (xs ys : List Th) (w : World) (h1 : ThingsAt w v1 xs w.heap.size) (h2 : ThingsAt w v2 ys w.heap.size) (hn : xs.length ≤ 1048576) :
    Calls Tryz.prog 91 #[v1, v2] w fun e w' => e = .returned (.bool (decide (xs = ys))) ∧ Below w.heap.size w w' := by
  obtain ⟨a1, c1, rfl⟩ := h1.shape
  obtain ⟨a2, c2, rfl⟩ := h2.shape
  by_cases hl : xs.length = ys.length
  · have K1 := hide h1
    have K2 := hide h2
    have HLN := hide hl
    rw [← hl]
    clear h1 h2 hl
    go_enter Tryz.func91, Tryz.ntmps91
    go_wp2
    go_loopw [5] (fun i wr => ∃ k : Nat, k ≤ xs.length ∧ i = .int .i64 k ∧ (∀ j, j < k → xs[j]? = ys[j]?) ∧ Below w.heap.size w wr) (fun i _ => xs.length - (intOf i).toNat)
    case atStart => exact ⟨0, by omega, rfl, by omega, Below.refl _ _⟩
    case round =>
      obtain ⟨k, hk, rfl, hall, hnx⟩ := hrel
      have HALL := hide hall
      clear hall
      by_cases hlt : k < xs.length
      · obtain ⟨x, hx⟩ : ∃ l, xs[k]? = some l := ⟨xs[k], List.getElem?_eq_getElem hlt⟩
        obtain ⟨y, hy⟩ : ∃ l, ys[k]? = some l := ⟨ys[k], List.getElem?_eq_getElem (by have := HLN.out; omega)⟩
        obtain ⟨b1, o1, cp1, hv1, hb1, c0, c1', c2', c3⟩ := K1.out.cells k x hx
        obtain ⟨b2, o2, cp2, hv2, hb2, d0, d1, d2, d3⟩ := K2.out.cells k y hy
        cases hv1
        cases hv2
        rw [← hnx.cell (p := ⟨b1, o1 + k * 4, none⟩) hb1] at c0
        rw [← hnx.cell (p := ⟨b1, o1 + k * 4 + 1, none⟩) hb1] at c1'
        rw [← hnx.cell (p := ⟨b1, o1 + k * 4 + 2, none⟩) hb1] at c2'
        rw [← hnx.cell (p := ⟨b1, o1 + k * 4 + 3, none⟩) hb1] at c3
        rw [← hnx.cell (p := ⟨b2, o2 + k * 4, none⟩) hb2] at d0
        rw [← hnx.cell (p := ⟨b2, o2 + k * 4 + 1, none⟩) hb2] at d1
        rw [← hnx.cell (p := ⟨b2, o2 + k * 4 + 2, none⟩) hb2] at d2
        rw [← hnx.cell (p := ⟨b2, o2 + k * 4 + 3, none⟩) hb2] at d3
        have hzr := hnx.size
        have hb1' : b1 < wr.heap.size := by omega
        have hb2' : b2 < wr.heap.size := by omega
        have hki : (0 : Int) ≤ (k : Int) := by omega
        have hkj : (k : Int) < (xs.length : Int) := by omega
        have hq := eqThing_any x y
        unfold thV at hq
        obtain ⟨q, hqq⟩ : ∃ q, q = decide (x = y) := ⟨_, rfl⟩
        rw [← hqq] at hq
        have HQ := hide hq
        have HQQ := hide hqq
        have HX := hide hx
        have HY := hide hy
        clear hq hqq hx hy
        cases q
        · go_wp2
          go_region_held3 (fun W => W.cell? ⟨b1, o1 + k * 4, none⟩ = some (.int .i64 x.o) ∧ W.cell? ⟨b1, o1 + k * 4 + 1, none⟩ = some (.int .i64 x.k) ∧ W.cell? ⟨b1, o1 + k * 4 + 2, none⟩ = some (.int .i64 x.c) ∧ W.cell? ⟨b1, o1 + k * 4 + 3, none⟩ = some (.bool x.f) ∧ W.cell? ⟨b2, o2 + k * 4, none⟩ = some (.int .i64 y.o) ∧ W.cell? ⟨b2, o2 + k * 4 + 1, none⟩ = some (.int .i64 y.k) ∧ W.cell? ⟨b2, o2 + k * 4 + 2, none⟩ = some (.int .i64 y.c) ∧ W.cell? ⟨b2, o2 + k * 4 + 3, none⟩ = some (.bool y.f)) (first | go_keep | (refine ⟨?_, ?_, ?_, ?_, ?_, ?_, ?_, ?_⟩ <;> (rw [hbc.cell (by assumption)]; assumption))) (first | (go_at_call 127; refine (HQ.out _).mono ?_; rintro e w1 ⟨rfl, hbc⟩))
          go_wp2
          go_ret
          exact ⟨ret_bool_no (ne_at HX.out HY.out (of_decide_eq_false HQQ.out.symm)), hnx.trans ((Below.refl _ _).drew.trans (hbc.mono hzr))⟩
        · go_wp2
          go_region_held3 (fun W => W.cell? ⟨b1, o1 + k * 4, none⟩ = some (.int .i64 x.o) ∧ W.cell? ⟨b1, o1 + k * 4 + 1, none⟩ = some (.int .i64 x.k) ∧ W.cell? ⟨b1, o1 + k * 4 + 2, none⟩ = some (.int .i64 x.c) ∧ W.cell? ⟨b1, o1 + k * 4 + 3, none⟩ = some (.bool x.f) ∧ W.cell? ⟨b2, o2 + k * 4, none⟩ = some (.int .i64 y.o) ∧ W.cell? ⟨b2, o2 + k * 4 + 1, none⟩ = some (.int .i64 y.k) ∧ W.cell? ⟨b2, o2 + k * 4 + 2, none⟩ = some (.int .i64 y.c) ∧ W.cell? ⟨b2, o2 + k * 4 + 3, none⟩ = some (.bool y.f)) (first | go_keep | (refine ⟨?_, ?_, ?_, ?_, ?_, ?_, ?_, ?_⟩ <;> (rw [hbc.cell (by assumption)]; assumption))) (first | (go_at_call 127; refine (HQ.out _).mono ?_; rintro e w1 ⟨rfl, hbc⟩))
          go_wp2
          go_roundw
          case rel => exact ⟨k + 1, by omega, by go_num, (fun j hj => by
            by_cases e : j = k
            · subst e; rw [HX.out, HY.out, of_decide_eq_true HQQ.out.symm]
            · exact HALL.out j (by omega)), hnx.trans ((Below.refl _ _).drew.trans (hbc.mono hzr))⟩
          case measure => simp [intOf]; omega
      · have hkn : k = xs.length := by omega
        have KN := hide hkn
        clear hkn
        go_wp2
        go_ret
        exact ⟨ret_bool_yes (eq_all HLN.out (by rw [← KN.out]; exact HALL.out)), hnx⟩
  · clear h1 h2
    have hd : ((xs.length : Int) != (ys.length : Int)) = true := by simp; omega
    go_enter Tryz.func91, Tryz.ntmps91
    go_wp2
    go_ret
    exact ⟨ret_bool_no (fun h => hl (by rw [h])), Below.refl _ _⟩
end Go.Proofs.YtcimbiinljcifaaGreat
namespace Go.Proofs.YtcimbiinljcifaaGreat
open Go.RowKit

structure NetD where
  n : Int
  ls : List Lk
  ts : List Th
  deriving DecidableEq

/-- the value v is the net x, whose rows lie below B -/
def NetAt (W : World) (v : Value) (x : NetD) (B : Nat) : Prop := ∃ v1 v2, v = .agg #[.int .i64 x.n, v1, v2] ∧ LinksAt W v1 x.ls B ∧ ThingsAt W v2 x.ts B

theorem NetAt.then {W W' : World} {v : Value} {x : NetD} (h : NetAt W v x W.heap.size) (hb : Below W.heap.size W W') : NetAt W' v x W'.heap.size := by
  obtain ⟨v1, v2, hv, h1, h2⟩ := h
  exact ⟨v1, v2, hv, h1.then hb, h2.then hb⟩

set_option maxRecDepth 100000 in
set_option maxHeartbeats 1000000 in
theorem szLinkS_any (a : Option Addr) (n c : Nat) (q : Int) (w : World) (hn : (n : Int) ≤ 9223372036854775807) (hq0 : 0 ≤ q) (hq : q ≤ 1048576) :
    Calls Tryz.prog 84 #[.slice a n c, .int .i64 q] w fun e w' => e = .returned (.int .i64 (if q - (n : Int) < 0 then -1 else q - (n : Int))) ∧ w = w' := by
  by_cases h : q - (n : Int) < 0
  · rw [if_pos h]
    go_enter Tryz.func84, Tryz.ntmps84
    go_wp2
    go_ret
    exact ⟨rfl, rfl⟩
  · rw [if_neg h]
    go_enter Tryz.func84, Tryz.ntmps84
    go_wp2
    go_ret
    exact ⟨rfl, rfl⟩

set_option maxRecDepth 100000 in
set_option maxHeartbeats 1000000 in
theorem szThingS_any (a : Option Addr) (n c : Nat) (q : Int) (w : World) (hn : (n : Int) ≤ 9223372036854775807) (hq0 : 0 ≤ q) (hq : q ≤ 1048576) :
    Calls Tryz.prog 85 #[.slice a n c, .int .i64 q] w fun e w' => e = .returned (.int .i64 (if q - (n : Int) < 0 then -1 else q - (n : Int))) ∧ w = w' := by
  by_cases h : q - (n : Int) < 0
  · rw [if_pos h]
    go_enter Tryz.func85, Tryz.ntmps85
    go_wp2
    go_ret
    exact ⟨rfl, rfl⟩
  · rw [if_neg h]
    go_enter Tryz.func85, Tryz.ntmps85
    go_wp2
    go_ret
    exact ⟨rfl, rfl⟩

/-- what is left of q behind n and m: -1 where it is passed -/
def szN (q : Int) (n m : Nat) : Int := if q - (n : Int) < 0 then -1 else if q - (n : Int) - (m : Int) < 0 then -1 else q - (n : Int) - (m : Int)

set_option maxRecDepth 100000 in
set_option maxHeartbeats 1000000 in
theorem szNet_any (v0 : Value) (a1 a2 : Option Addr) (n m c1 c2 : Nat) (q : Int) (w : World) (hn : (n : Int) ≤ 9223372036854775807) (hm : (m : Int) ≤ 9223372036854775807) (hq0 : 0 ≤ q) (hq : q ≤ 1048576) :
    Calls Tryz.prog 42 #[.agg #[v0, .slice a1 n c1, .slice a2 m c2], .int .i64 q] w fun e w' => e = .returned (.int .i64 (szN q n m)) ∧ Below w.heap.size w w' := by
  unfold szN
  by_cases h : q - (n : Int) < 0
  · rw [if_pos h]
    go_enter Tryz.func42, Tryz.ntmps42
    go_wp2_with fail
    refine (szLinkS_any a1 n c1 q _ hn hq0 hq).mono ?_
    rw [if_pos h]
    rintro e w1 ⟨rfl, rfl⟩
    go_wp2
    go_ret
    exact ⟨rfl, (Below.refl _ _).alloc (Nat.le_refl _) _⟩
  · rw [if_neg h]
    by_cases h2 : q - (n : Int) - (m : Int) < 0
    · rw [if_pos h2]
      go_enter Tryz.func42, Tryz.ntmps42
      go_wp2_with fail
      refine (szLinkS_any a1 n c1 q _ hn hq0 hq).mono ?_
      rw [if_neg (by omega)]
      rintro e w1 ⟨rfl, rfl⟩
      go_wp2_with fail
      refine (szThingS_any a2 m c2 _ _ hm (by omega) (by omega)).mono ?_
      rw [if_pos h2]
      rintro e w1 ⟨rfl, rfl⟩
      go_wp2
      go_ret
      exact ⟨rfl, (Below.refl _ _).alloc (Nat.le_refl _) _⟩
    · rw [if_neg h2]
      go_enter Tryz.func42, Tryz.ntmps42
      go_wp2_with fail
      refine (szLinkS_any a1 n c1 q _ hn hq0 hq).mono ?_
      rw [if_neg (by omega)]
      rintro e w1 ⟨rfl, rfl⟩
      go_wp2_with fail
      refine (szThingS_any a2 m c2 _ _ hm (by omega) (by omega)).mono ?_
      rw [if_neg (by omega)]
      rintro e w1 ⟨rfl, rfl⟩
      go_wp2
      go_ret
      exact ⟨rfl, (Below.refl _ _).alloc (Nat.le_refl _) _⟩

set_option maxRecDepth 100000 in
set_option maxHeartbeats 1000000 in
theorem toNet_any (v : Value) (x : NetD) (w : World) (hl : x.ls.length ≤ 1048576) (ht : x.ts.length ≤ 1048576) (hv : NetAt w v x w.heap.size) :
    Calls Tryz.prog 45 #[v] w fun e w' => ∃ v1 v2, e = .returned (.agg #[.int .i64 x.n, v1, v2]) ∧ w'.ownsRow w.heap.size 127 4 v1 x.ls.length (flat lkE x.ls) ∧ w'.ownsRow w.heap.size 131 4 v2 x.ts.length (flat thE x.ts) ∧ Below w.heap.size w w' := by
  obtain ⟨u1, u2, rfl, h1, h2⟩ := hv
  obtain ⟨a1, c1, rfl⟩ := h1.shape
  obtain ⟨a2, c2, rfl⟩ := h2.shape
  have H1 := hide h1
  have H2 := hide h2
  clear h1 h2
  go_enter Tryz.func45, Tryz.ntmps45
  go_wp2_with fail
  have hw0 := heap3_0 w (.cells #[.int .i64 x.n, .slice a1 x.ls.length c1, .slice a2 x.ts.length c2] 46) (.cells #[.int .i64 0, .slice none 0 0, .slice none 0 0] 27) (.cells #[.int .i64 x.n, .slice none 0 0, .slice none 0 0] 27)
  have hw1 := heap3_1 w (.cells #[.int .i64 x.n, .slice a1 x.ls.length c1, .slice a2 x.ts.length c2] 46) (.cells #[.int .i64 0, .slice none 0 0, .slice none 0 0] 27) (.cells #[.int .i64 x.n, .slice none 0 0, .slice none 0 0] 27)
  have hw2 := heap3_2 w (.cells #[.int .i64 x.n, .slice a1 x.ls.length c1, .slice a2 x.ts.length c2] 46) (.cells #[.int .i64 0, .slice none 0 0, .slice none 0 0] 27) (.cells #[.int .i64 x.n, .slice none 0 0, .slice none 0 0] 27)
  have bw := below_three (w := w) (.cells #[.int .i64 x.n, .slice a1 x.ls.length c1, .slice a2 x.ts.length c2] 46) (.cells #[.int .i64 0, .slice none 0 0, .slice none 0 0] 27) (.cells #[.int .i64 x.n, .slice none 0 0, .slice none 0 0] 27)
  generalize (((w.alloc (.cells #[.int .i64 x.n, .slice a1 x.ls.length c1, .slice a2 x.ts.length c2] 46)).alloc (.cells #[.int .i64 0, .slice none 0 0, .slice none 0 0] 27)).alloc (.cells #[.int .i64 x.n, .slice none 0 0, .slice none 0 0] 27)) = w1 at *
  refine (toLinkS_any _ x.ls w1 hl (H1.out.then bw)).mono ?_
  rintro e w2 ⟨v1, rfl, ho1, b2⟩
  obtain ⟨p1, q1, rfl⟩ := owns_lenS ho1
  have l2 := lt_of_heap hw2
  rw [← b2.block _ (lt_of_heap hw0)] at hw0
  rw [← b2.block _ (lt_of_heap hw1)] at hw1
  rw [← b2.block _ l2] at hw2
  have s1 := cells_at hw0 2
  have s2 := cells_at hw2 1
  have f2 := frozen_at hw2 1
  simp at s1 s2
  have hb12 : w.heap.size ≤ w1.heap.size := bw.size
  have hb22 : w1.heap.size ≤ w2.heap.size := b2.size
  have bw2 : Below w.heap.size w w2 := bw.trans (b2.mono hb12)
  have O1 := hide ho1
  have HW0 := hide hw0
  have HW1 := hide hw1
  have HW2 := hide hw2
  clear ho1 hw0 hw1 hw2
  go_wp2_with fail
  have o1 := owns_set (p := w.heap.size + 1 + 1) (j := 1) (u := .slice p1 x.ls.length q1) O1.out (by omega)
  have g0 : (w2.setCell ⟨w.heap.size + 1 + 1, 1, none⟩ (.slice p1 x.ls.length q1)).heap[w.heap.size + 1]? = some (.cells #[.int .i64 0, .slice none 0 0, .slice none 0 0] 27) := by
    rw [heap_setCell_other w2 ⟨w.heap.size + 1 + 1, 1, none⟩ _ _ (by show w.heap.size + 1 ≠ w.heap.size + 1 + 1; omega)]; exact HW1.out
  have g2 : (w2.setCell ⟨w.heap.size + 1 + 1, 1, none⟩ (.slice p1 x.ls.length q1)).heap[w.heap.size + 1 + 1]? = some (.cells #[.int .i64 x.n, .slice p1 x.ls.length q1, .slice none 0 0] 27) := by
    rw [heap_setCell_same w2 _ 1 _ _ _ HW2.out]; rfl
  have bw3 : Below w.heap.size w (w2.setCell ⟨w.heap.size + 1 + 1, 1, none⟩ (.slice p1 x.ls.length q1)) := bw2.setCell (by show w.heap.size ≤ w.heap.size + 1 + 1; omega) _
  have z3 : (w2.setCell ⟨w.heap.size + 1 + 1, 1, none⟩ (.slice p1 x.ls.length q1)).heap.size = w2.heap.size := by simp
  generalize (w2.setCell ⟨w.heap.size + 1 + 1, 1, none⟩ (.slice p1 x.ls.length q1)) = w3 at *
  clear s1 s2 f2 HW0 HW1 HW2 O1
  refine (toThingS_any _ x.ts w3 ht (H2.out.then bw3)).mono ?_
  rintro e w4 ⟨v2, rfl, ho2, b4⟩
  obtain ⟨p2, q2, rfl⟩ := owns_lenS ho2
  have hl1 : w.heap.size + 1 + 1 < w3.heap.size := lt_of_heap g2
  rw [← b4.block _ (lt_of_heap g0)] at g0
  rw [← b4.block _ hl1] at g2
  have o1' := owns_below o1 b4 (Nat.le_refl _)
  have bw4 : Below w.heap.size w w4 := bw3.trans (b4.mono bw3.size)
  have r0 := cells_at g0 0
  have r1 := cells_at g0 1
  have r2 := cells_at g0 2
  have t0 := cells_at g2 0
  have t1 := cells_at g2 1
  have t2 := cells_at g2 2
  have f0 := frozen_at g0 0
  have f1 := frozen_at g0 1
  have f2 := frozen_at g0 2
  have e2 := frozen_at g2 2
  simp at r0 r1 r2 t0 t1 t2
  have hz4 := b4.size
  have O1 := hide o1'
  have O2 := hide ho2
  have G0 := hide g0
  clear o1 o1' ho2 g0 g2
  go_wp2
  have hfin : ((((w4.setCell ⟨w.heap.size + 1 + 1, 2, none⟩ (.slice p2 x.ts.length q2)).setCell ⟨w.heap.size + 1, 0, none⟩ (.int .i64 x.n)).setCell ⟨w.heap.size + 1, 1, none⟩ (.slice p1 x.ls.length q1)).setCell ⟨w.heap.size + 1, 2, none⟩ (.slice p2 x.ts.length q2)).heap[w.heap.size + 1]? = some (.cells #[.int .i64 x.n, .slice p1 x.ls.length q1, .slice p2 x.ts.length q2] 27) := by
    have k0 : (w4.setCell ⟨w.heap.size + 1 + 1, 2, none⟩ (.slice p2 x.ts.length q2)).heap[w.heap.size + 1]? = some (.cells #[.int .i64 0, .slice none 0 0, .slice none 0 0] 27) := by
      rw [heap_setCell_other w4 ⟨w.heap.size + 1 + 1, 2, none⟩ _ _ (by show w.heap.size + 1 ≠ w.heap.size + 1 + 1; omega)]; exact G0.out
    have k1 := heap_setCell_same _ _ 0 _ _ (.int .i64 x.n) k0
    have k2 := heap_setCell_same _ _ 1 _ _ (.slice p1 x.ls.length q1) k1
    have k3 := heap_setCell_same _ _ 2 _ _ (.slice p2 x.ts.length q2) k2
    exact k3
  try simp only [Exit.inBlock, Exit.then]
  refine bodyPost_ret (results_cell_row rfl _ _ (w.heap.size + 1) 27 #[.int .i64 x.n, .slice p1 x.ls.length q1, .slice p2 x.ts.length q2] (0, 0) _ rfl hfin Tryz.underlying27 rfl (by kernel_rfl)) rfl ?_
  refine ⟨_, _, rfl, owns_baseS (owns_set (owns_set (owns_set (owns_set O1.out (by omega)) (by omega)) (by omega)) (by omega)) (by omega), owns_baseS (owns_set (owns_set (owns_set (owns_set O2.out (by omega)) (by omega)) (by omega)) (by omega)) (by omega), ?_⟩
  exact (((bw4.setCell (by show w.heap.size ≤ w.heap.size + 1 + 1; omega) _).setCell (by show w.heap.size ≤ w.heap.size + 1; omega) _).setCell (by show w.heap.size ≤ w.heap.size + 1; omega) _).setCell (by show w.heap.size ≤ w.heap.size + 1; omega) _

set_option maxRecDepth 100000 in
set_option maxHeartbeats 1000000 in
theorem eqNet_any (v1 v2 : Value) (x y : NetD) (w : World) (h1 : NetAt w v1 x w.heap.size) (h2 : NetAt w v2 y w.heap.size) (hl : x.ls.length ≤ 1048576) (ht : x.ts.length ≤ 1048576) :
    Calls Tryz.prog 48 #[v1, v2] w fun e w' => e = .returned (.bool (decide (x = y))) ∧ Below w.heap.size w w' := by
  obtain ⟨n, ls, ts⟩ := x
  obtain ⟨m, ls', ts'⟩ := y
  obtain ⟨a1, a2, rfl, k1, k2⟩ := h1
  obtain ⟨b1, b2, rfl, j1, j2⟩ := h2
  have K1 := hide k1
  have K2 := hide k2
  have J1 := hide j1
  have J2 := hide j2
  clear k1 k2 j1 j2
  by_cases hnm : n = m
  · subst hnm
    go_enter Tryz.func48, Tryz.ntmps48
    go_wp2_with fail
    refine (eqLinkS_any a1 b1 ls ls' _ (K1.out.then (below_two _ _)) (J1.out.then (below_two _ _)) hl).mono ?_
    rintro e w1 ⟨rfl, bb1⟩
    have bw1 : Below w.heap.size w w1 := (below_two _ _).trans (bb1.mono (by simp; omega))
    have hw0 : w1.heap[w.heap.size]? = some (.cells #[.int .i64 n, a1, a2] 27) := by
      rw [bb1.block _ (by simp; omega), Below.heap_alloc _ _ _ (by simp), heap_alloc_new]
    have hw1 : w1.heap[w.heap.size + 1]? = some (.cells #[.int .i64 n, b1, b2] 27) := by
      rw [bb1.block _ (by simp)]
      have := heap_alloc_new (w.alloc (.cells #[.int .i64 n, a1, a2] 27)) (.cells #[.int .i64 n, b1, b2] 27)
      simpa using this
    have s1 := cells_at hw0 2
    have s2 := cells_at hw1 2
    simp at s1 s2
    clear bb1 hw0 hw1
    by_cases hls : ls = ls'
    · subst hls
      have hd : decide (ls = ls) = true := by simp
      rw [hd]
      clear hd
      go_wp2_with fail
      refine (eqThingS_any a2 b2 ts ts' _ (K2.out.then bw1) (J2.out.then bw1) ht).mono ?_
      rintro e w2 ⟨rfl, bb2⟩
      have bw2 : Below w.heap.size w w2 := bw1.trans (bb2.mono bw1.size)
      by_cases hts : ts = ts'
      · subst hts
        have hd : decide (ts = ts) = true := by simp
        rw [hd]
        clear hd
        go_wp2
        go_ret
        exact ⟨by simp, bw2⟩
      · rw [decide_eq_false hts]
        have hne : decide (({ n := n, ls := ls, ts := ts } : NetD) = { n := n, ls := ls, ts := ts' }) = false := decide_eq_false (fun h => by cases h; exact hts rfl)
        have HNE := hide hne
        clear hne
        go_wp2
        go_ret
        exact ⟨by rw [HNE.out]; rfl, bw2⟩
    · rw [decide_eq_false hls]
      have hne : decide (({ n := n, ls := ls, ts := ts } : NetD) = { n := n, ls := ls', ts := ts' }) = false := decide_eq_false (fun h => by cases h; exact hls rfl)
      have HNE := hide hne
      clear hne
      go_wp2
      go_ret
      exact ⟨by rw [HNE.out]; rfl, bw1⟩
  · have hd : (n != m) = true := by simpa using hnm
    have hne : decide (({ n := n, ls := ls, ts := ts } : NetD) = { n := m, ls := ls', ts := ts' }) = false := decide_eq_false (fun h => by cases h; exact hnm rfl)
    rw [hne]
    clear hne
    go_enter Tryz.func48, Tryz.ntmps48
    go_wp2
    go_ret
    exact ⟨rfl, below_two _ _⟩
end Go.Proofs.YtcimbiinljcifaaGreat
namespace Go.Proofs.YtcimbiinljcifaaGreat
open Go.RowKit

structure Nr where
  to : Int
  c : Int
  deriving DecidableEq

instance : Inhabited Nr := ⟨⟨0, 0⟩⟩

def nrV (l : Nr) : Value := .agg #[.int .i64 l.to, .int .i64 l.c]

def nrE (l : Nr) : List Value := [.int .i64 l.to, .int .i64 l.c]

theorem nrE_len (l : Nr) : (nrE l).length = 2 := rfl

def NearsAt (W : World) (v : Value) (ls : List Nr) (B : Nat) : Prop := StructsAt nrE 2 W v ls B

theorem NearsAt.then {W W' : World} {v : Value} {ls : List Nr} (h : NearsAt W v ls W.heap.size) (hb : Below W.heap.size W W') : NearsAt W' v ls W'.heap.size := RowAt.then h hb

theorem NearsAt.shape {W : World} {v : Value} {ls : List Nr} {B : Nat} (h : NearsAt W v ls B) : ∃ a cap, v = .slice a ls.length cap := by obtain ⟨a, cap, h, _⟩ := h; exact ⟨a, cap, h⟩

theorem NearsAt.cells {W : World} {v : Value} {ls : List Nr} {B : Nat} (h : NearsAt W v ls B) (i : Nat) (l : Nr) (hl : ls[i]? = some l) :
    ∃ b off cap, v = .slice (some ⟨b, off, none⟩) ls.length cap ∧ b < B ∧ W.cell? ⟨b, off + i * 2, none⟩ = some (.int .i64 l.to) ∧ W.cell? ⟨b, off + i * 2 + 1, none⟩ = some (.int .i64 l.c) := by
  obtain ⟨b, off, cap, hv, hb, hc⟩ := StructsAt.cell h nrE_len i l hl
  exact ⟨b, off, cap, hv, hb, hc 0 _ rfl, hc 1 _ rfl⟩

set_option maxRecDepth 100000 in
set_option maxHeartbeats 1000000 in
theorem toNear_any (l : Nr) (w : World) : Calls Tryz.prog 125 #[nrV l] w fun e w' => e = .returned (nrV l) ∧ Below w.heap.size w w' := by
  obtain ⟨a, b⟩ := l
  unfold nrV
  go_enter Tryz.func125, Tryz.ntmps125
  go_wp2
  go_returns
  exact ⟨rfl, below_three _ _ _⟩

set_option maxRecDepth 100000 in
set_option maxHeartbeats 1000000 in
theorem eqNear_any (l m : Nr) (w : World) : Calls Tryz.prog 128 #[nrV l, nrV m] w fun e w' => e = .returned (.bool (decide (l = m))) ∧ Below w.heap.size w w' := by
  obtain ⟨a, b⟩ := l
  obtain ⟨a', b'⟩ := m
  unfold nrV
  go_enter Tryz.func128, Tryz.ntmps128
  go_wp2
  all_goals go_returns
  all_goals refine ⟨?_, below_two _ _⟩
  all_goals first
    | exact ret_bool_no (fun h => by cases h; simp_all)
    | exact ret_bool_yes (by simp_all)

def nr0 : Nr := ⟨0, 0⟩

theorem Tryz.infoNr : (Tryz.prog.info? 98).map (fun i => (i.zero, i.size, i.bytes)) = some (some (nrV nr0), 2, 16) := by kernel_rfl

set_option maxRecDepth 100000 in
set_option maxHeartbeats 1000000 in
theorem toNearS_any (v : Value) (ls : List Nr) (w : World) (hls : ls.length ≤ 1048576) (hv : NearsAt w v ls w.heap.size) :
    Calls Tryz.prog 89 #[v] w fun e w' => ∃ x, e = .returned x ∧ w'.ownsRow w.heap.size 98 2 x ls.length (flat nrE ls) ∧ Below w.heap.size w w' := by
  obtain ⟨a, cap, rfl⟩ := hv.shape
  have HV := hide hv
  clear hv
  obtain ⟨i0, hi, hz0, hz1, hz2⟩ := info_parts Tryz.infoNr
  have HI := hide hi
  have HZ := hide hz0
  clear hi hz0
  go_enter Tryz.func89, Tryz.ntmps89
  go_wp2_with (first
    | (refine wpList_make_structs nrE_len (by omega) _ rfl _ _ 38 rfl w.heap.size 98 i0 (nrV nr0) nr0 rfl Tryz.underlying38 HI.out HZ.out hz1 ls.length rfl rfl (by rw [hz2]; omega) (by unfold maxLen; omega) (Nat.le_refl _) ?_))
  intro w1 hown hg
  have b1 : Below w.heap.size w w1 := (Below.refl _ _).grown hg (Nat.le_refl _) (fun k hk => by simp at hk)
  have hg1 : w.heap.size < w1.heap.size := by
    rcases hown.2 with ⟨h0, _⟩ | ⟨g, cp, cur, hv, _, hh, _⟩
    · cases h0
    · cases hv; exact lt_of_heap hh
  have OW := hide hown
  clear hown hg
  go_wp2
  go_loopw [4] (fun i wr => ∃ k : Nat, k ≤ ls.length ∧ i = .int .i64 k ∧ wr.ownsRow w.heap.size 98 2 (.slice (some ⟨w.heap.size, 0, none⟩) ls.length ls.length) ls.length (flat nrE (part ls nr0 k)) ∧ Below w.heap.size w wr) (fun i _ => ls.length - (intOf i).toNat)
  case atStart => exact ⟨0, by omega, rfl, (by simpa [part] using OW.out), b1⟩
  case round =>
    obtain ⟨k, hk, rfl, hown, hnx⟩ := hrel
    by_cases hlt : k < ls.length
    · obtain ⟨l, hl⟩ : ∃ l, ls[k]? = some l := ⟨ls[k], List.getElem?_eq_getElem hlt⟩
      obtain ⟨b, off, cap', hve, hbb, c0, c1⟩ := HV.out.cells k l hl
      cases hve
      rw [← hnx.cell (p := ⟨b, off + k * 2, none⟩) hbb] at c0
      rw [← hnx.cell (p := ⟨b, off + k * 2 + 1, none⟩) hbb] at c1
      have HL := hide hl
      have OW2 := hide hown
      clear hl hown
      have hki : (0 : Int) ≤ (k : Int) := by omega
      have hkj : (k : Int) < (ls.length : Int) := by omega
      have hto := toNear_any l
      unfold nrV at hto
      have HTO := hide hto
      clear hto
      go_wp2_with fail
      refine (HTO.out _).mono ?_
      rintro e w2 ⟨rfl, b2⟩
      have hown2 := owns_below OW2.out b2 (Nat.le_refl _)
      have hex : ∀ r, r < 2 → ∃ u, w2.cell? ⟨w.heap.size, k * 2 + r, none⟩ = some u := fun r hr => by
        have hj : k * 2 + r < ls.length * 2 := by omega
        rw [hown2.cellAt _ hj]
        have hln : k * 2 + r < (flat nrE (part ls nr0 k)).length := by rw [hown2.1]; exact hj
        exact ⟨_, List.getElem?_eq_getElem hln⟩
      obtain ⟨u0, d0⟩ := hex 0 (by omega)
      obtain ⟨u1, d1⟩ := hex 1 (by omega)
      rw [Nat.add_zero] at d0
      have f0 := hown2.frozenAt (k * 2)
      have f1 := hown2.frozenAt (k * 2 + 1)
      have OW3 := hide hown2
      clear hown2 hex
      go_wp2
      refine ⟨⟨k + 1, by omega, by go_num, ?_, ((hnx.trans (b2.mono hnx.size)).setCell (Nat.le_refl _) _).setCell (Nat.le_refl _) _⟩, by simp [intOf]; omega⟩
      have h4 := ((OW3.out.stored (k * 2) (.int .i64 l.to)).1.stored (k * 2 + 1) (.int .i64 l.c)).1
      have e4 : ((flat nrE (part ls nr0 k)).set (k * 2) (.int .i64 l.to)).set (k * 2 + 1) (.int .i64 l.c) = flat nrE (part ls nr0 (k + 1)) := by
        rw [← part_step ls nr0 l k HL.out, ← flat_set nrE_len _ _ _ (by rw [part_len _ _ _ hk]; exact hlt)]
        rfl
      rw [e4] at h4
      exact h4
    · have hkn : k = ls.length := by omega
      have KN := hide hkn
      have OW2 := hide hown
      clear hkn hown
      go_wp2
      go_ret
      refine ⟨_, rfl, ?_, hnx⟩
      have h := OW2.out
      rw [KN.out, part_all] at h
      exact h

set_option maxRecDepth 100000 in
set_option maxHeartbeats 1000000 in
theorem eqNearS_any (v1 v2 : Value) (xs ys : List Nr) (w : World) (h1 : NearsAt w v1 xs w.heap.size) (h2 : NearsAt w v2 ys w.heap.size) (hn : xs.length ≤ 1048576) :
    Calls Tryz.prog 92 #[v1, v2] w fun e w' => e = .returned (.bool (decide (xs = ys))) ∧ Below w.heap.size w w' := by
  obtain ⟨a1, c1, rfl⟩ := h1.shape
  obtain ⟨a2, c2, rfl⟩ := h2.shape
  by_cases hl : xs.length = ys.length
  · have K1 := hide h1
    have K2 := hide h2
    have HLN := hide hl
    rw [← hl]
    clear h1 h2 hl
    go_enter Tryz.func92, Tryz.ntmps92
    go_wp2
    go_loopw [5] (fun i wr => ∃ k : Nat, k ≤ xs.length ∧ i = .int .i64 k ∧ (∀ j, j < k → xs[j]? = ys[j]?) ∧ Below w.heap.size w wr) (fun i _ => xs.length - (intOf i).toNat)
    case atStart => exact ⟨0, by omega, rfl, by omega, Below.refl _ _⟩
    case round =>
      obtain ⟨k, hk, rfl, hall, hnx⟩ := hrel
      have HALL := hide hall
      clear hall
      by_cases hlt : k < xs.length
      · obtain ⟨x, hx⟩ : ∃ l, xs[k]? = some l := ⟨xs[k], List.getElem?_eq_getElem hlt⟩
        obtain ⟨y, hy⟩ : ∃ l, ys[k]? = some l := ⟨ys[k], List.getElem?_eq_getElem (by have := HLN.out; omega)⟩
        obtain ⟨b1, o1, cp1, hv1, hb1, c0, c1'⟩ := K1.out.cells k x hx
        obtain ⟨b2, o2, cp2, hv2, hb2, d0, d1⟩ := K2.out.cells k y hy
        cases hv1
        cases hv2
        rw [← hnx.cell (p := ⟨b1, o1 + k * 2, none⟩) hb1] at c0
        rw [← hnx.cell (p := ⟨b1, o1 + k * 2 + 1, none⟩) hb1] at c1'
        rw [← hnx.cell (p := ⟨b2, o2 + k * 2, none⟩) hb2] at d0
        rw [← hnx.cell (p := ⟨b2, o2 + k * 2 + 1, none⟩) hb2] at d1
        have hzr := hnx.size
        have hb1' : b1 < wr.heap.size := by omega
        have hb2' : b2 < wr.heap.size := by omega
        have hki : (0 : Int) ≤ (k : Int) := by omega
        have hkj : (k : Int) < (xs.length : Int) := by omega
        have hq := eqNear_any x y
        unfold nrV at hq
        obtain ⟨q, hqq⟩ : ∃ q, q = decide (x = y) := ⟨_, rfl⟩
        rw [← hqq] at hq
        have HQ := hide hq
        have HQQ := hide hqq
        have HX := hide hx
        have HY := hide hy
        clear hq hqq hx hy
        cases q
        · go_wp2
          go_region_held3 (fun W => W.cell? ⟨b1, o1 + k * 2, none⟩ = some (.int .i64 x.to) ∧ W.cell? ⟨b1, o1 + k * 2 + 1, none⟩ = some (.int .i64 x.c) ∧ W.cell? ⟨b2, o2 + k * 2, none⟩ = some (.int .i64 y.to) ∧ W.cell? ⟨b2, o2 + k * 2 + 1, none⟩ = some (.int .i64 y.c)) (first | go_keep | (refine ⟨?_, ?_, ?_, ?_⟩ <;> (rw [hbc.cell (by assumption)]; assumption))) (first | (go_at_call 128; refine (HQ.out _).mono ?_; rintro e w1 ⟨rfl, hbc⟩))
          go_wp2
          go_ret
          exact ⟨ret_bool_no (ne_at HX.out HY.out (of_decide_eq_false HQQ.out.symm)), hnx.trans ((Below.refl _ _).drew.trans (hbc.mono hzr))⟩
        · go_wp2
          go_region_held3 (fun W => W.cell? ⟨b1, o1 + k * 2, none⟩ = some (.int .i64 x.to) ∧ W.cell? ⟨b1, o1 + k * 2 + 1, none⟩ = some (.int .i64 x.c) ∧ W.cell? ⟨b2, o2 + k * 2, none⟩ = some (.int .i64 y.to) ∧ W.cell? ⟨b2, o2 + k * 2 + 1, none⟩ = some (.int .i64 y.c)) (first | go_keep | (refine ⟨?_, ?_, ?_, ?_⟩ <;> (rw [hbc.cell (by assumption)]; assumption))) (first | (go_at_call 128; refine (HQ.out _).mono ?_; rintro e w1 ⟨rfl, hbc⟩))
          go_wp2
          go_roundw
          case rel => exact ⟨k + 1, by omega, by go_num, (fun j hj => by
            by_cases e : j = k
            · subst e; rw [HX.out, HY.out, of_decide_eq_true HQQ.out.symm]
            · exact HALL.out j (by omega)), hnx.trans ((Below.refl _ _).drew.trans (hbc.mono hzr))⟩
          case measure => simp [intOf]; omega
      · have hkn : k = xs.length := by omega
        have KN := hide hkn
        clear hkn
        go_wp2
        go_ret
        exact ⟨ret_bool_yes (eq_all HLN.out (by rw [← KN.out]; exact HALL.out)), hnx⟩
  · clear h1 h2
    have hd : ((xs.length : Int) != (ys.length : Int)) = true := by simp; omega
    go_enter Tryz.func92, Tryz.ntmps92
    go_wp2
    go_ret
    exact ⟨ret_bool_no (fun h => hl (by rw [h])), Below.refl _ _⟩

set_option maxRecDepth 100000 in
set_option maxHeartbeats 1000000 in
theorem szNearS_any (a : Option Addr) (n c : Nat) (q : Int) (w : World) (hn : (n : Int) ≤ 9223372036854775807) (hq0 : 0 ≤ q) (hq : q ≤ 1048576) :
    Calls Tryz.prog 86 #[.slice a n c, .int .i64 q] w fun e w' => e = .returned (.int .i64 (if q - (n : Int) < 0 then -1 else q - (n : Int))) ∧ w = w' := by
  by_cases h : q - (n : Int) < 0
  · rw [if_pos h]
    go_enter Tryz.func86, Tryz.ntmps86
    go_wp2
    go_ret
    exact ⟨rfl, rfl⟩
  · rw [if_neg h]
    go_enter Tryz.func86, Tryz.ntmps86
    go_wp2
    go_ret
    exact ⟨rfl, rfl⟩
end Go.Proofs.YtcimbiinljcifaaGreat
