/-
  container/heap's up over impl.wayHeap: its contract.
  (*impl.wayHeap).Push, Pop; container/heap's Push and Pop over it: their contracts.
  A search that keeps what is next in a heap of pointers, as values.
  (*impl.wayFinder).found: its contract.
-/
import Derived.Test.YtakiifededfjlaaGreatRm20
import Derived.Test.YtakiifededfjlaaGreatRm7
import Derived.Test.YtakiifededfjlaaGreatRm8
namespace Go.Proofs.YtakiifededfjlaaGreat
open Go.RowKit
set_option linter.unusedSimpArgs false
set_option linter.unusedVariables false
set_option maxRecDepth 100000
set_option maxHeartbeats 8000000
structure HB (W : World) (lo z : Nat) (C : Array Value) (u : Value) (n : Nat) (q : Nat -> Nat) (wd : Nat -> WayD) (wv : Nat -> Value) : Prop where
 box : W.heap[z]? = some (.cells C 120)
 c7 : C[7]? = some u
 hq : HQ W lo u n q wd wv
theorem HB.cell {W : World} {lo z n : Nat} {C : Array Value} {u : Value} {q : Nat -> Nat} {wd : Nat -> WayD} {wv : Nat -> Value} (h : HB W lo z C u n q wd wv) : W.cell? ⟨z, 7, none⟩ = some u := (Zaa h.box 7).trans h.c7
theorem HB.below {W W' : World} {lo z n : Nat} {C : Array Value} {u : Value} {q : Nat -> Nat} {wd : Nat -> WayD} {wv : Nat -> Value} (h : HB W lo z C u n q wd wv) (hb : Below W.heap.size W W') : HB W' lo z C u n q wd wv :=
 ⟨(hb.block _ (Zab h.box)).trans h.box, h.c7, h.hq.below hb⟩
theorem HB.shuf {W W' : World} {lo z n : Nat} {C : Array Value} {u : Value} {q q' : Nat -> Nat} {wd : Nat -> WayD} {wv : Nat -> Value} (h : HB W lo z C u n q wd wv) (hg : W.grownBy W' u.ownBlock) (ho : W'.ownsRow lo 115 1 u n (ptrs q' n)) (hs : Shuf q q' n) : HB W' lo z C u n q' wd wv := by
 refine ⟨(hg.block z (Zab h.box) (Zaq h.hq.row h.box (by decide))).trans h.box, h.c7, ho, fun i hi => ?_, fun i hi => ?_⟩
 ·obtain ⟨j, hj, e⟩ := hs.into i hi
  rw [e]
  have hw := h.hq.way j hj
  exact (hg.block _ (Zab hw) (Zaq h.hq.row hw (by decide))).trans hw
 ·obtain ⟨j, hj, e⟩ := hs.into i hi
  rw [e]
  exact h.hq.sl j hj
theorem ZaY {W W' : World} {r : Option Nat} (hb : Below W.heap.size W W') : W.grownBy W' r := ⟨hb.os, hb.tape, hb.output, hb.size, fun k hk _ => hb.block k hk⟩
theorem up_any (W : World) (lo z n : Nat) (C : Array Value) (u : Value) (q : Nat -> Nat) (wd : Nat -> WayD) (wv : Nat -> Value) (j : Nat) (h : HB W lo z C u n q wd wv) (hj : j < n) (hn : n <= 1048576) (hu : UpInv (fun k => (wd k).cost) q n j) :
  Calls Tryz.prog 123 #[.iface 146 (.pointer (some ⟨z, 7, none⟩)), .int .i64 (j : Int)] W fun e W' => ∃ q', e = .returned (.tuple #[]) /\ ZcT (fun k => (wd k).cost) q' n /\ Shuf q q' n /\ HB W' lo z C u n q' wd wv /\ W.grownBy W' u.ownBlock := by
 have HU := hide hu
 have HH := hide h
 clear hu h
 go_enter Tryz.func123, Tryz.ntmps123
 go_wp2
 go_loopw [1] (fun i wr => ∃ (j : Nat) (q' : Nat -> Nat), j < n /\ i = .int .i64 (j : Int) /\ Hid (UpInv (fun k => (wd k).cost) q' n j) /\ Hid (Shuf q q' n) /\ Hid (HB wr lo z C u n q' wd wv) /\ Hid (W.grownBy wr u.ownBlock)) (fun i _ => (intOf i).toNat)
 case atStart => exact ⟨j, q, hj, rfl, HU, hide (Shuf.refl _ _), HH, hide (ZcD _ _)⟩
 case round =>
  rename World => wa
  clear HU HH hj
  obtain ⟨j, q', hj, rfl, HU, HS, HH, HG⟩ := hrel
  have cz := HH.out.cell
  by_cases hj0 : j = 0
  ·subst hj0
   have HI := hide (ZlE HU.out (.inl rfl))
   go_wp2
   go_returns
   exact ⟨q', rfl, HI.out, HS.out, HH.out, HG.out⟩
  ·have hw1 : IntKind.i64.wrap ((j : Int) - 1) = ((j - 1 : Nat) : Int) := by rw [ZaM _ (by omega) (by omega)]; omega
   have hw2 : ((j - 1 : Nat) : Int).tdiv 2 = ((par j : Nat) : Int) := by rw [Int.tdiv_eq_ediv_of_nonneg (by omega)]; unfold par; omega
   have hpl : par j < j := Zdf (by omega)
   obtain ⟨p, hp⟩ : ∃ p, p = par j := ⟨_, rfl⟩
   rw [<- hp] at hw2 hpl
   have HP := hide hp
   clear hp
   have hne : ((p : Int) == (j : Int)) = false := by
    have h1 : ¬ (p : Int) = (j : Int) := by omega
    simpa using h1
   have hne2 : ¬ (p : Int) = (j : Int) := by omega
   have HL := hide (ZeZ wa lo n u q' wd wv j p HH.out.hq hj (by omega))
   have mL := ZdD cz
   by_cases hlt : (wd (q' j)).cost < (wd (q' p)).cost
   ·go_wp2_with fail
    refine HL.out.mono ?_
    rintro e w2 ⟨rfl, b2⟩
    rw [decide_eq_true hlt]
    have H2 := HH.out.below b2
    have cz2 := H2.cell
    have mS := ZdJ cz2
    have HSW := hide (Ze5 w2 lo n u q' p j H2.hq.row (by omega) hj)
    have HB2 := hide H2
    have HUP := hide (Zn6 HU.out (by omega) hj (by rw [<- HP.out]; exact hlt))
    rw [<- HP.out] at HUP
    have HG2 := hide (Zal HG.out (ZaY (r := u.ownBlock) b2))
    clear b2 H2 mL
    go_wp2_with fail
    refine HSW.out.mono ?_
    rintro e w3 ⟨rfl, ho3, hg3⟩
    have HB3 := hide (HB2.out.shuf hg3 ho3 (Shuf.swap q' (by omega) hj))
    have HS3 := hide (HS.out.trans (Shuf.swap q' (i := p) (j := j) (by omega) hj))
    have HG3 := hide (Zal HG2.out hg3)
    clear ho3 hg3 mS
    go_wp2
    go_roundw
    case rel => exact ⟨p, _, by omega, rfl, HUP, HS3, HB3, HG3⟩
    case measure => simp [intOf]; omega
   ·go_wp2_with fail
    refine HL.out.mono ?_
    rintro e w2 ⟨rfl, b2⟩
    rw [decide_eq_false (by omega)]
    have HI := hide (ZlE HU.out (.inr (by rw [<- HP.out]; show ¬ (wd (q' j)).cost < (wd (q' p)).cost; omega)))
    have HB2 := hide (HH.out.below b2)
    have HG2 := hide (Zal HG.out (ZaY (r := u.ownBlock) b2))
    clear b2 mL
    go_wp2
    go_returns
    exact ⟨q', rfl, HI.out, HS.out, HB2.out, HG2.out⟩
theorem ZiZ {c : Nat -> Int} {q : Nat -> Nat} {n i j : Nat} (h1 : 2 * i + 1 < n -> c (q j) <= c (q (2 * i + 1))) (h2 : 2 * i + 2 < n -> c (q j) <= c (q (2 * i + 2))) : ∀ k, 0 < k -> k < n -> par k = i -> c (q j) <= c (q k) := by
 intro k h0 hk hp
 rcases ZjT h0 hp with rfl | rfl
 ·exact h1 hk
 ·exact h2 hk
theorem Zm4 (W : World) (lo z n m : Nat) (C : Array Value) (u : Value) (q : Nat -> Nat) (wd : Nat -> WayD) (wv : Nat -> Value) (h : HB W lo z C u m q wd wv) (hnm : n <= m) (hn : m <= 1048576) (hu : DownInv (fun k => (wd k).cost) q n 0) :
  Calls Tryz.prog 124 #[.iface 146 (.pointer (some ⟨z, 7, none⟩)), .int .i64 0, .int .i64 (n : Int)] W fun e W' => ∃ (r : Value) (q' : Nat -> Nat), e = .returned r /\ ZcT (fun k => (wd k).cost) q' n /\ Shuf q q' n /\ HB W' lo z C u m q' wd wv /\ W.grownBy W' u.ownBlock := by
 have HU := hide hu
 have HH := hide h
 clear hu h
 go_enter Tryz.func124, Tryz.ntmps124
 go_wp2
 go_loopw [7] (fun s wr => ∃ (i : Nat) (q' : Nat -> Nat), i <= n /\ s = .int .i64 (i : Int) /\ Hid (DownInv (fun k => (wd k).cost) q' n i) /\ Hid (Shuf q q' n) /\ Hid (HB wr lo z C u m q' wd wv) /\ Hid (W.grownBy wr u.ownBlock)) (fun s _ => n - (intOf s).toNat)
 case atStart => exact ⟨0, q, by omega, rfl, HU, hide (Shuf.refl _ _), HH, hide (ZcD _ _)⟩
 case round =>
  rename World => wa
  clear HU HH
  obtain ⟨i, q', hi, rfl, HU, HS, HH, HG⟩ := hrel
  have cz := HH.out.cell
  have hw1 : IntKind.i64.wrap (2 * (i : Int)) = ((2 * i : Nat) : Int) := by rw [ZaM _ (by omega) (by omega)]; omega
  have hw2 : IntKind.i64.wrap (((2 * i : Nat) : Int) + 1) = ((2 * i + 1 : Nat) : Int) := by rw [ZaM _ (by omega) (by omega)]; omega
  have hw3 : IntKind.i64.wrap (((2 * i + 1 : Nat) : Int) + 1) = ((2 * i + 2 : Nat) : Int) := by rw [ZaM _ (by omega) (by omega)]; omega
  obtain ⟨j1, hj1⟩ : ∃ j, j = 2 * i + 1 := ⟨_, rfl⟩
  obtain ⟨j2, hj2⟩ : ∃ j, j = 2 * i + 2 := ⟨_, rfl⟩
  obtain ⟨i2, hi2⟩ : ∃ j, j = 2 * i := ⟨_, rfl⟩
  rw [<- hj1] at hw2 hw3
  rw [<- hi2] at hw1 hw2
  rw [<- hj2] at hw3
  have HJ1 := hide hj1
  have HJ2 := hide hj2
  have hij : i < j1 := by omega
  have hj12 : j2 = j1 + 1 := by omega
  have HJ12 := hide hj12
  have hj1n : ¬ (j1 : Int) < 0 := by omega
  clear hj1 hj2 hi2
  by_cases hlt : j1 < n
  ·clear hj12
   have hij2 : i < j2 := by have := HJ12.out; omega
   have hge : ¬ (n : Int) <= (j1 : Int) := by omega
   have hged : decide ((j1 : Int) >= (n : Int)) = false := by simp; omega
   have hged2 : decide ((n : Int) <= (j1 : Int)) = false := by simp; omega
   by_cases hlt2 : j2 < n
   ·have hl2 : (j2 : Int) < (n : Int) := by omega
    have mL := ZdD cz
    have HL := hide (ZeZ wa lo m u q' wd wv j2 j1 HH.out.hq (by omega) (by omega))
    by_cases hc21 : (wd (q' j2)).cost < (wd (q' j1)).cost
    ·go_wp2_with fail
     refine HL.out.mono ?_
     rintro e w2 ⟨rfl, b2⟩
     rw [decide_eq_true hc21]
     have HB2 := hide (HH.out.below b2)
     have HG2 := hide (Zal HG.out (ZaY (r := u.ownBlock) b2))
     clear b2 mL cz HL
     have hlJ : j2 < n := by omega
     have cz5 := HB2.out.cell
     have mL5 := ZdD cz5
     have HL5 := hide (ZeZ w2 lo m u q' wd wv j2 i HB2.out.hq (by omega) (by omega))
     have KM := hide (ZiZ (c := fun k => (wd k).cost) (q := q') (n := n) (i := i) (j := j2) (fun _ => by rw [<- HJ1.out]; exact Int.le_of_lt hc21) (fun _ => by rw [<- HJ2.out]; exact Int.le_refl _))
     by_cases hlt5 : (wd (q' j2)).cost < (wd (q' i)).cost
     ·go_wp2_with fail
      refine HL5.out.mono ?_
      rintro e w6 ⟨rfl, b6⟩
      rw [decide_eq_true hlt5]
      have H6 := HB2.out.below b6
      have cz6 := H6.cell
      have mS := ZdJ cz6
      have HSW := hide (Ze5 w6 lo m u q' i j2 H6.hq.row (by omega) (by omega))
      have HB6 := hide H6
      have HDN := hide (ZgC HU.out (j := j2) (by omega) hlJ (by unfold par; have := HJ1.out; have := HJ2.out; omega) hlt5 KM.out)
      have HG6 := hide (Zal HG2.out (ZaY (r := u.ownBlock) b6))
      clear b6 H6 mL5 cz5
      go_wp2_with fail
      refine HSW.out.mono ?_
      rintro e w7 ⟨rfl, ho7, hg7⟩
      have HB7 := hide (HB6.out.shuf hg7 ho7 (Shuf.swap q' (by omega) (by omega)))
      have HS7 := hide (HS.out.trans (Shuf.swap q' (i := i) (j := j2) (by omega) hlJ))
      have HG7 := hide (Zal HG6.out hg7)
      clear ho7 hg7 mS
      go_wp2
      go_roundw
      case rel => exact ⟨j2, _, by omega, rfl, HDN, HS7, HB7, HG7⟩
      case measure => simp [intOf]; omega
     ·go_wp2_with fail
      refine HL5.out.mono ?_
      rintro e w6 ⟨rfl, b6⟩
      rw [decide_eq_false (by omega)]
      have hle5 : (wd (q' i)).cost <= (wd (q' j2)).cost := by omega
      have HI := hide (ZeH HU.out (fun k h0 hk hp => Int.le_trans hle5 (KM.out k h0 hk hp)))
      have HB6 := hide (HB2.out.below b6)
      have HG6 := hide (Zal HG2.out (ZaY (r := u.ownBlock) b6))
      clear b6 mL5 cz5
      go_wp2
      go_returns
      first
       | exact ⟨_, q', rfl, HI.out, HS.out, HB6.out, HG6.out⟩
       | exact ⟨_, rfl, q', HI.out, HS.out, HB6.out, HG6.out⟩
    ·go_wp2_with fail
     refine HL.out.mono ?_
     rintro e w2 ⟨rfl, b2⟩
     rw [decide_eq_false (by omega)]
     have hc21' : (wd (q' j1)).cost <= (wd (q' j2)).cost := by omega
     have HB2 := hide (HH.out.below b2)
     have HG2 := hide (Zal HG.out (ZaY (r := u.ownBlock) b2))
     clear b2 mL cz HL
     have hlJ : j1 < n := by omega
     have cz5 := HB2.out.cell
     have mL5 := ZdD cz5
     have HL5 := hide (ZeZ w2 lo m u q' wd wv j1 i HB2.out.hq (by omega) (by omega))
     have KM := hide (ZiZ (c := fun k => (wd k).cost) (q := q') (n := n) (i := i) (j := j1) (fun _ => by rw [<- HJ1.out]; exact Int.le_refl _) (fun _ => by rw [<- HJ2.out]; exact hc21'))
     by_cases hlt5 : (wd (q' j1)).cost < (wd (q' i)).cost
     ·go_wp2_with fail
      refine HL5.out.mono ?_
      rintro e w6 ⟨rfl, b6⟩
      rw [decide_eq_true hlt5]
      have H6 := HB2.out.below b6
      have cz6 := H6.cell
      have mS := ZdJ cz6
      have HSW := hide (Ze5 w6 lo m u q' i j1 H6.hq.row (by omega) (by omega))
      have HB6 := hide H6
      have HDN := hide (ZgC HU.out (j := j1) (by omega) hlJ (by unfold par; have := HJ1.out; have := HJ2.out; omega) hlt5 KM.out)
      have HG6 := hide (Zal HG2.out (ZaY (r := u.ownBlock) b6))
      clear b6 H6 mL5 cz5
      go_wp2_with fail
      refine HSW.out.mono ?_
      rintro e w7 ⟨rfl, ho7, hg7⟩
      have HB7 := hide (HB6.out.shuf hg7 ho7 (Shuf.swap q' (by omega) (by omega)))
      have HS7 := hide (HS.out.trans (Shuf.swap q' (i := i) (j := j1) (by omega) hlJ))
      have HG7 := hide (Zal HG6.out hg7)
      clear ho7 hg7 mS
      go_wp2
      go_roundw
      case rel => exact ⟨j1, _, by omega, rfl, HDN, HS7, HB7, HG7⟩
      case measure => simp [intOf]; omega
     ·go_wp2_with fail
      refine HL5.out.mono ?_
      rintro e w6 ⟨rfl, b6⟩
      rw [decide_eq_false (by omega)]
      have hle5 : (wd (q' i)).cost <= (wd (q' j1)).cost := by omega
      have HI := hide (ZeH HU.out (fun k h0 hk hp => Int.le_trans hle5 (KM.out k h0 hk hp)))
      have HB6 := hide (HB2.out.below b6)
      have HG6 := hide (Zal HG2.out (ZaY (r := u.ownBlock) b6))
      clear b6 mL5 cz5
      go_wp2
      go_returns
      first
       | exact ⟨_, q', rfl, HI.out, HS.out, HB6.out, HG6.out⟩
       | exact ⟨_, rfl, q', HI.out, HS.out, HB6.out, HG6.out⟩
   ·have hl2 : ¬ (j2 : Int) < (n : Int) := by omega
    have hlJ : j1 < n := by omega
    have cz5 := HH.out.cell
    have mL5 := ZdD cz5
    have HL5 := hide (ZeZ wa lo m u q' wd wv j1 i HH.out.hq (by omega) (by omega))
    have KM := hide (ZiZ (c := fun k => (wd k).cost) (q := q') (n := n) (i := i) (j := j1) (fun _ => by rw [<- HJ1.out]; exact Int.le_refl _) (fun h => by have := HJ2.out; omega))
    by_cases hlt5 : (wd (q' j1)).cost < (wd (q' i)).cost
    ·go_wp2_with fail
     refine HL5.out.mono ?_
     rintro e w6 ⟨rfl, b6⟩
     rw [decide_eq_true hlt5]
     have H6 := HH.out.below b6
     have cz6 := H6.cell
     have mS := ZdJ cz6
     have HSW := hide (Ze5 w6 lo m u q' i j1 H6.hq.row (by omega) (by omega))
     have HB6 := hide H6
     have HDN := hide (ZgC HU.out (j := j1) (by omega) hlJ (by unfold par; have := HJ1.out; have := HJ2.out; omega) hlt5 KM.out)
     have HG6 := hide (Zal HG.out (ZaY (r := u.ownBlock) b6))
     clear b6 H6 mL5 cz5
     go_wp2_with fail
     refine HSW.out.mono ?_
     rintro e w7 ⟨rfl, ho7, hg7⟩
     have HB7 := hide (HB6.out.shuf hg7 ho7 (Shuf.swap q' (by omega) (by omega)))
     have HS7 := hide (HS.out.trans (Shuf.swap q' (i := i) (j := j1) (by omega) hlJ))
     have HG7 := hide (Zal HG6.out hg7)
     clear ho7 hg7 mS
     go_wp2
     go_roundw
     case rel => exact ⟨j1, _, by omega, rfl, HDN, HS7, HB7, HG7⟩
     case measure => simp [intOf]; omega
    ·go_wp2_with fail
     refine HL5.out.mono ?_
     rintro e w6 ⟨rfl, b6⟩
     rw [decide_eq_false (by omega)]
     have hle5 : (wd (q' i)).cost <= (wd (q' j1)).cost := by omega
     have HI := hide (ZeH HU.out (fun k h0 hk hp => Int.le_trans hle5 (KM.out k h0 hk hp)))
     have HB6 := hide (HH.out.below b6)
     have HG6 := hide (Zal HG.out (ZaY (r := u.ownBlock) b6))
     clear b6 mL5 cz5
     go_wp2
     go_returns
     first
      | exact ⟨_, q', rfl, HI.out, HS.out, HB6.out, HG6.out⟩
      | exact ⟨_, rfl, q', HI.out, HS.out, HB6.out, HG6.out⟩
  ·clear hj12
   have hge : (n : Int) <= (j1 : Int) := by omega
   have HI := hide (ZeH HU.out (fun k h0 hk hp => by rcases ZjT h0 hp with e | e <;> (have := HJ1.out; omega)))
   go_wp2
   go_returns
   first
    | exact ⟨_, q', rfl, HI.out, HS.out, HH.out, HG.out⟩
    | exact ⟨_, rfl, q', HI.out, HS.out, HH.out, HG.out⟩
    | exact ⟨⟨_, rfl⟩, q', HI.out, HS.out, HH.out, HG.out⟩
theorem Tryz.infoPtr : (Tryz.prog.info? 115).map (fun i => (i.zero, i.size, i.bytes)) = some (some (.pointer none), 1, 8) := by kernel_rfl
structure FK (W W' : World) (lo z : Nat) : Prop where
 os : W'.os = W.os
 tape : W'.tape = W.tape
 output : W'.output = W.output
 size : W.heap.size <= W'.heap.size
 low : ∀ k, k < lo -> W'.heap[k]? = W.heap[k]?
 typed : ∀ (k : Nat) (cs : Array Value) (t : TypeId) (fr : Nat × Nat), W.heap[k]? = some (.cells cs t fr) -> t ≠ 115 -> k ≠ z -> W'.heap[k]? = W.heap[k]?
theorem FK.trans {W W1 W2 : World} {lo z : Nat} (a : FK W W1 lo z) (b : FK W1 W2 lo z) : FK W W2 lo z :=
 ⟨b.os.trans a.os, b.tape.trans a.tape, b.output.trans a.output, Nat.le_trans a.size b.size, fun k hk => (b.low k hk).trans (a.low k hk), fun k cs t fr h ht hz => (b.typed k cs t fr ((a.typed k cs t fr h ht hz).trans h) ht hz).trans (a.typed k cs t fr h ht hz)⟩
theorem FK.of_below {W W' : World} {lo z : Nat} (h : Below W.heap.size W W') (hlo : lo <= W.heap.size) : FK W W' lo z := ⟨h.os, h.tape, h.output, h.size, fun k hk => h.block k (by omega), fun k _ _ _ hk _ _ => h.block k (Zab hk)⟩
theorem FK.of_grown {W W' : World} {lo z n : Nat} {u : Value} {xs : List Value} (hr : W.ownsRow lo 115 1 u n xs) (h : W.grownBy W' u.ownBlock) (hlo : lo <= W.heap.size) : FK W W' lo z :=
 ⟨h.os, h.tape, h.output, h.size, fun k hk => h.block k (by omega) (fun e => by have := (hr.lt k e.symm).1; omega), fun k _ _ _ hk ht _ => h.block k (Zab hk) (Zaq hr hk (fun e => ht e.symm))⟩
theorem FK.of_set {W : World} {lo z j : Nat} (u : Value) (hz : lo <= z) : FK W (W.setCell ⟨z, j, none⟩ u) lo z :=
 ⟨rfl, rfl, rfl, by simp, fun k hk => heap_setCell_other W ⟨z, j, none⟩ k _ (by show k ≠ z; omega), fun k _ _ _ _ _ hk => heap_setCell_other W ⟨z, j, none⟩ k _ hk⟩
theorem FK.below {W W' : World} {lo z : Nat} (h : FK W W' lo z) : Below lo W W' := ⟨h.os, h.tape, h.output, h.size, h.low⟩
theorem Zlc (q : Nat -> Nat) (n k : Nat) : ptrs (fun x => if x = n then k else q x) (n + 1) = ptrs q n ++ [ptrV k] := by
 unfold ptrs
 rw [List.range_succ, List.map_append]
 congr 1
 ·apply List.map_congr_left
  intro i hi
  have hi2 := List.mem_range.1 hi
  show ptrV (if i = n then k else q i) = ptrV (q i)
  rw [if_neg (by omega)]
 ·simp
theorem Znk {W : World} {lo n g cap k : Nat} {e : TypeId} {xs : List Value} (h : W.ownsRow lo e 1 (.slice (some ⟨g, 0, none⟩) n cap) n xs) (hk : k <= n) : W.ownsRow lo e 1 (.slice (some ⟨g, 0, none⟩) k cap) k (xs.take k) := by
 rcases h.2 with ⟨e1, _⟩ | ⟨g', cap', cur, hv, hg, hh, hnc, hcm, hcs, htk⟩
 ·cases e1
 ·cases hv
  have hl := h.1
  refine ⟨by rw [List.length_take]; omega, .inr ⟨g, cap, cur, rfl, hg, hh, by omega, hcm, hcs, ?_⟩⟩
  rw [<- htk, List.take_take]
  congr 1
  omega
theorem ZlC (q : Nat -> Nat) {n k : Nat} (h : k <= n) : (ptrs q n).take k = ptrs q k := by
 unfold ptrs
 rw [<- List.map_take, List.take_range, Nat.min_eq_left h]
theorem Ze1 {w : World} {o : Oper} {a : Act} {K : Act -> World -> Prop} {Q : Exit -> Act -> World -> Prop} {lo : Nat} {u : Value} (s x : Operand) (ho : o.op = .call { callee := .builtin .append, args := #[s, x], argTypes := #[118, 118] }) (q : Nat -> Nat) (k n : Nat) (hs : a.eval s = u) (hown : w.ownsRow lo 115 1 u n (ptrs q n))
  {g : Nat} (hx : a.eval x = .slice (some ⟨g, 0, none⟩) 1 1) (hnew : w.cell? ⟨g, 0, none⟩ = some (ptrV k)) (hn : n <= 1000000) (hlo : lo <= w.heap.size)
  (h : ∀ v' w', w'.ownsRow lo 115 1 v' (n + 1) (ptrs (fun x => if x = n then k else q x) (n + 1)) -> w.grownBy w' u.ownBlock -> K (a.put o.dst v') w') : o.wp Tryz.prog a w K Q := by
 obtain ⟨i0, hi, hz0, hz1, hz2⟩ := info_parts Tryz.infoPtr
 refine wp_append_own w s x 118 ho lo 115 i0 (.pointer none) 1 8 ZfO hi hz0 hz1 hz2 rfl (by omega) u n (ptrs q n) hs hown ⟨g, 0, none⟩ 1 1 [ptrV k] hx rfl ?_ ?_ (by unfold maxLen; omega) (by omega) hlo ?_
 ·intro j u hj
  match j, hj with
  | 0, hj => simp at hj; subst hj; exact hnew
 ·intro u hu
  simp at hu
  subst hu
  rfl
 ·intro v' w' h1 h2 _
  rw [<- Zlc] at h1
  exact h v' w' h1 h2
theorem ZlF (v : Value) (w : World) : (Instr.typeAssert (.iface 115 v) 20 115 false).run Tryz.prog w = .ok v w := by kernel_rfl
theorem Zlp (W : World) (lo z n : Nat) (C : Array Value) (u : Value) (q : Nat -> Nat) (wd : Nat -> WayD) (wv : Nat -> Value) (k : Nat) (h : HB W lo z C u n q wd wv) (hlo : lo <= W.heap.size) (hn : n <= 1000) (hC : C.size = 8) (hz : lo <= z)
  (hk : W.heap[k]? = some (.cells (wayC (wd k) (wv k)) 46)) (hks : ∃ a l c, wv k = .slice a l c) :
  Calls Tryz.prog 185 #[.pointer (some ⟨z, 7, none⟩), .iface 115 (.pointer (some ⟨k, 0, none⟩))] W fun e W' => ∃ u', e = .returned (.tuple #[]) /\ HB W' lo z (C.setIfInBounds 7 u') u' (n + 1) (fun x => if x = n then k else q x) wd wv /\ FK W W' lo z := by
 have cz := h.cell
 have fz := Zaf h.box
 obtain ⟨a1, c1, rfl⟩ := Zac h.hq.row
 have FIN : ∀ (W3 : World) (u' : Value) (W1 : World), (∀ j, j < W.heap.size -> W1.heap[j]? = W.heap[j]?) -> W.heap.size <= W1.heap.size -> W1.os = W.os -> W1.tape = W.tape -> W1.output = W.output -> W3.ownsRow lo 115 1 u' (n + 1) (ptrs (fun x => if x = n then k else q x) (n + 1)) -> W1.grownBy W3 (Value.slice a1 n c1).ownBlock ->
   W3.cell? ⟨z, 7, none⟩ = some (.slice a1 n c1) /\ (∀ j, W3.frozen? ⟨z, j, none⟩ = false) /\ HB (W3.setCell ⟨z, 7, none⟩ u') lo z (C.setIfInBounds 7 u') u' (n + 1) (fun x => if x = n then k else q x) wd wv /\ FK W (W3.setCell ⟨z, 7, none⟩ u') lo z := by
  intro W3 u' W1 hW1 hs1 e1 e2 e3 ho3 hg3
  have keep : ∀ j, j < W.heap.size -> some j ≠ (Value.slice a1 n c1).ownBlock -> W3.heap[j]? = W.heap[j]? := fun j hj hne => (hg3.block j (by omega) hne).trans (hW1 j hj)
  have hb3 : W3.heap[z]? = some (.cells C 120) := (keep z (Zab h.box) (Zaq h.hq.row h.box (by decide))).trans h.box
  have kway : ∀ (j : Nat) (x : Array Value), W.heap[j]? = some (.cells x 46) -> (W3.setCell ⟨z, 7, none⟩ u').heap[j]? = some (.cells x 46) := by
   intro j x hj
   rw [heap_setCell_other W3 ⟨z, 7, none⟩ j _ (by
    intro e
    have e' : j = z := e
    rw [e', h.box] at hj
    simp at hj)]
   exact (keep j (Zab hj) (Zaq h.hq.row hj (by decide))).trans hj
  refine ⟨(Zaa hb3 7).trans h.c7, Zaf hb3, ⟨heap_setCell_same _ _ 7 _ _ _ hb3, by simp [hC], ?_, fun i hi => ?_, fun i hi => ?_⟩, ?_⟩
  ·exact Zap ho3 (fun j hj => heap_setCell_other W3 ⟨z, 7, none⟩ j _ (fun e => by
    have e' : j = z := e
    exact Zaq ho3 hb3 (by decide) (by rw [hj, e'])))
  ·show (W3.setCell ⟨z, 7, none⟩ u').heap[if i = n then k else q i]? = some (.cells (wayC (wd (if i = n then k else q i)) (wv (if i = n then k else q i))) 46)
   by_cases e : i = n
   ·rw [if_pos e]; exact kway k _ hk
   ·rw [if_neg e]; exact kway _ _ (h.hq.way i (by omega))
  ·show ∃ a l c, wv (if i = n then k else q i) = .slice a l c
   by_cases e : i = n
   ·rw [if_pos e]; exact hks
   ·rw [if_neg e]; exact h.hq.sl i (by omega)
  ·refine FK.trans ?_ (FK.of_set u' hz)
   exact ⟨hg3.os.trans e1, hg3.tape.trans e2, hg3.output.trans e3, by have := hg3.size; omega, fun j hj => keep j (by omega) (fun e => by have := (h.hq.row.lt j e.symm).1; omega), fun j _ _ _ hj ht _ => keep j (Zab hj) (Zaq h.hq.row hj (fun e => ht e.symm))⟩
 have HFIN := hide FIN
 have HH := hide h
 have lz := Zab h.box
 clear FIN h fz hk
 go_enter Tryz.func185, Tryz.ntmps185
 go_wp2
 refine Zai (S := fun _ => True) (by kernel_rfl) 10 rfl trivial ?_
 intro ops hops _
 have czd : W.drew.cell? ⟨z, 7, none⟩ = some (.slice a1 n c1) := cz
 show wpAnyH Tryz.prog .any ops _ (fun _ => True) 10 #[false, false, false, false, false, false, false, false, false, false] _ W.drew
 iterate 3
  refine Zas 10 ?_ ?_ ?_ (by rw [hops.out]; kernel_rfl) ?_ ?_ trivial ?_
  rotate_left 2
  ·rw [hops.out]; simp only [getS, Nat.reduceSub, Nat.reduceAdd]; rfl
  ·intro W _; have hAs := fun v => ZlF v W; go_simp <;> with_reducible rfl
  ·exact fun _ _ _ => id
  try simp only [putS]
 refine ZaZ 4 ?_ ?_ ?_ (by rw [hops.out]; kernel_rfl) ?_ ?_ trivial ?_
 rotate_left 2
 ·rw [hops.out]; simp only [getS]; rfl
 ·intro W _; have hAs := fun v => ZlF v W; go_simp <;> with_reducible rfl
 ·exact fun _ _ _ => id
 try simp only [putS]
 refine ZaZ 5 ?_ ?_ ?_ (by rw [hops.out]; kernel_rfl) ?_ ?_ trivial ?_
 rotate_left 2
 ·rw [hops.out]; simp only [getS]; rfl
 ·intro W _; have hAs := fun v => ZlF v W; go_simp <;> with_reducible rfl
 ·exact fun _ _ _ => id
 try simp only [putS]
 refine wpAnyH_ready (rs := [3, 6]) (by rw [hops.out]; kernel_rfl) (by simp) ?_
 refine AllReadyH.cons (o := ?_) ?_ (fun K hK => ?_) ?_
 rotate_left 1
 ·rw [hops.out]; simp only [getS]; rfl
 ·rw [if_pos (by rfl)]
  go_simp
  refine hK.out _ _ trivial (fun _ => ?_)
  clear hK K
  try simp only [putS]
  refine wpAnyH_ready (rs := [6]) (by rw [hops.out]; kernel_rfl) (by simp) ?_
  refine AllReadyH.cons (o := ?_) ?_ (fun K hK => ?_) ?_
  rotate_left 1
  ·rw [hops.out]; simp only [getS]; rfl
  ·rw [if_pos (by rfl)]
   go_simp
   refine hK.out _ _ trivial (fun _ => ?_)
   clear hK K
   try simp only [putS]
   have ho2 := (HH.out.hq.row.drew).alloc (.cells #[.pointer (some ⟨k, 0, none⟩)] 115)
   have nw2 := Zaa (heap_alloc_new W.drew (.cells #[.pointer (some ⟨k, 0, none⟩)] 115)) 0
   have hs2 : lo <= (W.drew.alloc (.cells #[.pointer (some ⟨k, 0, none⟩)] 115)).heap.size := by simp; omega
   refine Zak 7 (oi := ?_) ?_ (by rw [hops.out]; kernel_rfl) ?_ ?_
   rotate_left 1
   ·rw [hops.out]; simp only [getS]; rfl
   ·rw [hops.out]; kernel_rfl
   intro K hK
   refine Ze1 _ _ rfl q k n rfl ho2 rfl nw2 (by omega) hs2 ?_
   intro v' W3 ho3 hg3
   obtain ⟨na, nc, rfl⟩ := Zac ho3
   refine hK.out _ _ trivial (fun _ => ?_)
   clear hK K
   try simp only [putS]
   refine ZaZ 8 ?_ ?_ ?_ (by rw [hops.out]; kernel_rfl) ?_ ?_ trivial ?_
   rotate_left 2
   ·rw [hops.out]; simp only [getS]; rfl
   ·intro W _; have hAs := fun v => ZlF v W; go_simp <;> with_reducible rfl
   ·exact fun _ _ _ => id
   try simp only [putS]
   obtain ⟨d7, f7, r1, r2⟩ := HFIN.out W3 _ ((W.alloc (.cells #[.pointer (some ⟨k, 0, none⟩)] 115)).drew) (fun j hj => Below.heap_alloc W _ j hj) (by show W.heap.size <= (W.alloc (.cells #[.pointer (some ⟨k, 0, none⟩)] 115)).heap.size; simp) rfl rfl rfl ho3 hg3
   have R1 := hide r1
   have R2 := hide r2
   clear r1 r2 ho3 hg3 ho2 nw2 HFIN HH
   refine Zak 9 (oi := ?_) ?_ (by rw [hops.out]; kernel_rfl) ?_ ?_
   rotate_left 1
   ·rw [hops.out]; simp only [getS]; rfl
   ·rw [hops.out]; kernel_rfl
   intro K hK
   have f77 := f7 7
   go_simp
   refine hK.out _ _ trivial (fun _ => ?_)
   clear hK K
   refine wpAnyH_done (by rw [hops.out]; kernel_rfl) ?_ _
   clear hops ops
   go_wp2
   go_returns
   exact ⟨_, rfl, R1.out, R2.out⟩
  exact AllReadyH.nil
 refine AllReadyH.cons (o := ?_) ?_ (fun K hK => ?_) ?_
 rotate_left 1
 ·rw [hops.out]; simp only [getS]; rfl
 ·rw [if_pos (by rfl)]
  go_simp
  refine hK.out _ _ trivial (fun _ => ?_)
  clear hK K
  try simp only [putS]
  refine wpAnyH_ready (rs := [3]) (by rw [hops.out]; kernel_rfl) (by simp) ?_
  refine AllReadyH.cons (o := ?_) ?_ (fun K hK => ?_) ?_
  rotate_left 1
  ·rw [hops.out]; simp only [getS]; rfl
  ·rw [if_pos (by rfl)]
   have cz5 : (W.drew.alloc (.cells #[.pointer (some ⟨k, 0, none⟩)] 115)).cell? ⟨z, 7, none⟩ = some (.slice a1 n c1) := by
    rw [World.cell?_of_block (Below.heap_alloc _ _ _ (by simpa using lz))]
    exact czd
   go_simp
   refine hK.out _ _ trivial (fun _ => ?_)
   clear hK K cz5
   try simp only [putS]
   have ho2 := (HH.out.hq.row.drew).alloc (.cells #[.pointer (some ⟨k, 0, none⟩)] 115)
   have nw2 := Zaa (heap_alloc_new W.drew (.cells #[.pointer (some ⟨k, 0, none⟩)] 115)) 0
   have hs2 : lo <= (W.drew.alloc (.cells #[.pointer (some ⟨k, 0, none⟩)] 115)).heap.size := by simp; omega
   refine Zak 7 (oi := ?_) ?_ (by rw [hops.out]; kernel_rfl) ?_ ?_
   rotate_left 1
   ·rw [hops.out]; simp only [getS]; rfl
   ·rw [hops.out]; kernel_rfl
   intro K hK
   refine Ze1 _ _ rfl q k n rfl ho2 rfl nw2 (by omega) hs2 ?_
   intro v' W3 ho3 hg3
   obtain ⟨na, nc, rfl⟩ := Zac ho3
   refine hK.out _ _ trivial (fun _ => ?_)
   clear hK K
   try simp only [putS]
   refine ZaZ 8 ?_ ?_ ?_ (by rw [hops.out]; kernel_rfl) ?_ ?_ trivial ?_
   rotate_left 2
   ·rw [hops.out]; simp only [getS]; rfl
   ·intro W _; have hAs := fun v => ZlF v W; go_simp <;> with_reducible rfl
   ·exact fun _ _ _ => id
   try simp only [putS]
   obtain ⟨d7, f7, r1, r2⟩ := HFIN.out W3 _ ((W.alloc (.cells #[.pointer (some ⟨k, 0, none⟩)] 115)).drew) (fun j hj => Below.heap_alloc W _ j hj) (by show W.heap.size <= (W.alloc (.cells #[.pointer (some ⟨k, 0, none⟩)] 115)).heap.size; simp) rfl rfl rfl ho3 hg3
   have R1 := hide r1
   have R2 := hide r2
   clear r1 r2 ho3 hg3 ho2 nw2 HFIN HH
   refine Zak 9 (oi := ?_) ?_ (by rw [hops.out]; kernel_rfl) ?_ ?_
   rotate_left 1
   ·rw [hops.out]; simp only [getS]; rfl
   ·rw [hops.out]; kernel_rfl
   intro K hK
   have f77 := f7 7
   go_simp
   refine hK.out _ _ trivial (fun _ => ?_)
   clear hK K
   refine wpAnyH_done (by rw [hops.out]; kernel_rfl) ?_ _
   clear hops ops
   go_wp2
   go_returns
   exact ⟨_, rfl, R1.out, R2.out⟩
  exact AllReadyH.nil
 exact AllReadyH.nil
theorem Znz (W : World) (lo z n : Nat) (C : Array Value) (u : Value) (q : Nat -> Nat) (wd : Nat -> WayD) (wv : Nat -> Value) (h : HB W lo z C u (n + 1) q wd wv) (hn : n <= 1000) (hC : C.size = 8) (hz : lo <= z) :
  Calls Tryz.prog 184 #[.pointer (some ⟨z, 7, none⟩)] W fun e W' => ∃ u', e = .returned (.iface 115 (ptrV (q n))) /\ HB W' lo z (C.setIfInBounds 7 u') u' n q wd wv /\ FK W W' lo z := by
 obtain ⟨g, cap, hu, cn, hg⟩ := h.hq.cell (i := n) (by omega)
 have cz := h.cell
 have fz := Zaf h.box
 subst hu
 unfold ptrV at cn |-
 have hcap : n + 1 <= cap := by
  rcases h.hq.row.2 with ⟨e1, _⟩ | ⟨g', cap', cur, hv, _, hh, hnc, _⟩
  ·cases e1
  ·cases hv; exact hnc
 have R1 := hide (show HB (W.setCell ⟨z, 7, none⟩ (.slice (some ⟨g, 0, none⟩) n cap)) lo z (C.setIfInBounds 7 (.slice (some ⟨g, 0, none⟩) n cap)) (.slice (some ⟨g, 0, none⟩) n cap) n q wd wv by
  have hzg : some z ≠ (Value.slice (some ⟨g, 0, none⟩) (n + 1) cap).ownBlock := Zaq h.hq.row h.box (by decide)
  have hgz : g ≠ z := fun e => hzg (by rw [e]; rfl)
  refine ⟨heap_setCell_same _ _ 7 _ _ _ h.box, by simp [hC], ?_, fun i hi => ?_, fun i hi => h.hq.sl i (by omega)⟩
  ·have o1 := Znk h.hq.row (k := n) (by omega)
   rw [ZlC q (by omega)] at o1
   exact Zap o1 (fun j hj => heap_setCell_other W ⟨z, 7, none⟩ j _ (fun e => by
    have e' : j = z := e
    simp [Value.ownBlock] at hj
    omega))
  ·have hw := h.hq.way i (by omega)
   rw [heap_setCell_other W ⟨z, 7, none⟩ (q i) _ (fun e => by
    have e' : q i = z := e
    rw [e', h.box] at hw
    simp at hw)]
   exact hw)
 have R2 := hide (show FK W (W.setCell ⟨z, 7, none⟩ (.slice (some ⟨g, 0, none⟩) n cap)) lo z from FK.of_set _ hz)
 have f7 := fz 7
 have hw1 : IntKind.i64.wrap (((n + 1 : Nat) : Int) - 1) = (n : Int) := by rw [ZaM _ (by omega) (by omega)]; omega
 have hw2 : IntKind.i64.wrap ((n : Int) + 1 - 1) = (n : Int) := by rw [ZaM _ (by omega) (by omega)]; omega
 have h1 : (0 : Int) <= (n : Int) := by omega
 have h2 : (n : Int) < ((n + 1 : Nat) : Int) := by omega
 have h3 : (n : Int) <= (cap : Int) := by omega
 clear h fz hC
 go_enter Tryz.func184, Tryz.ntmps184
 go_wp2
 go_ret
 first
  | exact ⟨_, rfl, R1.out, R2.out⟩
  | exact ⟨rfl, _, R1.out, R2.out⟩
theorem Ziy (W : World) (lo z n : Nat) (C : Array Value) (u : Value) (q : Nat -> Nat) (wd : Nat -> WayD) (wv : Nat -> Value) (k : Nat) (h : HB W lo z C u n q wd wv) (hlo : lo <= W.heap.size) (hn : n <= 1000) (hC : C.size = 8) (hz : lo <= z)
  (hk : W.heap[k]? = some (.cells (wayC (wd k) (wv k)) 46)) (hks : ∃ a l c, wv k = .slice a l c) (hh : ZcT (fun k => (wd k).cost) q n) :
  Calls Tryz.prog 100 #[.iface 146 (.pointer (some ⟨z, 7, none⟩)), .iface 115 (.pointer (some ⟨k, 0, none⟩))] W fun e W' => ∃ u' q', e = .returned (.tuple #[]) /\ ZcT (fun k => (wd k).cost) q' (n + 1) /\ Shuf (fun x => if x = n then k else q x) q' (n + 1) /\ HB W' lo z (C.setIfInBounds 7 u') u' (n + 1) q' wd wv /\ FK W W' lo z := by
 have HP := hide (Zlp W lo z n C u q wd wv k h hlo hn hC hz hk hks)
 have HUP := hide (Zoi (k := k) hh)
 clear h hk hh
 go_enter Tryz.func100, Tryz.ntmps100
 go_wp2_with fail
 refine HP.out.mono ?_
 rintro e w1 ⟨u', rfl, h1, f1⟩
 have cz1 := h1.cell
 obtain ⟨a1, c1, rfl⟩ := Zac h1.hq.row
 have mL := ZjM cz1
 have hs1 : lo <= w1.heap.size := Nat.le_trans hlo f1.size
 have HU := hide (up_any w1 lo z (n + 1) _ _ _ wd wv n h1 (by omega) (by omega) HUP.out)
 have HF1 := hide f1
 have HR1 := hide h1.hq.row
 have hw1 : IntKind.i64.wrap (((n + 1 : Nat) : Int) - 1) = (n : Int) := by rw [ZaM _ (by omega) (by omega)]; omega
 have hw2 : IntKind.i64.wrap ((n : Int) + 1 - 1) = (n : Int) := by rw [ZaM _ (by omega) (by omega)]; omega
 clear h1 f1 HP HUP
 go_wp2_with fail
 refine (ZhS _ _ _ _).mono ?_
 rintro e w2 ⟨rfl, rfl⟩
 go_wp2_with fail
 refine HU.out.mono ?_
 rintro e w2 ⟨q', rfl, hi, hsh, hb, hg⟩
 have HI := hide hi
 have HS := hide hsh
 have HB2 := hide hb
 have HF2 := hide (HF1.out.trans (FK.of_grown HR1.out hg hs1))
 clear hi hsh hb hg mL
 go_wp2
 go_returns
 exact ⟨_, q', rfl, HI.out, HS.out, HB2.out, HF2.out⟩
theorem Zh7 {W W' : World} {lo z n : Nat} {C : Array Value} {u : Value} {q : Nat -> Nat} {wd : Nat -> WayD} {wv : Nat -> Value} (h : HB W lo z C u n q wd wv) (hg : W.grownBy W' u.ownBlock) (hlo : lo <= W.heap.size) : FK W W' lo z := FK.of_grown h.hq.row hg hlo
theorem Zjq (W : World) (lo z n : Nat) (C : Array Value) (u : Value) (q : Nat -> Nat) (wd : Nat -> WayD) (wv : Nat -> Value) (h : HB W lo z C u (n + 1) q wd wv) (hlo : lo <= W.heap.size) (hn : n <= 1000) (hC : C.size = 8) (hz : lo <= z) (hh : ZcT (fun k => (wd k).cost) q (n + 1)) :
  Calls Tryz.prog 102 #[.iface 146 (.pointer (some ⟨z, 7, none⟩))] W fun e W' => ∃ u' q', e = .returned (.iface 115 (ptrV (q 0))) /\ ZcT (fun k => (wd k).cost) q' n /\ Shuf (Zb6 q 0 n) q' n /\ HB W' lo z (C.setIfInBounds 7 u') u' n q' wd wv /\ FK W W' lo z := by
 have cz := h.cell
 obtain ⟨a1, c1, rfl⟩ := Zac h.hq.row
 have mL := ZjM cz
 have mS := ZdJ cz
 have HSW := hide (Ze5 W lo (n + 1) _ q 0 n h.hq.row (by omega) (by omega))
 have HPD := hide (Zm5 hh)
 have HH := hide h
 have hw1 : IntKind.i64.wrap (((n + 1 : Nat) : Int) - 1) = (n : Int) := by rw [ZaM _ (by omega) (by omega)]; omega
 have hw2 : IntKind.i64.wrap ((n : Int) + 1 - 1) = (n : Int) := by rw [ZaM _ (by omega) (by omega)]; omega
 clear h hh
 go_enter Tryz.func102, Tryz.ntmps102
 go_wp2_with fail
 refine (ZhS _ _ _ _).mono ?_
 rintro e w1 ⟨rfl, rfl⟩
 go_wp2_with fail
 refine HSW.out.mono ?_
 rintro e w2 ⟨rfl, ho2, hg2⟩
 have h2 := HH.out.shuf hg2 ho2 (Shuf.swap q (by omega) (by omega))
 have hs2 : lo <= w2.heap.size := Nat.le_trans hlo hg2.size
 have HD := hide (Zm4 w2 lo z n (n + 1) C _ _ wd wv h2 (by omega) (by omega) HPD.out)
 have HF2 := hide (Zh7 HH.out hg2 hlo (z := z))
 have HH2 := hide h2
 clear h2 ho2 hg2 mL mS cz HSW HPD
 go_wp2_with fail
 refine HD.out.mono ?_
 rintro e w3 ⟨r, q', rfl, hi, hsh, hb, hg⟩
 have HI := hide hi
 have HS := hide hsh
 have HF3 := hide (HF2.out.trans (Zh7 HH2.out hg hs2 (z := z)))
 have HPO := hide (Znz w3 lo z n C _ q' wd wv hb hn hC hz)
 have HQ0 := hide (show q' n = q 0 by
  rw [hsh.rest n (Nat.le_refl _)]
  unfold Zb6
  by_cases e : n = 0
  ·rw [if_pos e, e]
  ·rw [if_neg e, if_pos rfl])
 clear hi hsh hb hg HD
 go_wp2_with fail
 refine HPO.out.mono ?_
 rintro e w4 ⟨u', rfl, hb4, f4⟩
 rw [HQ0.out]
 have HB4 := hide hb4
 have HF4 := hide (HF3.out.trans f4)
 clear hb4 f4 HPO
 go_wp2
 go_returns
 exact ⟨_, q', rfl, HI.out, HS.out, HB4.out, HF4.out⟩
end Go.Proofs.YtakiifededfjlaaGreat
namespace Go.Proofs.YtakiifededfjlaaGreat

def cOf (bp : Nat -> Option Nat) (wd : Nat -> WayD) (v : Nat) : Int := match bp v with
 | some k => (wd k).cost
 | none => -1

def hOf (bp : Nat -> Option Nat) (wd : Nat -> WayD) (v : Nat) : List Int := match bp v with
 | some k => (wd k).hops
 | none => []

theorem Zci {bp : Nat -> Option Nat} {wd : Nat -> WayD} {v k : Nat} (h : bp v = some k) : cOf bp wd v = (wd k).cost := by unfold cOf; rw [h]

theorem Zd2 {bp : Nat -> Option Nat} {wd : Nat -> WayD} {v k : Nat} (h : bp v = some k) : hOf bp wd v = (wd k).hops := by unfold hOf; rw [h]

theorem ZfJ {bp : Nat -> Option Nat} {wd : Nat -> WayD} {v : Nat} (h : bp v = none) : cOf bp wd v = -1 := by unfold cOf; rw [h]

structure GI (F : Nat -> Bool) (c : Nat -> Int) (h : Nat -> List Int) (n : Nat) (q : Nat -> Nat) (bp : Nat -> Option Nat) (wd : Nat -> WayD) : Prop where
 cc : ∀ v, cOf bp wd v = c v
 hh : ∀ v, hOf bp wd v = h v
 to : ∀ v k, bp v = some k -> (wd k).to = (v : Int)
 ent : ∀ i, i < n -> ∃ v kb : Nat, (wd (q i)).to = (v : Int) /\ bp v = some kb /\ ((q i = kb /\ F v = false) \/ (wd kb).cost < (wd (q i)).cost)
 live : ∀ v k, bp v = some k -> F v = false -> ∃ i, i < n /\ q i = k
 inj : ∀ i j, i < n -> j < n -> q i = q j -> i = j
 nn : ∀ v k, bp v = some k -> 0 <= (wd k).cost

theorem GI.push {F : Nat -> Bool} {c : Nat -> Int} {h : Nat -> List Int} {n : Nat} {q q' : Nat -> Nat} {bp : Nat -> Option Nat} {wd : Nat -> WayD} (g : GI F c h n q bp wd) {t k : Nat} {x : WayD} (hF : F t = false) (hx : x.to = (t : Int)) (hc : c t < 0 \/ x.cost < c t)
  (hk1 : ∀ i, i < n -> q i ≠ k) (hk2 : ∀ v, bp v ≠ some k) (hs : Shuf (fun y => if y = n then k else q y) q' (n + 1)) (hx0 : 0 <= x.cost) : GI F (upd c t x.cost) (upd h t x.hops) (n + 1) q' (upd bp t (some k)) (upd wd k x) := by
 have wk : ∀ i, i < n -> upd wd k x (q i) = wd (q i) := fun i hi => Zao _ _ (hk1 i hi)
 have wb : ∀ v k', bp v = some k' -> upd wd k x k' = wd k' := fun v k' e => Zao _ _ (fun e2 => hk2 v (by rw [e, e2]))
 have hin : ∀ i, i < n + 1 -> q' i = k \/ ∃ j, j < n /\ q' i = q j := by
  intro i hi
  obtain ⟨j, hj, e⟩ := hs.into i hi
  by_cases e2 : j = n
  ·left; rw [e]; exact if_pos e2
  ·right
   refine ⟨j, by omega, ?_⟩
   rw [e]
   exact if_neg e2
 refine ⟨fun v => ?_, fun v => ?_, fun v k' e => ?_, fun i hi => ?_, fun v k' e hFv => ?_, ?_, fun v k' e => ?_⟩
 ·by_cases e : v = t
  ·subst e
   rw [Zci (k := k) (Zau _ _ _), Zau, Zau]
  ·rw [Zao _ _ e, <- g.cc v]
   unfold cOf
   rw [Zao _ _ e]
   cases e2 : bp v with
   | none => rfl
   | some k' => show (upd wd k x k').cost = (wd k').cost; rw [wb v k' e2]
 ·by_cases e : v = t
  ·subst e
   rw [Zd2 (k := k) (Zau _ _ _), Zau, Zau]
  ·rw [Zao _ _ e, <- g.hh v]
   unfold hOf
   rw [Zao _ _ e]
   cases e2 : bp v with
   | none => rfl
   | some k' => show (upd wd k x k').hops = (wd k').hops; rw [wb v k' e2]
 ·by_cases e2 : v = t
  ·subst e2
   rw [Zau] at e
   cases e
   rw [Zau]; exact hx
  ·rw [Zao _ _ e2] at e
   rw [wb v k' e]; exact g.to v k' e
 ·rcases hin i hi with e | ⟨j, hj, e⟩
  ·refine ⟨t, k, ?_, Zau _ _ _, .inl ⟨e, hF⟩⟩
   rw [e, Zau]; exact hx
  ·obtain ⟨v, kb, h1, h2, h3⟩ := g.ent j hj
   rw [e, wk j hj]
   by_cases ev : v = t
   ·subst ev
    refine ⟨v, k, h1, Zau _ _ _, .inr ?_⟩
    rw [Zau]
    have hcv := g.cc v
    rw [Zci h2] at hcv
    have h0 := g.nn v kb h2
    rcases h3 with ⟨h4, _⟩ | h4
    ·rw [h4]; omega
    ·omega
   ·refine ⟨v, kb, h1, by rw [Zao _ _ ev]; exact h2, ?_⟩
    rw [wb v kb h2]
    exact h3
 ·by_cases e2 : v = t
  ·subst e2
   rw [Zau] at e
   cases e
   obtain ⟨i, hi, e3⟩ := hs.onto n (by omega)
   exact ⟨i, hi, by rw [e3]; exact if_pos rfl⟩
  ·rw [Zao _ _ e2] at e
   obtain ⟨j, hj, e3⟩ := g.live v k' e hFv
   obtain ⟨i, hi, e4⟩ := hs.onto j (by omega)
   refine ⟨i, hi, ?_⟩
   rw [e4, <- e3]
   exact if_neg (by omega)
 ·refine hs.inj (fun i j hi hj e => ?_)
  by_cases ei : i = n <;> by_cases ej : j = n
  ·omega
  ·have e2 : k = q j := by simpa [ei, ej] using e
   exact absurd e2.symm (hk1 j (by omega))
  ·have e2 : q i = k := by simpa [ei, ej] using e
   exact absurd e2 (hk1 i (by omega))
  ·have e2 : q i = q j := by simpa [ei, ej] using e
   exact g.inj i j (by omega) (by omega) e2
 ·by_cases e2 : v = t
  ·subst e2
   rw [Zau] at e
   cases e
   rw [Zau]; exact hx0
  ·rw [Zao _ _ e2] at e
   rw [wb v k' e]; exact g.nn v k' e

theorem GI.join {F : Nat -> Bool} {c : Nat -> Int} {h : Nat -> List Int} {n : Nat} {q : Nat -> Nat} {bp : Nat -> Option Nat} {wd : Nat -> WayD} (g : GI F c h n q bp wd) {t k : Nat} {y : WayD} (hb : bp t = some k) (hc : y.cost = (wd k).cost) (ht : y.to = (wd k).to) : GI F c (upd h t y.hops) n q bp (upd wd k y) := by
 have hcost : ∀ k', (upd wd k y k').cost = (wd k').cost := by
  intro k'
  by_cases e : k' = k
  ·rw [e, Zau]; exact hc
  ·rw [Zao _ _ e]
 have hto : ∀ k', (upd wd k y k').to = (wd k').to := by
  intro k'
  by_cases e : k' = k
  ·rw [e, Zau]; exact ht
  ·rw [Zao _ _ e]
 refine ⟨fun v => ?_, fun v => ?_, fun v k' e => ?_, fun i hi => ?_, g.live, g.inj, fun v k' e => by rw [hcost]; exact g.nn v k' e⟩
 ·rw [<- g.cc v]
  unfold cOf
  cases bp v with
  | none => rfl
  | some k' => exact hcost k'
 ·by_cases e : v = t
  ·subst e
   rw [Zd2 hb, Zau, Zau]
  ·rw [Zao _ _ e, <- g.hh v]
   unfold hOf
   cases e2 : bp v with
   | none => rfl
   | some k' =>
    show (upd wd k y k').hops = (wd k').hops
    rw [Zao]
    intro e3
    subst e3
    have h1 := g.to v k' e2
    have h2 := g.to t k' hb
    omega
 ·rw [hto]; exact g.to v k' e
 ·obtain ⟨v, kb, h1, h2, h3⟩ := g.ent i hi
  refine ⟨v, kb, by rw [hto]; exact h1, h2, ?_⟩
  rw [hcost, hcost]
  exact h3

theorem pop_in {q q' : Nat -> Nat} {n : Nat} (hs : Shuf (Zb6 q 0 n) q' n) {i : Nat} (hi : i < n) : ∃ j, 0 < j /\ j < n + 1 /\ q' i = q j := by
 obtain ⟨j, hj, e⟩ := hs.into i hi
 rcases ZbS q 0 n j with ⟨a, b⟩ | ⟨a, b⟩ | ⟨a, _, b⟩
 ·exact ⟨n, by omega, by omega, e.trans b⟩
 ·omega
 ·exact ⟨j, by omega, by omega, e.trans b⟩

theorem pop_on {q q' : Nat -> Nat} {n : Nat} (hs : Shuf (Zb6 q 0 n) q' n) {j : Nat} (h0 : 0 < j) (hj : j < n + 1) : ∃ i, i < n /\ q' i = q j := by
 by_cases e : j = n
 ·obtain ⟨i, hi, e2⟩ := hs.onto 0 (by omega)
  refine ⟨i, hi, ?_⟩
  rw [e2]
  unfold Zb6
  rw [if_pos rfl, e]
 ·obtain ⟨i, hi, e2⟩ := hs.onto j (by omega)
  refine ⟨i, hi, ?_⟩
  rw [e2]
  unfold Zb6
  rw [if_neg (by omega), if_neg e]

theorem Zn3 {q q' : Nat -> Nat} {n : Nat} (hs : Shuf (Zb6 q 0 n) q' n) (hi : ∀ i j, i < n + 1 -> j < n + 1 -> q i = q j -> i = j) : ∀ i j, i < n -> j < n -> q' i = q' j -> i = j :=
 hs.inj (fun i j h1 h2 e => (Shuf.swap q (n := n + 1) (i := 0) (j := n) (by omega) (by omega)).inj hi i j (by omega) (by omega) e)

theorem GI.pop {F F' : Nat -> Bool} {c : Nat -> Int} {h : Nat -> List Int} {n : Nat} {q q' : Nat -> Nat} {bp : Nat -> Option Nat} {wd : Nat -> WayD} (g : GI F c h (n + 1) q bp wd) (hs : Shuf (Zb6 q 0 n) q' n)
  (hF1 : ∀ v, F' v = false -> F v = false) (hF2 : ∀ v k, bp v = some k -> F' v = false -> k ≠ q 0) (hF3 : ∀ v, F v = false -> F' v = true -> bp v = some (q 0)) : GI F' c h n q' bp wd := by
 refine ⟨g.cc, g.hh, g.to, fun i hi => ?_, fun v k e hFv => ?_, Zn3 hs g.inj, g.nn⟩
 ·obtain ⟨j, h0, hj, e⟩ := pop_in hs hi
  obtain ⟨v, kb, h1, h2, h3⟩ := g.ent j hj
  rw [e]
  refine ⟨v, kb, h1, h2, ?_⟩
  rcases h3 with ⟨h4, h5⟩ | h4
  ·left
   refine ⟨h4, ?_⟩
   cases e2 : F' v with
   | false => rfl
   | true =>
    have h6 := hF3 v h5 e2
    rw [h2] at h6
    cases h6
    have := g.inj j 0 hj (by omega) h4
    omega
  ·exact .inr h4
 ·obtain ⟨j, hj, e2⟩ := g.live v k e (hF1 v hFv)
  have h0 : 0 < j := by
   by_cases e3 : j = 0
   ·subst e3; exact absurd e2.symm (hF2 v k e hFv)
   ·omega
  obtain ⟨i, hi, e4⟩ := pop_on hs h0 hj
  exact ⟨i, hi, e4.trans e2⟩
theorem Inv.hops_ne {L : Nat -> Nat -> Int} {src : Nat} {F : Nat -> Bool} {c : Nat -> Int} {h : Nat -> List Int} (I : Inv L src F c h) : ∀ (m v : Nat), v ≠ src -> 0 <= c v -> (c v).toNat <= m -> h v ≠ []
 | m, v, hv, h0, hm => by
  obtain ⟨u, hu, hl, hc⟩ := I.pred v hv h0
  have hu0 := (I.fnode u hu).2
  by_cases e : u = src
  ·have : (v : Int) ∈ h v := (I.hop v hv v).2 ⟨h0, u, hu, hl, hc, .inl ⟨e, rfl⟩⟩
   intro e2
   rw [e2] at this
   cases this
  ·match m, hm with
   | 0, hm => omega
   | m + 1, hm =>
    have ih := I.hops_ne m u e hu0 (by omega)
    obtain ⟨x, hx⟩ := List.exists_mem_of_ne_nil _ ih
    have : x ∈ h v := (I.hop v hv x).2 ⟨h0, u, hu, hl, hc, .inr ⟨e, hx⟩⟩
    intro e2
    rw [e2] at this
    cases this

theorem ZeB {l a b : List Int} (hl : l.Pairwise (· < ·)) (hm : ∀ x, x ∈ l ↔ (x ∈ a \/ x ∈ b)) (hr : ∀ x, x ∈ l -> 1 <= x /\ x <= 6) : l = addL a b := by
 refine Zh1 hl (ZfE a b) (fun x => ?_)
 rw [ZfI]
 constructor
 ·intro hx
  have := hr x hx
  exact ⟨this.1, this.2, (hm x).1 hx⟩
 ·rintro ⟨_, _, h3⟩
  exact (hm x).2 h3

theorem ZdH {P : Nat -> Prop} (h : ∃ m, P m) : ∃ m, P m /\ ∀ k, P k -> m <= k := by
 obtain ⟨m, hm⟩ := h
 induction m using Nat.strongRecOn with
 | ind m ih =>
  by_cases e : ∃ k, k < m /\ P k
  ·obtain ⟨k, hk, hP⟩ := e
   exact ih k hk hP
  ·exact ⟨m, hm, fun k hk => by
    by_cases e2 : k < m
    ·exact absurd ⟨k, e2, hk⟩ e
    ·omega⟩

open Classical in
noncomputable def ZgV (P : Nat -> Prop) : Nat := if h : ∃ m, P m then Classical.choose (ZdH h) else 0

theorem Zju {P : Nat -> Prop} (h : ∃ m, P m) : P (ZgV P) := by
 unfold ZgV
 rw [dif_pos h]
 exact (Classical.choose_spec (ZdH h)).1

theorem ZfR {P : Nat -> Prop} {m : Nat} (h : P m) : ZgV P <= m := by
 unfold ZgV
 rw [dif_pos ⟨m, h⟩]
 exact (Classical.choose_spec (ZdH ⟨m, h⟩)).2 m h
end Go.Proofs.YtakiifededfjlaaGreat
namespace Go.Proofs.YtakiifededfjlaaGreat
open Go.RowKit
set_option linter.unusedSimpArgs false
set_option linter.unusedVariables false
set_option maxRecDepth 100000
set_option maxHeartbeats 8000000
def ptrO : Option Nat -> Value
 | some k => .pointer (some ⟨k, 0, none⟩)
 | none => .pointer none
def finC (bp : Nat -> Option Nat) (u : Value) : Array Value := #[ptrO (bp 0), ptrO (bp 1), ptrO (bp 2), ptrO (bp 3), ptrO (bp 4), ptrO (bp 5), ptrO (bp 6), u]
theorem ZnZ (bp : Nat -> Option Nat) (u : Value) {t : Nat} (ht : 1 <= t /\ t <= 6) : (finC bp u)[t]? = some (ptrO (bp t)) := by
 rcases Zfs ht with rfl | rfl | rfl | rfl | rfl | rfl <;> rfl
theorem Zna (bp : Nat -> Option Nat) (u : Value) {t : Nat} (ht : 1 <= t /\ t <= 6) (k : Nat) : (finC bp u).setIfInBounds t (.pointer (some ⟨k, 0, none⟩)) = finC (upd bp t (some k)) u := by
 rcases Zfs ht with rfl | rfl | rfl | rfl | rfl | rfl <;> simp [finC, upd, ptrO]
theorem Zge (bp : Nat -> Option Nat) (u u' : Value) : (finC bp u).setIfInBounds 7 u' = finC bp u' := by simp [finC]
structure FS (W : World) (lo z : Nat) (u : Value) (n : Nat) (q : Nat -> Nat) (bp : Nat -> Option Nat) (wd : Nat -> WayD) (wv : Nat -> Value) : Prop where
 lz : lo <= z
 hb : HB W lo z (finC bp u) u n q wd wv
 hp : ZcT (fun k => (wd k).cost) q n
 way : ∀ v k, bp v = some k -> W.heap[k]? = some (.cells (wayC (wd k) (wv k)) 46) /\ lo <= k
 row : ∀ v k, bp v = some k -> W.ownsRow lo 3 1 (wv k) (wd k).hops.length (flat intE (wd k).hops)
 short : ∀ v k, bp v = some k -> (wd k).hops.length <= 6
 apart : ∀ v v' k k', v ≠ v' -> bp v = some k -> bp v' = some k' -> ∀ b, (wv k).ownBlock = some b -> (wv k').ownBlock ≠ some b
 to : ∀ v k, bp v = some k -> (wd k).to = (v : Int)
 b0 : bp 0 = none
theorem FS.size {W : World} {lo z n : Nat} {u : Value} {q : Nat -> Nat} {bp : Nat -> Option Nat} {wd : Nat -> WayD} {wv : Nat -> Value} (s : FS W lo z u n q bp wd wv) : lo <= W.heap.size := by
 have := Zab s.hb.box; have := s.lz; omega
theorem FS.below {W W' : World} {lo z n : Nat} {u : Value} {q : Nat -> Nat} {bp : Nat -> Option Nat} {wd : Nat -> WayD} {wv : Nat -> Value} (s : FS W lo z u n q bp wd wv) (hb : Below W.heap.size W W') : FS W' lo z u n q bp wd wv :=
 ⟨s.lz, s.hb.below hb, s.hp, fun v k e => ⟨(hb.block _ (Zab (s.way v k e).1)).trans (s.way v k e).1, (s.way v k e).2⟩, fun v k e => Zae (s.row v k e) hb (Nat.le_refl _), s.short, s.apart, s.to, s.b0⟩
theorem FS.known {W : World} {lo z n : Nat} {u : Value} {q : Nat -> Nat} {bp : Nat -> Option Nat} {wd : Nat -> WayD} {wv : Nat -> Value} (s : FS W lo z u n q bp wd wv) {t : Nat} (ht : 1 <= t /\ t <= 6) : W.cell? ⟨z, t, none⟩ = some (ptrO (bp t)) := (Zaa s.hb.box t).trans (ZnZ bp u ht)
theorem FS.put {W : World} {lo z n : Nat} {u : Value} {q : Nat -> Nat} {bp : Nat -> Option Nat} {wd : Nat -> WayD} {wv : Nat -> Value} (s : FS W lo z u n q bp wd wv) {t k : Nat} (ht : 1 <= t /\ t <= 6) (x : WayD) (v : Value)
  (hq : ∀ i, i < n -> q i ≠ k) (hk : W.heap[k]? = some (.cells (wayC x v) 46)) :
  HB (W.setCell ⟨z, t, none⟩ (.pointer (some ⟨k, 0, none⟩))) lo z (finC (upd bp t (some k)) u) u n q (upd wd k x) (upd wv k v) /\ (W.setCell ⟨z, t, none⟩ (.pointer (some ⟨k, 0, none⟩))).heap[k]? = some (.cells (wayC (upd wd k x k) (upd wv k v k)) 46) /\ FK W (W.setCell ⟨z, t, none⟩ (.pointer (some ⟨k, 0, none⟩))) lo z := by
 have hkz : ∀ (j : Nat) (cs : Array Value), W.heap[j]? = some (.cells cs 46) -> (W.setCell ⟨z, t, none⟩ (.pointer (some ⟨k, 0, none⟩))).heap[j]? = some (.cells cs 46) := by
  intro j cs hj
  rw [heap_setCell_other W ⟨z, t, none⟩ j _ (fun e => by
   have e' : j = z := e
   rw [e', s.hb.box] at hj
   simp at hj)]
  exact hj
 refine ⟨⟨?_, rfl, ?_, fun i hi => ?_, fun i hi => ?_⟩, ?_, FK.of_set _ s.lz⟩
 ·have e := heap_setCell_same W z t _ _ (.pointer (some ⟨k, 0, none⟩)) s.hb.box
  rw [Zna bp u ht k] at e
  exact e
 ·exact Zap s.hb.hq.row (fun j hj => heap_setCell_other W ⟨z, t, none⟩ j _ (fun e => by
   have e' : j = z := e
   exact Zaq s.hb.hq.row s.hb.box (by decide) (by rw [hj, e'])))
 ·rw [Zao _ _ (hq i hi), Zao _ _ (hq i hi)]
  exact hkz _ _ (s.hb.hq.way i hi)
 ·rw [Zao _ _ (hq i hi)]
  exact s.hb.hq.sl i hi
 ·rw [Zau, Zau]
  exact hkz _ _ hk
theorem FS.pushed {W W2 W' : World} {lo z n : Nat} {u u' : Value} {q q' : Nat -> Nat} {bp : Nat -> Option Nat} {wd : Nat -> WayD} {wv : Nat -> Value} (s : FS W lo z u n q bp wd wv) {t k : Nat} (ht : 1 <= t /\ t <= 6) {x : WayD} {v : Value} (hx : x.to = (t : Int)) (hxl : x.hops.length <= 6)
  (hk : W.heap[k]? = some (.cells (wayC x v) 46)) (hlk : lo <= k) (hbk : ∀ v, bp v ≠ some k) (hrow : W.ownsRow lo 3 1 v x.hops.length (flat intE x.hops)) (hfr : ∀ v' k' b, bp v' = some k' -> (wv k').ownBlock = some b -> v.ownBlock ≠ some b)
  (f1 : FK W W2 lo z) (f2 : FK W2 W' lo z) (hb' : HB W' lo z (finC (upd bp t (some k)) u') u' (n + 1) q' (upd wd k x) (upd wv k v)) (hi : ZcT (fun k' => (upd wd k x k').cost) q' (n + 1)) : FS W' lo z u' (n + 1) q' (upd bp t (some k)) (upd wd k x) (upd wv k v) := by
 have F := f1.trans f2
 have keepW : ∀ (j : Nat) (cs : Array Value), W.heap[j]? = some (.cells cs 46) -> W'.heap[j]? = some (.cells cs 46) := by
  intro j cs hj
  exact (F.typed j cs _ _ hj (by decide) (fun e => by rw [e, s.hb.box] at hj; simp at hj)).trans hj
 have keepR : ∀ (v : Value) (l : List Int), W.ownsRow lo 3 1 v l.length (flat intE l) -> W'.ownsRow lo 3 1 v l.length (flat intE l) := by
  intro v l ho
  refine Zap ho (fun j hj => ?_)
  rcases ho.2 with ⟨e1, _⟩ | ⟨g2, cap, cur, e1, _, hh, _⟩
  ·rw [e1] at hj; cases hj
  ·rw [e1] at hj
   simp [Value.ownBlock] at hj
   subst hj
   exact F.typed _ _ _ _ hh (by decide) (fun e => by rw [e, s.hb.box] at hh; simp at hh)
 have wb : ∀ v k', bp v = some k' -> k' ≠ k := fun v k' e e2 => hbk v (by rw [e, e2])
 refine ⟨s.lz, hb', hi, fun v' k' e => ?_, fun v' k' e => ?_, fun v' k' e => ?_, fun v1 v2 k1 k2 hne e1 e2 b hb1 hb2 => ?_, fun v' k' e => ?_, ?_⟩
 ·by_cases e2 : v' = t
  ·subst e2; rw [Zau] at e; cases e
   rw [Zau, Zau]; exact ⟨keepW _ _ hk, hlk⟩
  ·rw [Zao _ _ e2] at e
   rw [Zao _ _ (wb v' k' e), Zao _ _ (wb v' k' e)]
   exact ⟨keepW _ _ (s.way v' k' e).1, (s.way v' k' e).2⟩
 ·by_cases e2 : v' = t
  ·subst e2; rw [Zau] at e; cases e
   rw [Zau, Zau]; exact keepR _ _ hrow
  ·rw [Zao _ _ e2] at e
   rw [Zao _ _ (wb v' k' e), Zao _ _ (wb v' k' e)]
   exact keepR _ _ (s.row v' k' e)
 ·by_cases e2 : v' = t
  ·subst e2; rw [Zau] at e; cases e
   rw [Zau]; exact hxl
  ·rw [Zao _ _ e2] at e
   rw [Zao _ _ (wb v' k' e)]
   exact s.short v' k' e
 ·by_cases a1 : v1 = t
  ·subst a1; rw [Zau] at e1; cases e1
   rw [Zau] at hb1
   rw [Zao _ _ (fun e => hne e.symm)] at e2
   rw [Zao _ _ (wb v2 k2 e2)] at hb2
   exact hfr v2 k2 b e2 hb2 hb1
  ·rw [Zao _ _ a1] at e1
   rw [Zao _ _ (wb v1 k1 e1)] at hb1
   by_cases a2 : v2 = t
   ·subst a2; rw [Zau] at e2; cases e2
    rw [Zau] at hb2
    exact hfr v1 k1 b e1 hb1 hb2
   ·rw [Zao _ _ a2] at e2
    rw [Zao _ _ (wb v2 k2 e2)] at hb2
    exact s.apart v1 v2 k1 k2 hne e1 e2 b hb1 hb2
 ·by_cases e2 : v' = t
  ·subst e2; rw [Zau] at e; cases e
   rw [Zau]; exact hx
  ·rw [Zao _ _ e2] at e
   rw [Zao _ _ (wb v' k' e)]
   exact s.to v' k' e
 ·rw [Zao _ _ (by omega)]; exact s.b0
theorem FS.joined {W W2 : World} {lo z n : Nat} {u : Value} {q : Nat -> Nat} {bp : Nat -> Option Nat} {wd : Nat -> WayD} {wv : Nat -> Value} (s : FS W lo z u n q bp wd wv) {t k B : Nat} {y : WayD} {vy : Value} (hbt : bp t = some k) (hc : y.cost = (wd k).cost) (hto : y.to = (wd k).to) (hyl : y.hops.length <= 6)
  (hb2 : Below W.heap.size W W2) (hB : W.heap.size <= B) (hrow : W2.ownsRow B 3 1 vy y.hops.length (flat intE y.hops)) : FS (Za0 W2 k y vy) lo z u n q bp (upd wd k y) (upd wv k vy) := by
 have s2 := s.below hb2
 have hk := (s2.way t k hbt).1
 have G := ZaX W2 k y vy
 have hfin : (Za0 W2 k y vy).heap[k]? = some (.cells (wayC y vy) 46) := Zc7 y vy (by rw [hk]; rfl)
 have hcost : ∀ k', (upd wd k y k').cost = (wd k').cost := by
  intro k'
  by_cases e : k' = k
  ·rw [e, Zau]; exact hc
  ·rw [Zao _ _ e]
 have hkz : z ≠ k := fun e => by rw [<- e, s2.hb.box] at hk; simp at hk
 have keepR : ∀ (b0 : Nat) (v : Value) (l : List Int), W2.ownsRow b0 3 1 v l.length (flat intE l) -> (Za0 W2 k y vy).ownsRow b0 3 1 v l.length (flat intE l) := by
  intro b0 v l ho
  refine Zap ho (fun j hj => G.block j (ho.lt j hj).2 (fun e => ?_))
  have e' : j = k := by simpa using e
  exact Zaq ho hk (by decide) (by rw [hj, e'])
 have hway : ∀ k', (∃ x v, W2.heap[k']? = some (.cells (wayC x v) 46) /\ x = wd k' /\ v = wv k') -> (Za0 W2 k y vy).heap[k']? = some (.cells (wayC (upd wd k y k') (upd wv k vy k')) 46) := by
  rintro k' ⟨x, v, h1, rfl, rfl⟩
  by_cases e : k' = k
  ·rw [e, Zau, Zau]; exact hfin
  ·rw [Zao _ _ e, Zao _ _ e, G.block k' (Zab h1) (by simpa using e)]; exact h1
 have lowRow : ∀ v' k', bp v' = some k' -> ∀ b, (wv k').ownBlock = some b -> b < W.heap.size := fun v' k' e b hb => ((s.row v' k' e).lt b hb).2
 have newRow : ∀ b, vy.ownBlock = some b -> W.heap.size <= b := fun b hb => by have := (hrow.lt b hb).1; omega
 refine ⟨s.lz, ⟨?_, rfl, ?_, fun i hi => ?_, fun i hi => ?_⟩, ?_, fun v' k' e => ⟨hway k' ⟨_, _, (s2.way v' k' e).1, rfl, rfl⟩, (s.way v' k' e).2⟩, fun v' k' e => ?_, fun v' k' e => ?_, fun v1 v2 k1 k2 hne e1 e2 b hb1 hb2 => ?_, fun v' k' e => ?_, s.b0⟩
 ·rw [G.block z (Zab s2.hb.box) (by simpa using hkz)]; exact s2.hb.box
 ·refine Zap s2.hb.hq.row (fun j hj => G.block j (s2.hb.hq.row.lt j hj).2 (fun e => ?_))
  have e' : j = k := by simpa using e
  exact Zaq s2.hb.hq.row hk (by decide) (by rw [hj, e'])
 ·exact hway (q i) ⟨_, _, s2.hb.hq.way i hi, rfl, rfl⟩
 ·by_cases e : q i = k
  ·rw [e, Zau]
   obtain ⟨a, c, e2⟩ := Zac hrow
   exact ⟨a, _, c, e2⟩
  ·rw [Zao _ _ e]; exact s.hb.hq.sl i hi
 ·intro i h0 hi
  show (upd wd k y (q (par i))).cost <= (upd wd k y (q i)).cost
  rw [hcost, hcost]
  exact s.hp i h0 hi
 ·by_cases e2 : k' = k
  ·rw [e2, Zau, Zau]
   exact Zag (keepR B vy y.hops hrow) (by have := s.size; omega)
  ·rw [Zao _ _ e2, Zao _ _ e2]
   exact keepR lo _ _ (s2.row v' k' e)
 ·by_cases e2 : k' = k
  ·rw [e2, Zau]; exact hyl
  ·rw [Zao _ _ e2]; exact s.short v' k' e
 ·by_cases a1 : k1 = k
  ·have a2 : k2 ≠ k := fun a2 => by
    have h1 := s.to v1 k1 e1
    have h2 := s.to v2 k2 e2
    rw [a1] at h1
    rw [a2] at h2
    omega
   rw [a1, Zau] at hb1
   rw [Zao _ _ a2] at hb2
   have h1 := newRow b hb1
   have h2 := lowRow v2 k2 e2 b hb2
   omega
  ·rw [Zao _ _ a1] at hb1
   by_cases a2 : k2 = k
   ·rw [a2, Zau] at hb2
    have h1 := newRow b hb2
    have h2 := lowRow v1 k1 e1 b hb1
    omega
   ·rw [Zao _ _ a2] at hb2
    exact s.apart v1 v2 k1 k2 hne e1 e2 b hb1 hb2
 ·by_cases e2 : k' = k
  ·rw [e2, Zau, hto]
   rw [e2] at e
   exact s.to v' k e
  ·rw [Zao _ _ e2]; exact s.to v' k' e
end Go.Proofs.YtakiifededfjlaaGreat
