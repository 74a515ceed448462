/-
  impl.linksOk, thingsOk, NetOk: their contracts.
  Regions that draw their order, by hand: one operation at a time, in the text's order.
-/
import Derived.Test.YtmijnjnihhemgaaGreatQm2
import Derived.Test.YtmijnjnihhemgaaGreatQm1
import Derived.Deep.RegionHeld3
namespace Go.Proofs.YtmijnjnihhemgaaGreat
open Go.RowKit
set_option linter.unusedSimpArgs false
set_option linter.unusedVariables false
set_option maxRecDepth 100000
set_option maxHeartbeats 8000000
def linksB (n : Int) (ls : List Lk) : Bool := decide (ls.length ≤ 12) && allOk (linkOkB n) ls && ascB ordL ls
theorem linksOk_any (n : Int) (v : Value) (ls : List Lk) (w : World) (hls : ls.length ≤ 1048576) (hv : LinksAt w v ls w.heap.size) :
  Calls Tryz.prog 135 #[.int .i64 n, v] w fun e w' => e = .returned (.bool (linksB n ls)) ∧ Below w.heap.size w w' := by
 obtain ⟨a, cap, rfl⟩ := hv.shape
 have HV := hide hv
 clear hv
 by_cases h12 : ls.length ≤ 12
 case neg =>
  have hno : linksB n ls = false := by unfold linksB; rw [decide_eq_false h12]; rfl
  rw [hno]
  have h12' : (12 : Int) < (ls.length : Int) := by omega
  clear hno
  go_enter Tryz.func135, Tryz.ntmps135
  go_wp2
  go_ret
  exact ⟨rfl, Below.refl _ _⟩
 have h12' : ¬ (12 : Int) < (ls.length : Int) := by omega
 have hB : linksB n ls = (allOk (linkOkB n) ls && ascB ordL ls) := by unfold linksB; rw [decide_eq_true h12]; rfl
 have HB := hide hB
 clear hB
 go_enter Tryz.func135, Tryz.ntmps135
 go_wp2
 go_loopw [12] (fun i wr => ∃ k : Nat, k ≤ ls.length ∧ i = .int .i64 k ∧ (∀ j, j < k → okAt (linkOkB n) ls j = true) ∧ Below w.heap.size w wr) (fun i _ => ls.length - (intOf i).toNat)
 case atStart => exact ⟨0, by omega, rfl, by omega, Below.refl _ _⟩
 case round =>
  obtain ⟨k, hk, rfl, hno, hb⟩ := hrel
  have HNO := hide hno
  clear hno
  by_cases hlt : k < ls.length
  ·obtain ⟨l, hl⟩ : ∃ l, ls[k]? = some l := ⟨ls[k], List.getElem?_eq_getElem hlt⟩
   obtain ⟨b, off, cap', hve, hbb, c0, c1, c2, c3⟩ := HV.out.cells k l hl
   cases hve
   rw [← hb.cell (p := ⟨b, off + k * 4, none⟩) hbb] at c0
   rw [← hb.cell (p := ⟨b, off + k * 4 + 1, none⟩) hbb] at c1
   rw [← hb.cell (p := ⟨b, off + k * 4 + 2, none⟩) hbb] at c2
   rw [← hb.cell (p := ⟨b, off + k * 4 + 3, none⟩) hbb] at c3
   have HAT := hide (okAt_eq (ok := linkOkB n) hl)
   have HOK := hide (ilinkOk_any n l)
   clear hl
   obtain ⟨q, hq⟩ : ∃ q, q = linkOkB n l := ⟨_, rfl⟩
   rw [← hq] at HAT HOK
   unfold lkV at HOK
   clear hq
   have hzr := hb.size
   go_wp2_with fail
   refine (HOK.out _).mono ?_
   rintro e w2 ⟨rfl, hbc⟩
   have B2 : Below w.heap.size w w2 := (hb.alloc hb.size _).trans (hbc.mono (by simp; omega))
   cases q
   ·have hf : linksB n ls = false := by rw [HB.out]; unfold allOk; rw [all_false hlt HAT.out]; rfl
    have HF := hide hf
    clear hf
    go_wp2
    go_ret
    exact ⟨ret_bool HF.out, B2⟩
   ·go_wp2
    exact ⟨⟨k + 1, by omega, by go_num, next_true HNO.out HAT.out, B2⟩, by simp [intOf]; omega⟩
  ·have hall : allOk (linkOkB n) ls = true := all_true fun i hi => HNO.out i (by omega)
   have hF : linksB n ls = ascB ordL ls := by rw [HB.out, hall]; rfl
   have HF := hide hF
   clear hF hall
   have HVR := hide (HV.out.then hb)
   go_wp2_with fail
   refine (ascL_any _ ls _ hls HVR.out).mono ?_
   rintro e w2 ⟨rfl, hbc⟩
   go_wp2
   go_ret
   exact ⟨ret_bool HF.out, hb.trans (hbc.mono hb.size)⟩
def thOkB (n : Int) (t : Th) : Bool := inB t.k 1 9 && inB t.o 1 n && inB t.c 1 1000
def thingsB (n : Int) (ls : List Th) : Bool := decide (ls.length ≤ 4) && allOk (thOkB n) ls && ascB ordT ls
theorem thingsOk_any (n : Int) (v : Value) (ls : List Th) (w : World) (hls : ls.length ≤ 1048576) (hv : ThingsAt w v ls w.heap.size) :
  Calls Tryz.prog 136 #[.int .i64 n, v] w fun e w' => e = .returned (.bool (thingsB n ls)) ∧ Below w.heap.size w w' := by
 obtain ⟨a, cap, rfl⟩ := hv.shape
 have HV := hide hv
 clear hv
 by_cases h12 : ls.length ≤ 4
 case neg =>
  have hno : thingsB n ls = false := by unfold thingsB; rw [decide_eq_false h12]; rfl
  rw [hno]
  have h12' : (4 : Int) < (ls.length : Int) := by omega
  clear hno
  go_enter Tryz.func136, Tryz.ntmps136
  go_wp2
  go_ret
  exact ⟨rfl, Below.refl _ _⟩
 have h12' : ¬ (4 : Int) < (ls.length : Int) := by omega
 have hB : thingsB n ls = (allOk (thOkB n) ls && ascB ordT ls) := by unfold thingsB; rw [decide_eq_true h12]; rfl
 have HB := hide hB
 clear hB
 go_enter Tryz.func136, Tryz.ntmps136
 go_wp2
 go_loopw [12] (fun i wr => ∃ k : Nat, k ≤ ls.length ∧ i = .int .i64 k ∧ (∀ j, j < k → okAt (thOkB n) ls j = true) ∧ Below w.heap.size w wr) (fun i _ => ls.length - (intOf i).toNat)
 case atStart => exact ⟨0, by omega, rfl, by omega, Below.refl _ _⟩
 case round =>
  obtain ⟨k, hk, rfl, hno, hb⟩ := hrel
  have HNO := hide hno
  clear hno
  by_cases hlt : k < ls.length
  ·obtain ⟨l, hl⟩ : ∃ l, ls[k]? = some l := ⟨ls[k], List.getElem?_eq_getElem hlt⟩
   obtain ⟨b, off, cap', hve, hbb, c0, c1, c2, c3⟩ := HV.out.cells k l hl
   cases hve
   rw [← hb.cell (p := ⟨b, off + k * 4, none⟩) hbb] at c0
   rw [← hb.cell (p := ⟨b, off + k * 4 + 1, none⟩) hbb] at c1
   rw [← hb.cell (p := ⟨b, off + k * 4 + 2, none⟩) hbb] at c2
   rw [← hb.cell (p := ⟨b, off + k * 4 + 3, none⟩) hbb] at c3
   have HAT := hide (okAt_eq (ok := thOkB n) hl)
   obtain ⟨q1, hq1⟩ : ∃ q, q = inB l.k 1 9 := ⟨_, rfl⟩
   obtain ⟨q2, hq2⟩ : ∃ q, q = inB l.o 1 n := ⟨_, rfl⟩
   obtain ⟨q3, hq3⟩ : ∃ q, q = inB l.c 1 1000 := ⟨_, rfl⟩
   have hok : thOkB n l = (q1 && q2 && q3) := by unfold thOkB; rw [hq1, hq2, hq3]
   have H1 := hide (isIn_any l.k 1 9)
   have H2 := hide (isIn_any l.o 1 n)
   have H3 := hide (isIn_any l.c 1 1000)
   rw [← hq1] at H1
   rw [← hq2] at H2
   rw [← hq3] at H3
   rw [hok] at HAT
   clear hl hq1 hq2 hq3 hok
   have hzr := hb.size
   have B2 : Below w.heap.size w (wr.alloc (.cells #[.int .i64 l.o, .int .i64 l.k, .int .i64 l.c, .bool l.f] 87)) := hb.alloc hb.size _
   cases q1
   ·have hf : thingsB n ls = false := by rw [HB.out]; unfold allOk; rw [all_false hlt HAT.out]; rfl
    have HF := hide hf
    clear hf
    go_wp2_with fail
    refine (H1.out _).mono ?_
    rintro e w2 ⟨rfl, rfl⟩
    go_wp2
    go_ret
    exact ⟨ret_bool HF.out, B2⟩
   cases q2
   ·have hf : thingsB n ls = false := by rw [HB.out]; unfold allOk; rw [all_false hlt HAT.out]; rfl
    have HF := hide hf
    clear hf
    go_wp2_with fail
    refine (H1.out _).mono ?_
    rintro e w2 ⟨rfl, rfl⟩
    go_wp2_with fail
    refine (H2.out _).mono ?_
    rintro e w2 ⟨rfl, rfl⟩
    go_wp2
    go_ret
    exact ⟨ret_bool HF.out, B2⟩
   cases q3
   ·have hf : thingsB n ls = false := by rw [HB.out]; unfold allOk; rw [all_false hlt HAT.out]; rfl
    have HF := hide hf
    clear hf
    go_wp2_with fail
    refine (H1.out _).mono ?_
    rintro e w2 ⟨rfl, rfl⟩
    go_wp2_with fail
    refine (H2.out _).mono ?_
    rintro e w2 ⟨rfl, rfl⟩
    go_wp2_with fail
    refine (H3.out _).mono ?_
    rintro e w2 ⟨rfl, rfl⟩
    go_wp2
    go_ret
    exact ⟨ret_bool HF.out, B2⟩
   ·go_wp2_with fail
    refine (H1.out _).mono ?_
    rintro e w2 ⟨rfl, rfl⟩
    go_wp2_with fail
    refine (H2.out _).mono ?_
    rintro e w2 ⟨rfl, rfl⟩
    go_wp2_with fail
    refine (H3.out _).mono ?_
    rintro e w2 ⟨rfl, rfl⟩
    go_wp2
    exact ⟨⟨k + 1, by omega, by go_num, next_true HNO.out HAT.out, B2⟩, by simp [intOf]; omega⟩
  ·have hall : allOk (thOkB n) ls = true := all_true fun i hi => HNO.out i (by omega)
   have hF : thingsB n ls = ascB ordT ls := by rw [HB.out, hall]; rfl
   have HF := hide hF
   clear hF hall
   have HVR := hide (HV.out.then hb)
   go_wp2_with fail
   refine (ascT_any _ ls _ hls HVR.out).mono ?_
   rintro e w2 ⟨rfl, hbc⟩
   go_wp2
   go_ret
   exact ⟨ret_bool HF.out, hb.trans (hbc.mono hb.size)⟩
def netOkI (x : NetD) : Bool := inB x.n 1 6 && linksB x.n x.ls && thingsB x.n x.ts
theorem inetOk_any (v : Value) (x : NetD) (w : World) (hl : x.ls.length ≤ 1048576) (ht : x.ts.length ≤ 1048576) (hv : NetAt w v x w.heap.size) :
  Calls Tryz.prog 64 #[v] w fun e w' => e = .returned (.bool (netOkI x)) ∧ Below w.heap.size w w' := by
 obtain ⟨n, ls, ts⟩ := x
 obtain ⟨v1, v2, rfl, h1, h2⟩ := hv
 simp only [] at h1 h2 hl ht ⊢
 obtain ⟨a1, c1, rfl⟩ := h1.shape
 obtain ⟨a2, c2, rfl⟩ := h2.shape
 obtain ⟨q1, hq1⟩ : ∃ q, q = inB n 1 6 := ⟨_, rfl⟩
 obtain ⟨q2, hq2⟩ : ∃ q, q = linksB n ls := ⟨_, rfl⟩
 obtain ⟨q3, hq3⟩ : ∃ q, q = thingsB n ts := ⟨_, rfl⟩
 have hok : netOkI ⟨n, ls, ts⟩ = (q1 && q2 && q3) := by unfold netOkI; rw [hq1, hq2, hq3]
 rw [hok]
 have HIN := hide (isIn_any n 1 6)
 rw [← hq1] at HIN
 have HL := hide (fun W (h : Below w.heap.size w W) => linksOk_any n _ ls W hl (h1.then h))
 have HT := hide (fun W (h : Below w.heap.size w W) => thingsOk_any n _ ts W ht (h2.then h))
 rw [← hq2] at HL
 rw [← hq3] at HT
 clear hq1 hq2 hq3 hok h1 h2
 have B0 : Below w.heap.size w (w.alloc (.cells #[.int .i64 n, .slice a1 ls.length c1, .slice a2 ts.length c2] 27)) := (Below.refl _ _).alloc (Nat.le_refl _) _
 have hnew := heap_alloc_new w (.cells #[.int .i64 n, .slice a1 ls.length c1, .slice a2 ts.length c2] 27)
 have NEW := hide hnew
 clear hnew
 cases q1
 ·go_enter Tryz.func64, Tryz.ntmps64
  go_wp2_with fail
  refine (HIN.out _).mono ?_
  rintro e w1 ⟨rfl, rfl⟩
  go_wp2
  go_ret
  exact ⟨by simp, B0⟩
 cases q2
 ·go_enter Tryz.func64, Tryz.ntmps64
  go_wp2_with fail
  refine (HIN.out _).mono ?_
  rintro e w1 ⟨rfl, rfl⟩
  go_wp2_with fail
  refine (HL.out _ B0).mono ?_
  rintro e w1 ⟨rfl, b1⟩
  go_wp2
  go_ret
  exact ⟨by simp, B0.trans (b1.mono B0.size)⟩
 ·go_enter Tryz.func64, Tryz.ntmps64
  go_wp2_with fail
  refine (HIN.out _).mono ?_
  rintro e w1 ⟨rfl, rfl⟩
  go_wp2_with fail
  refine (HL.out _ B0).mono ?_
  rintro e w1 ⟨rfl, b1⟩
  have g1 : w1.heap[w.heap.size]? = some (.cells #[.int .i64 n, .slice a1 ls.length c1, .slice a2 ts.length c2] 27) := by rw [b1.block _ (by simp)]; exact NEW.out
  have B1 : Below w.heap.size w w1 := B0.trans (b1.mono B0.size)
  have s0 := cells_at g1 0
  have s2 := cells_at g1 2
  simp at s0 s2
  clear g1 b1 B0
  go_wp2_with fail
  refine (HT.out _ B1).mono ?_
  rintro e w2 ⟨rfl, b2⟩
  go_wp2
  go_ret
  exact ⟨by simp, B1.trans (b2.mono B1.size)⟩
end Go.Proofs.YtmijnjnihhemgaaGreat
namespace Go.Proofs.YtmijnjnihhemgaaGreat
open Go.RowKit

theorem putS : (∀ (a : Act) (v : Value), a.put none v = a) ∧ (∀ (a : Act) (t : Nat) (v : Value), a.put (some t) v = { a with tmps := a.tmps.setIfInBounds t v }) ∧ (∀ (l : List Value) (i : Nat) (v : Value), l.toArray.setIfInBounds i v = (l.set i v).toArray) ∧ (∀ (x v : Value) (l : List Value), (x :: l).set 0 v = v :: l) ∧ (∀ (x v : Value) (l : List Value) (n : Nat), (x :: l).set (n + 1) v = x :: l.set n v) :=
 ⟨fun _ _ => rfl, fun _ _ _ => rfl, fun _ _ _ => by simp, fun _ _ _ => rfl, fun _ _ _ _ => rfl⟩

theorem getS : (∀ (l : List Oper) (i : Nat), l.toArray[i]? = l[i]?) ∧ (∀ (x : Oper) (l : List Oper), (x :: l)[0]? = some x) ∧ (∀ (x : Oper) (l : List Oper) (n : Nat), (x :: l)[n + 1]? = l[n]?) :=
 ⟨fun _ _ => by simp, fun _ _ => rfl, fun _ _ _ => rfl⟩

def mayTake (ops : Array Oper) (listed : Array Bool) (i : Nat) : Bool := Region.noSelect ops && Region.free .any ops listed i && (Region.ready .any ops listed).contains i

theorem mayTake_parts {ops : Array Oper} {listed : Array Bool} {i : Nat} (h : mayTake ops listed i = true) : Region.noSelect ops = true ∧ Region.free .any ops listed i = true ∧ (Region.ready .any ops listed).contains i = true := by
 unfold mayTake at h
 simp only [Bool.and_eq_true] at h
 exact ⟨h.1.1, h.1.2, h.2⟩

section
variable {P : Program} {ops : Array Oper} {Q : Exit → Act → World → Prop} {S : World → Prop} {fuel : Nat} {listed : Array Bool} {a : Act} {w : World}

/-- the beginning: the region's operations behind a letter -/
theorem wp_region_start {id : Nat} (hm : P.follows .mixedOrders = true) (n : Nat) (hn : ops.size = n) (hS : S w.drew) (h : ∀ ops', Hid (ops' = ops) → S w.drew → wpAnyH P .any ops' Q S n (Array.replicate n false) a w.drew) : (Code.region id ops true).wp P Q a w := by
 refine wp_region_held_drew hm hS (fun hs => ?_)
 rw [hn]
 exact h ops rfl hs

/-- an operation that isn't wanted -/
theorem take_skip (i : Nat) (d : Tmp) (hi : (ops[i]?).map Oper.dst = some (some d)) (ht : mayTake ops listed i = true) (hw : (ops[i]?).map (fun o => Region.wanted o (yielded ops a.tmps)) = some false)
  (hQ : ∀ c a w, Q (.panic c) (a.put (some d) undef) w → Q (.panic c) a w) (hS : S w) (h : wpAnyH P .any ops Q S fuel (listed.setIfInBounds i true) (a.put (some d) undef) w) : wpAnyH P .any ops Q S (fuel + 1) listed a w := by
 obtain ⟨h1, h2, h3⟩ := mayTake_parts ht
 cases ho : ops[i]? with
 | none => rw [ho] at hi; cases hi
 | some oi =>
  rw [ho] at hi hw
  simp only [Option.map_some, Option.some.injEq] at hi hw
  refine wpAnyH_take ho h1 h2 h3 (v := undef) ?_ (Or.inr ⟨hw, rfl⟩) hS ?_
  ·rw [hi]; exact hQ
  ·rw [hi]; exact h

/-- an operation that yields v in every world that meets S -/
theorem take_do (i : Nat) {oi : Oper} {v : Value} (hi : ops[i]? = some oi) (ht : mayTake ops listed i = true) (hw : Region.wanted oi (yielded ops a.tmps) = true) (hy : ∀ w, S w → (execOp a.eval oi).run P w = .ok (.value v) w)
  (hQ : ∀ c a w, Q (.panic c) (a.put oi.dst v) w → Q (.panic c) a w) (hS : S w) (h : wpAnyH P .any ops Q S fuel (listed.setIfInBounds i true) (a.put oi.dst v) w) : wpAnyH P .any ops Q S (fuel + 1) listed a w := by
 obtain ⟨h1, h2, h3⟩ := mayTake_parts ht
 exact wpAnyH_take hi h1 h2 h3 hQ (Or.inl ⟨hw, hy⟩) hS h

/-- a call that alone may come up -/
theorem take_call (i : Nat) {oi : Oper} (hi : ops[i]? = some oi) (hr : Region.ready .any ops listed = [i]) (hw : Region.wanted oi (yielded ops a.tmps) = true)
  (h : ∀ K' : Act → World → Prop, Shut (∀ a w, S w → (S w → wpAnyH P .any ops Q S fuel (listed.setIfInBounds i true) a w) → K' a w) → Oper.wp P oi a w K' Q) : wpAnyH P .any ops Q S (fuel + 1) listed a w := by
 refine wpAnyH_ready (rs := [i]) hr (by simp) ?_
 refine AllReadyH.cons hi (fun K hK => ?_) AllReadyH.nil
 rw [if_pos hw]
 exact h K hK
theorem take_skp (i : Nat) (d : Tmp) (hb : ((ops[i]?).map Oper.dst == some (some d) && (mayTake ops listed i && (ops[i]?).map (fun o => Region.wanted o (yielded ops a.tmps)) == some false)) = true)
  (hQ : ∀ c a w, Q (.panic c) (a.put (some d) undef) w → Q (.panic c) a w) (hS : S w) (h : wpAnyH P .any ops Q S fuel (listed.setIfInBounds i true) (a.put (some d) undef) w) : wpAnyH P .any ops Q S (fuel + 1) listed a w := by
 simp only [Bool.and_eq_true, beq_iff_eq] at hb
 exact take_skip i d hb.1 hb.2.1 hb.2.2 hQ hS h

theorem take_d (i : Nat) (oi : Oper) (v : Value) (hi : ops[i]? = some oi) (hb : (mayTake ops listed i && (ops[i]?).map (fun o => Region.wanted o (yielded ops a.tmps)) == some true) = true) (hy : ∀ w, S w → (execOp a.eval oi).run P w = .ok (.value v) w)
  (hQ : ∀ c a w, Q (.panic c) (a.put oi.dst v) w → Q (.panic c) a w) (hS : S w) (h : wpAnyH P .any ops Q S fuel (listed.setIfInBounds i true) (a.put oi.dst v) w) : wpAnyH P .any ops Q S (fuel + 1) listed a w := by
 simp only [Bool.and_eq_true, beq_iff_eq] at hb
 have h2 := hb.2
 rw [hi] at h2
 simp only [Option.map_some, Option.some.injEq] at h2
 exact take_do i hi hb.1 h2 hy hQ hS h

end
end Go.Proofs.YtmijnjnihhemgaaGreat
