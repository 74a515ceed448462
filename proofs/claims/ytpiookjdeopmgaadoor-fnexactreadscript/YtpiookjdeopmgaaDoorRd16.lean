/-
  impl.linksOk, thingsOk, NetOk: their contracts.
-/
import Derived.Test.YtpiookjdeopmgaaDoorRd12
namespace Go.Proofs.YtpiookjdeopmgaaDoor
open Go.RowKit

def linksB (n : Int) (ls : List Lk) : Bool := decide (ls.length ≤ 12) && allOk (linkOkB n) ls && ascB ordL ls

set_option maxRecDepth 100000 in
set_option maxHeartbeats 4000000 in
theorem linksOk_any (n : Int) (v : Value) (ls : List Lk) (w : World) (hls : ls.length ≤ 1048576) (hv : LinksAt w v ls w.heap.size) :
    Calls Tryd.prog 88 #[.int .i64 n, v] w fun e w' => e = .returned (.bool (linksB n ls)) ∧ Below w.heap.size w w' := by
  obtain ⟨a, cap, rfl⟩ := hv.shape
  have HV := hide hv
  clear hv
  by_cases h12 : ls.length ≤ 12
  case neg =>
    have hno : linksB n ls = false := by unfold linksB; rw [decide_eq_false h12]; rfl
    rw [hno]
    have h12' : (12 : Int) < (ls.length : Int) := by omega
    clear hno
    go_enter Tryd.func88, Tryd.ntmps88
    go_wp2
    go_ret
    exact ⟨rfl, Below.refl _ _⟩
  have h12' : ¬ (12 : Int) < (ls.length : Int) := by omega
  have hB : linksB n ls = (allOk (linkOkB n) ls && ascB ordL ls) := by unfold linksB; rw [decide_eq_true h12]; rfl
  have HB := hide hB
  clear hB
  go_enter Tryd.func88, Tryd.ntmps88
  go_wp2
  go_loopw [12] (fun i wr => ∃ k : Nat, k ≤ ls.length ∧ i = .int .i64 k ∧ (∀ j, j < k → okAt (linkOkB n) ls j = true) ∧ Below w.heap.size w wr) (fun i _ => ls.length - (intOf i).toNat)
  case atStart => exact ⟨0, by omega, rfl, by omega, Below.refl _ _⟩
  case round =>
    obtain ⟨k, hk, rfl, hno, hb⟩ := hrel
    have HNO := hide hno
    clear hno
    by_cases hlt : k < ls.length
    · obtain ⟨l, hl⟩ : ∃ l, ls[k]? = some l := ⟨ls[k], List.getElem?_eq_getElem hlt⟩
      obtain ⟨b, off, cap', hve, hbb, c0, c1, c2, c3⟩ := HV.out.cells k l hl
      cases hve
      rw [← hb.cell (p := ⟨b, off + k * 4, none⟩) hbb] at c0
      rw [← hb.cell (p := ⟨b, off + k * 4 + 1, none⟩) hbb] at c1
      rw [← hb.cell (p := ⟨b, off + k * 4 + 2, none⟩) hbb] at c2
      rw [← hb.cell (p := ⟨b, off + k * 4 + 3, none⟩) hbb] at c3
      have HAT := hide (okAt_eq (ok := linkOkB n) hl)
      have HOK := hide (ilinkOk_any n l)
      clear hl
      obtain ⟨q, hq⟩ : ∃ q, q = linkOkB n l := ⟨_, rfl⟩
      rw [← hq] at HAT HOK
      unfold lkV at HOK
      clear hq
      have hzr := hb.size
      go_wp2_with fail
      refine (HOK.out _).mono ?_
      rintro e w2 ⟨rfl, hbc⟩
      have B2 : Below w.heap.size w w2 := (hb.alloc hb.size _).trans (hbc.mono (by simp; omega))
      cases q
      · have hf : linksB n ls = false := by rw [HB.out]; unfold allOk; rw [all_false hlt HAT.out]; rfl
        have HF := hide hf
        clear hf
        go_wp2
        go_ret
        exact ⟨ret_bool HF.out, B2⟩
      · go_wp2
        exact ⟨⟨k + 1, by omega, by go_num, next_true HNO.out HAT.out, B2⟩, by simp [intOf]; omega⟩
    · have hall : allOk (linkOkB n) ls = true := all_true fun i hi => HNO.out i (by omega)
      have hF : linksB n ls = ascB ordL ls := by rw [HB.out, hall]; rfl
      have HF := hide hF
      clear hF hall
      have HVR := hide (HV.out.then hb)
      go_wp2_with fail
      refine (ascL_any _ ls _ hls HVR.out).mono ?_
      rintro e w2 ⟨rfl, hbc⟩
      go_wp2
      go_ret
      exact ⟨ret_bool HF.out, hb.trans (hbc.mono hb.size)⟩
def thOkB (n : Int) (t : Th) : Bool := inB t.k 1 9 && inB t.o 1 n && inB t.c 1 1000

def thingsB (n : Int) (ls : List Th) : Bool := decide (ls.length ≤ 4) && allOk (thOkB n) ls && ascB ordT ls

set_option maxRecDepth 100000 in
set_option maxHeartbeats 4000000 in
theorem thingsOk_any (n : Int) (v : Value) (ls : List Th) (w : World) (hls : ls.length ≤ 1048576) (hv : ThingsAt w v ls w.heap.size) :
    Calls Tryd.prog 89 #[.int .i64 n, v] w fun e w' => e = .returned (.bool (thingsB n ls)) ∧ Below w.heap.size w w' := by
  obtain ⟨a, cap, rfl⟩ := hv.shape
  have HV := hide hv
  clear hv
  by_cases h12 : ls.length ≤ 4
  case neg =>
    have hno : thingsB n ls = false := by unfold thingsB; rw [decide_eq_false h12]; rfl
    rw [hno]
    have h12' : (4 : Int) < (ls.length : Int) := by omega
    clear hno
    go_enter Tryd.func89, Tryd.ntmps89
    go_wp2
    go_ret
    exact ⟨rfl, Below.refl _ _⟩
  have h12' : ¬ (4 : Int) < (ls.length : Int) := by omega
  have hB : thingsB n ls = (allOk (thOkB n) ls && ascB ordT ls) := by unfold thingsB; rw [decide_eq_true h12]; rfl
  have HB := hide hB
  clear hB
  go_enter Tryd.func89, Tryd.ntmps89
  go_wp2
  go_loopw [12] (fun i wr => ∃ k : Nat, k ≤ ls.length ∧ i = .int .i64 k ∧ (∀ j, j < k → okAt (thOkB n) ls j = true) ∧ Below w.heap.size w wr) (fun i _ => ls.length - (intOf i).toNat)
  case atStart => exact ⟨0, by omega, rfl, by omega, Below.refl _ _⟩
  case round =>
    obtain ⟨k, hk, rfl, hno, hb⟩ := hrel
    have HNO := hide hno
    clear hno
    by_cases hlt : k < ls.length
    · obtain ⟨l, hl⟩ : ∃ l, ls[k]? = some l := ⟨ls[k], List.getElem?_eq_getElem hlt⟩
      obtain ⟨b, off, cap', hve, hbb, c0, c1, c2, c3⟩ := HV.out.cells k l hl
      cases hve
      rw [← hb.cell (p := ⟨b, off + k * 4, none⟩) hbb] at c0
      rw [← hb.cell (p := ⟨b, off + k * 4 + 1, none⟩) hbb] at c1
      rw [← hb.cell (p := ⟨b, off + k * 4 + 2, none⟩) hbb] at c2
      rw [← hb.cell (p := ⟨b, off + k * 4 + 3, none⟩) hbb] at c3
      have HAT := hide (okAt_eq (ok := thOkB n) hl)
      obtain ⟨q1, hq1⟩ : ∃ q, q = inB l.k 1 9 := ⟨_, rfl⟩
      obtain ⟨q2, hq2⟩ : ∃ q, q = inB l.o 1 n := ⟨_, rfl⟩
      obtain ⟨q3, hq3⟩ : ∃ q, q = inB l.c 1 1000 := ⟨_, rfl⟩
      have hok : thOkB n l = (q1 && q2 && q3) := by unfold thOkB; rw [hq1, hq2, hq3]
      have H1 := hide (isIn_any l.k 1 9)
      have H2 := hide (isIn_any l.o 1 n)
      have H3 := hide (isIn_any l.c 1 1000)
      rw [← hq1] at H1
      rw [← hq2] at H2
      rw [← hq3] at H3
      rw [hok] at HAT
      clear hl hq1 hq2 hq3 hok
      have hzr := hb.size
      have B2 : Below w.heap.size w (wr.alloc (.cells #[.int .i64 l.o, .int .i64 l.k, .int .i64 l.c, .bool l.f] 81)) := hb.alloc hb.size _
      cases q1
      · have hf : thingsB n ls = false := by rw [HB.out]; unfold allOk; rw [all_false hlt HAT.out]; rfl
        have HF := hide hf
        clear hf
        go_wp2_with fail
        refine (H1.out _).mono ?_
        rintro e w2 ⟨rfl, rfl⟩
        go_wp2
        go_ret
        exact ⟨ret_bool HF.out, B2⟩
      cases q2
      · have hf : thingsB n ls = false := by rw [HB.out]; unfold allOk; rw [all_false hlt HAT.out]; rfl
        have HF := hide hf
        clear hf
        go_wp2_with fail
        refine (H1.out _).mono ?_
        rintro e w2 ⟨rfl, rfl⟩
        go_wp2_with fail
        refine (H2.out _).mono ?_
        rintro e w2 ⟨rfl, rfl⟩
        go_wp2
        go_ret
        exact ⟨ret_bool HF.out, B2⟩
      cases q3
      · have hf : thingsB n ls = false := by rw [HB.out]; unfold allOk; rw [all_false hlt HAT.out]; rfl
        have HF := hide hf
        clear hf
        go_wp2_with fail
        refine (H1.out _).mono ?_
        rintro e w2 ⟨rfl, rfl⟩
        go_wp2_with fail
        refine (H2.out _).mono ?_
        rintro e w2 ⟨rfl, rfl⟩
        go_wp2_with fail
        refine (H3.out _).mono ?_
        rintro e w2 ⟨rfl, rfl⟩
        go_wp2
        go_ret
        exact ⟨ret_bool HF.out, B2⟩
      · go_wp2_with fail
        refine (H1.out _).mono ?_
        rintro e w2 ⟨rfl, rfl⟩
        go_wp2_with fail
        refine (H2.out _).mono ?_
        rintro e w2 ⟨rfl, rfl⟩
        go_wp2_with fail
        refine (H3.out _).mono ?_
        rintro e w2 ⟨rfl, rfl⟩
        go_wp2
        exact ⟨⟨k + 1, by omega, by go_num, next_true HNO.out HAT.out, B2⟩, by simp [intOf]; omega⟩
    · have hall : allOk (thOkB n) ls = true := all_true fun i hi => HNO.out i (by omega)
      have hF : thingsB n ls = ascB ordT ls := by rw [HB.out, hall]; rfl
      have HF := hide hF
      clear hF hall
      have HVR := hide (HV.out.then hb)
      go_wp2_with fail
      refine (ascT_any _ ls _ hls HVR.out).mono ?_
      rintro e w2 ⟨rfl, hbc⟩
      go_wp2
      go_ret
      exact ⟨ret_bool HF.out, hb.trans (hbc.mono hb.size)⟩

def netOkI (x : NetD) : Bool := inB x.n 1 6 && linksB x.n x.ls && thingsB x.n x.ts

set_option maxRecDepth 100000 in
set_option maxHeartbeats 4000000 in
theorem inetOk_any (v : Value) (x : NetD) (w : World) (hl : x.ls.length ≤ 1048576) (ht : x.ts.length ≤ 1048576) (hv : NetAt w v x w.heap.size) :
    Calls Tryd.prog 72 #[v] w fun e w' => e = .returned (.bool (netOkI x)) ∧ Below w.heap.size w w' := by
  obtain ⟨n, ls, ts⟩ := x
  obtain ⟨v1, v2, rfl, h1, h2⟩ := hv
  simp only [] at h1 h2 hl ht ⊢
  obtain ⟨a1, c1, rfl⟩ := h1.shape
  obtain ⟨a2, c2, rfl⟩ := h2.shape
  obtain ⟨q1, hq1⟩ : ∃ q, q = inB n 1 6 := ⟨_, rfl⟩
  obtain ⟨q2, hq2⟩ : ∃ q, q = linksB n ls := ⟨_, rfl⟩
  obtain ⟨q3, hq3⟩ : ∃ q, q = thingsB n ts := ⟨_, rfl⟩
  have hok : netOkI ⟨n, ls, ts⟩ = (q1 && q2 && q3) := by unfold netOkI; rw [hq1, hq2, hq3]
  rw [hok]
  have HIN := hide (isIn_any n 1 6)
  rw [← hq1] at HIN
  have HL := hide (fun W (h : Below w.heap.size w W) => linksOk_any n _ ls W hl (h1.then h))
  have HT := hide (fun W (h : Below w.heap.size w W) => thingsOk_any n _ ts W ht (h2.then h))
  rw [← hq2] at HL
  rw [← hq3] at HT
  clear hq1 hq2 hq3 hok h1 h2
  have B0 : Below w.heap.size w (w.alloc (.cells #[.int .i64 n, .slice a1 ls.length c1, .slice a2 ts.length c2] 25)) := (Below.refl _ _).alloc (Nat.le_refl _) _
  have hnew := heap_alloc_new w (.cells #[.int .i64 n, .slice a1 ls.length c1, .slice a2 ts.length c2] 25)
  have NEW := hide hnew
  clear hnew
  cases q1
  · go_enter Tryd.func72, Tryd.ntmps72
    go_wp2_with fail
    refine (HIN.out _).mono ?_
    rintro e w1 ⟨rfl, rfl⟩
    go_wp2
    go_ret
    exact ⟨by simp, B0⟩
  cases q2
  · go_enter Tryd.func72, Tryd.ntmps72
    go_wp2_with fail
    refine (HIN.out _).mono ?_
    rintro e w1 ⟨rfl, rfl⟩
    go_wp2_with fail
    refine (HL.out _ B0).mono ?_
    rintro e w1 ⟨rfl, b1⟩
    go_wp2
    go_ret
    exact ⟨by simp, B0.trans (b1.mono B0.size)⟩
  · go_enter Tryd.func72, Tryd.ntmps72
    go_wp2_with fail
    refine (HIN.out _).mono ?_
    rintro e w1 ⟨rfl, rfl⟩
    go_wp2_with fail
    refine (HL.out _ B0).mono ?_
    rintro e w1 ⟨rfl, b1⟩
    have g1 : w1.heap[w.heap.size]? = some (.cells #[.int .i64 n, .slice a1 ls.length c1, .slice a2 ts.length c2] 25) := by rw [b1.block _ (by simp)]; exact NEW.out
    have B1 : Below w.heap.size w w1 := B0.trans (b1.mono B0.size)
    have s0 := cells_at g1 0
    have s2 := cells_at g1 2
    simp at s0 s2
    clear g1 b1 B0
    go_wp2_with fail
    refine (HT.out _ B1).mono ?_
    rintro e w2 ⟨rfl, b2⟩
    go_wp2
    go_ret
    exact ⟨by simp, B1.trans (b2.mono B1.size)⟩
end Go.Proofs.YtpiookjdeopmgaaDoor
