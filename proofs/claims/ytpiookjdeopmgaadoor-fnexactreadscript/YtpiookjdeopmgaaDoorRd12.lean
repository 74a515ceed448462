/-
  impl.ascends of links and of things: their contracts.
  slices.Insert at lists of Lk, one put in: its three roads.
-/
import Derived.Test.YtpiookjdeopmgaaDoorRd11
namespace Go.Proofs.YtpiookjdeopmgaaDoor
open Go.RowKit

set_option maxRecDepth 100000 in
set_option maxHeartbeats 4000000 in
theorem ascL_any (v : Value) (ls : List Lk) (w : World) (hls : ls.length ≤ 1048576) (hv : LinksAt w v ls w.heap.size) :
    Calls Tryd.prog 104 #[v, .func (.func 74) #[] #[]] w fun e w' => e = .returned (.bool (ascB ordL ls)) ∧ Below w.heap.size w w' := by
  obtain ⟨a, cap, rfl⟩ := hv.shape
  have HV := hide hv
  clear hv
  go_enter Tryd.func104, Tryd.ntmps104
  go_wp2
  go_loopw [5] (fun i wr => ∃ k : Nat, 1 ≤ k ∧ (k ≤ ls.length ∨ k = 1) ∧ i = .int .i64 k ∧ (∀ j, j < k → ascAt ordL ls j = true) ∧ Below w.heap.size w wr) (fun i _ => ls.length + 1 - (intOf i).toNat)
  case atStart => exact ⟨1, by omega, by omega, rfl, fun j hj => by obtain rfl : j = 0 := by omega
                                                                    rfl, Below.refl _ _⟩
  case round =>
    obtain ⟨k, hk1, hk, rfl, hno, hb⟩ := hrel
    have HNO := hide hno
    clear hno
    by_cases hlt : k < ls.length
    · obtain ⟨l, hl⟩ : ∃ l, ls[k]? = some l := ⟨ls[k], List.getElem?_eq_getElem hlt⟩
      obtain ⟨j, hj⟩ : ∃ j, k = j + 1 := ⟨k - 1, by omega⟩
      obtain ⟨p, hp⟩ : ∃ p, ls[j]? = some p := ⟨ls[j], List.getElem?_eq_getElem (by omega)⟩
      obtain ⟨b, off, cap', hve, hbb, c0, c1, c2, c3⟩ := HV.out.cells k l hl
      cases hve
      obtain ⟨b', off', cap2, hve2, hbb2, d0, d1, d2, d3⟩ := HV.out.cells j p hp
      cases hve2
      rw [← hb.cell (p := ⟨b, off + k * 4, none⟩) hbb] at c0
      rw [← hb.cell (p := ⟨b, off + k * 4 + 1, none⟩) hbb] at c1
      rw [← hb.cell (p := ⟨b, off + k * 4 + 2, none⟩) hbb] at c2
      rw [← hb.cell (p := ⟨b, off + k * 4 + 3, none⟩) hbb] at c3
      rw [← hb.cell (p := ⟨b, off + j * 4, none⟩) hbb] at d0
      rw [← hb.cell (p := ⟨b, off + j * 4 + 1, none⟩) hbb] at d1
      rw [← hb.cell (p := ⟨b, off + j * 4 + 2, none⟩) hbb] at d2
      rw [← hb.cell (p := ⟨b, off + j * 4 + 3, none⟩) hbb] at d3
      have hat : ascAt ordL ls k = decide (ordL p l < 0) := by rw [hj]; exact ascAt_eq hp (by rw [← hj]; exact hl)
      have hzr := hb.size
      have hbr : b < wr.heap.size := by omega
      have hki : (0 : Int) ≤ (k : Int) := by omega
      have hkj : (k : Int) < (ls.length : Int) := by omega
      have hj1 : (k : Int) - 1 = (j : Int) := by omega
      have hj2 : (0 : Int) ≤ (j : Int) := by omega
      have hj3 : (j : Int) < (ls.length : Int) := by omega
      have hj5 : IntKind.i64.wrap (j : Int) = (j : Int) := wrap_fit _ (by omega) (by omega)
      have HORD := hide (ordL_any p l)
      have HAT := hide hat
      have HJ := hide hj
      clear hl hp hat hj
      obtain ⟨x, hx⟩ : ∃ x, x = ordL p l := ⟨_, rfl⟩
      rw [← hx] at HORD HAT
      clear hx
      unfold lkV at HORD
      by_cases hx0 : x < 0
      · have hx1 : ¬ (0 : Int) ≤ x := by omega
        rw [decide_eq_true hx0] at HAT
        go_wp2
        go_region_held3 (fun W => W.cell? ⟨b, off + k * 4, none⟩ = some (.int .i64 l.a) ∧ W.cell? ⟨b, off + k * 4 + 1, none⟩ = some (.int .i64 l.b) ∧ W.cell? ⟨b, off + k * 4 + 2, none⟩ = some (.int .i64 l.c) ∧ W.cell? ⟨b, off + k * 4 + 3, none⟩ = some (.int .i64 l.r) ∧ W.cell? ⟨b, off + j * 4, none⟩ = some (.int .i64 p.a) ∧ W.cell? ⟨b, off + j * 4 + 1, none⟩ = some (.int .i64 p.b) ∧ W.cell? ⟨b, off + j * 4 + 2, none⟩ = some (.int .i64 p.c) ∧ W.cell? ⟨b, off + j * 4 + 3, none⟩ = some (.int .i64 p.r)) (first | go_keep | (refine ⟨?_, ?_, ?_, ?_, ?_, ?_, ?_, ?_⟩ <;> (rw [hbc.cell (by assumption)]; assumption))) (first | (go_at_call 74; refine (HORD.out _).mono ?_; rintro e w2 ⟨rfl, hbc⟩))
        go_wp2
        exact ⟨⟨k + 1, by omega, by omega, by go_num, next_true HNO.out HAT.out, hb.drew.trans (hbc.mono hb.size)⟩, by simp [intOf]; omega⟩
      · have hx1 : (0 : Int) ≤ x := by omega
        rw [decide_eq_false hx0] at HAT
        have hf : ascB ordL ls = false := all_false hlt HAT.out
        have HF := hide hf
        clear hf
        go_wp2
        go_region_held3 (fun W => W.cell? ⟨b, off + k * 4, none⟩ = some (.int .i64 l.a) ∧ W.cell? ⟨b, off + k * 4 + 1, none⟩ = some (.int .i64 l.b) ∧ W.cell? ⟨b, off + k * 4 + 2, none⟩ = some (.int .i64 l.c) ∧ W.cell? ⟨b, off + k * 4 + 3, none⟩ = some (.int .i64 l.r) ∧ W.cell? ⟨b, off + j * 4, none⟩ = some (.int .i64 p.a) ∧ W.cell? ⟨b, off + j * 4 + 1, none⟩ = some (.int .i64 p.b) ∧ W.cell? ⟨b, off + j * 4 + 2, none⟩ = some (.int .i64 p.c) ∧ W.cell? ⟨b, off + j * 4 + 3, none⟩ = some (.int .i64 p.r)) (first | go_keep | (refine ⟨?_, ?_, ?_, ?_, ?_, ?_, ?_, ?_⟩ <;> (rw [hbc.cell (by assumption)]; assumption))) (first | (go_at_call 74; refine (HORD.out _).mono ?_; rintro e w2 ⟨rfl, hbc⟩))
        go_wp2
        go_ret
        exact ⟨ret_bool HF.out, hb.drew.trans (hbc.mono hb.size)⟩
    · have hall : ascB ordL ls = true := all_true fun i hi => HNO.out i (by omega)
      have HA := hide hall
      clear hall
      go_wp2
      go_ret
      exact ⟨ret_bool HA.out, hb⟩
set_option maxRecDepth 100000 in
set_option maxHeartbeats 4000000 in
theorem ascT_any (v : Value) (ls : List Th) (w : World) (hls : ls.length ≤ 1048576) (hv : ThingsAt w v ls w.heap.size) :
    Calls Tryd.prog 105 #[v, .func (.func 95) #[] #[]] w fun e w' => e = .returned (.bool (ascB ordT ls)) ∧ Below w.heap.size w w' := by
  obtain ⟨a, cap, rfl⟩ := hv.shape
  have HV := hide hv
  clear hv
  go_enter Tryd.func105, Tryd.ntmps105
  go_wp2
  go_loopw [5] (fun i wr => ∃ k : Nat, 1 ≤ k ∧ (k ≤ ls.length ∨ k = 1) ∧ i = .int .i64 k ∧ (∀ j, j < k → ascAt ordT ls j = true) ∧ Below w.heap.size w wr) (fun i _ => ls.length + 1 - (intOf i).toNat)
  case atStart => exact ⟨1, by omega, by omega, rfl, fun j hj => by obtain rfl : j = 0 := by omega
                                                                    rfl, Below.refl _ _⟩
  case round =>
    obtain ⟨k, hk1, hk, rfl, hno, hb⟩ := hrel
    have HNO := hide hno
    clear hno
    by_cases hlt : k < ls.length
    · obtain ⟨l, hl⟩ : ∃ l, ls[k]? = some l := ⟨ls[k], List.getElem?_eq_getElem hlt⟩
      obtain ⟨j, hj⟩ : ∃ j, k = j + 1 := ⟨k - 1, by omega⟩
      obtain ⟨p, hp⟩ : ∃ p, ls[j]? = some p := ⟨ls[j], List.getElem?_eq_getElem (by omega)⟩
      obtain ⟨b, off, cap', hve, hbb, c0, c1, c2, c3⟩ := HV.out.cells k l hl
      cases hve
      obtain ⟨b', off', cap2, hve2, hbb2, d0, d1, d2, d3⟩ := HV.out.cells j p hp
      cases hve2
      rw [← hb.cell (p := ⟨b, off + k * 4, none⟩) hbb] at c0
      rw [← hb.cell (p := ⟨b, off + k * 4 + 1, none⟩) hbb] at c1
      rw [← hb.cell (p := ⟨b, off + k * 4 + 2, none⟩) hbb] at c2
      rw [← hb.cell (p := ⟨b, off + k * 4 + 3, none⟩) hbb] at c3
      rw [← hb.cell (p := ⟨b, off + j * 4, none⟩) hbb] at d0
      rw [← hb.cell (p := ⟨b, off + j * 4 + 1, none⟩) hbb] at d1
      rw [← hb.cell (p := ⟨b, off + j * 4 + 2, none⟩) hbb] at d2
      rw [← hb.cell (p := ⟨b, off + j * 4 + 3, none⟩) hbb] at d3
      have hat : ascAt ordT ls k = decide (ordT p l < 0) := by rw [hj]; exact ascAt_eq hp (by rw [← hj]; exact hl)
      have hzr := hb.size
      have hbr : b < wr.heap.size := by omega
      have hki : (0 : Int) ≤ (k : Int) := by omega
      have hkj : (k : Int) < (ls.length : Int) := by omega
      have hj1 : (k : Int) - 1 = (j : Int) := by omega
      have hj2 : (0 : Int) ≤ (j : Int) := by omega
      have hj3 : (j : Int) < (ls.length : Int) := by omega
      have hj5 : IntKind.i64.wrap (j : Int) = (j : Int) := wrap_fit _ (by omega) (by omega)
      have HORD := hide (ordT_any p l)
      have HAT := hide hat
      have HJ := hide hj
      clear hl hp hat hj
      obtain ⟨x, hx⟩ : ∃ x, x = ordT p l := ⟨_, rfl⟩
      rw [← hx] at HORD HAT
      clear hx
      unfold thV at HORD
      by_cases hx0 : x < 0
      · have hx1 : ¬ (0 : Int) ≤ x := by omega
        rw [decide_eq_true hx0] at HAT
        go_wp2
        go_region_held3 (fun W => W.cell? ⟨b, off + k * 4, none⟩ = some (.int .i64 l.o) ∧ W.cell? ⟨b, off + k * 4 + 1, none⟩ = some (.int .i64 l.k) ∧ W.cell? ⟨b, off + k * 4 + 2, none⟩ = some (.int .i64 l.c) ∧ W.cell? ⟨b, off + k * 4 + 3, none⟩ = some (.bool l.f) ∧ W.cell? ⟨b, off + j * 4, none⟩ = some (.int .i64 p.o) ∧ W.cell? ⟨b, off + j * 4 + 1, none⟩ = some (.int .i64 p.k) ∧ W.cell? ⟨b, off + j * 4 + 2, none⟩ = some (.int .i64 p.c) ∧ W.cell? ⟨b, off + j * 4 + 3, none⟩ = some (.bool p.f)) (first | go_keep | (refine ⟨?_, ?_, ?_, ?_, ?_, ?_, ?_, ?_⟩ <;> (rw [hbc.cell (by assumption)]; assumption))) (first | (go_at_call 95; refine (HORD.out _).mono ?_; rintro e w2 ⟨rfl, hbc⟩))
        go_wp2
        exact ⟨⟨k + 1, by omega, by omega, by go_num, next_true HNO.out HAT.out, hb.drew.trans (hbc.mono hb.size)⟩, by simp [intOf]; omega⟩
      · have hx1 : (0 : Int) ≤ x := by omega
        rw [decide_eq_false hx0] at HAT
        have hf : ascB ordT ls = false := all_false hlt HAT.out
        have HF := hide hf
        clear hf
        go_wp2
        go_region_held3 (fun W => W.cell? ⟨b, off + k * 4, none⟩ = some (.int .i64 l.o) ∧ W.cell? ⟨b, off + k * 4 + 1, none⟩ = some (.int .i64 l.k) ∧ W.cell? ⟨b, off + k * 4 + 2, none⟩ = some (.int .i64 l.c) ∧ W.cell? ⟨b, off + k * 4 + 3, none⟩ = some (.bool l.f) ∧ W.cell? ⟨b, off + j * 4, none⟩ = some (.int .i64 p.o) ∧ W.cell? ⟨b, off + j * 4 + 1, none⟩ = some (.int .i64 p.k) ∧ W.cell? ⟨b, off + j * 4 + 2, none⟩ = some (.int .i64 p.c) ∧ W.cell? ⟨b, off + j * 4 + 3, none⟩ = some (.bool p.f)) (first | go_keep | (refine ⟨?_, ?_, ?_, ?_, ?_, ?_, ?_, ?_⟩ <;> (rw [hbc.cell (by assumption)]; assumption))) (first | (go_at_call 95; refine (HORD.out _).mono ?_; rintro e w2 ⟨rfl, hbc⟩))
        go_wp2
        go_ret
        exact ⟨ret_bool HF.out, hb.drew.trans (hbc.mono hb.size)⟩
    · have hall : ascB ordT ls = true := all_true fun i hi => HNO.out i (by omega)
      have HA := hide hall
      clear hall
      go_wp2
      go_ret
      exact ⟨ret_bool HA.out, hb⟩
end Go.Proofs.YtpiookjdeopmgaaDoor
namespace Go.Proofs.YtpiookjdeopmgaaDoor
open Go.RowKit

set_option linter.unusedSimpArgs false
set_option linter.unusedVariables false

/-- what two copies leave -/
theorem segL_len (cur D R : List Value) (a d : Nat) (hD : D.length = d) (hR : R.length = 4) (hc : a + 4 + d ≤ cur.length) :
    ((cur.take (a + 4) ++ D ++ cur.drop (a + 4 + D.length)).take a ++ R ++ (cur.take (a + 4) ++ D ++ cur.drop (a + 4 + D.length)).drop (a + R.length)) = cur.take a ++ R ++ D ++ cur.drop (a + 4 + d) := by
  have e1 : (cur.take (a + 4) ++ D ++ cur.drop (a + 4 + D.length)).take a = cur.take a := by
    rw [List.append_assoc, List.take_append_of_le_length (by simp; omega), List.take_take, Nat.min_eq_left (by omega)]
  have e2 : (cur.take (a + 4) ++ D ++ cur.drop (a + 4 + D.length)).drop (a + R.length) = D ++ cur.drop (a + 4 + d) := by
    rw [hR, List.append_assoc, List.drop_append_of_le_length (by simp; omega), List.drop_of_length_le (by simp; omega), List.nil_append, hD]
  rw [e1, e2, List.append_assoc, List.append_assoc, List.append_assoc]

theorem flatL_take (ps : List Lk) (i : Nat) (h : i ≤ ps.length) : (flat lkE ps).take (i * 4) = flat lkE (ps.take i) := by
  conv => lhs; rw [← List.take_append_drop i ps, flat_append]
  have e : (flat lkE (ps.take i)).length = i * 4 := by rw [flat_len lkE_len, List.length_take, Nat.min_eq_left h]
  rw [← e, List.take_left]

theorem flatL_drop (ps : List Lk) (i : Nat) (h : i ≤ ps.length) : (flat lkE ps).drop (i * 4) = flat lkE (ps.drop i) := by
  conv => lhs; rw [← List.take_append_drop i ps, flat_append]
  have e : (flat lkE (ps.take i)).length = i * 4 := by rw [flat_len lkE_len, List.length_take, Nat.min_eq_left h]
  rw [← e, List.drop_left]

theorem flatL_one (r : Lk) : flat lkE [r] = lkE r := by simp [flat]

theorem flatL_ins (ps : List Lk) (r : Lk) (i : Nat) : flat lkE (ps.take i ++ [r] ++ ps.drop i) = flat lkE (ps.take i) ++ lkE r ++ flat lkE (ps.drop i) := by
  rw [flat_append, flat_append, flatL_one]

theorem insL_len (ps : List Lk) (r : Lk) (i : Nat) (h : i ≤ ps.length) : (ps.take i ++ [r] ++ ps.drop i).length = ps.length + 1 := by
  simp
  omega

theorem flatL_oneCell (ps : List Lk) : ∀ u ∈ flat lkE ps, u.oneCell' = true := by
  intro u hu
  simp only [flat, List.mem_flatMap] at hu
  obtain ⟨p, hp, hu⟩ := hu
  exact lkE_one p u hu

set_option maxRecDepth 100000 in
set_option maxHeartbeats 4000000 in
theorem insL_shift (base g cap n m i vb : Nat) (ps : List Lk) (r : Lk) (w : World) (hnp : n = ps.length) (hm : m = 1) (hrow : w.ownsRow base 77 4 (.slice (some ⟨g, 0, none⟩) n cap) n (flat lkE ps)) (hi : i < n) (hroom : n + m ≤ cap)
    (hvb : w.heap[vb]? = some (.cells (lkE r).toArray 77 (0, 0))) (hne : vb ≠ g) (hr1 : ∀ u ∈ lkE r, u.oneCell' = true) :
    Calls Tryd.prog 91 #[.slice (some ⟨g, 0, none⟩) n cap, .int .i64 (i : Int), .slice (some ⟨vb, 0, none⟩) m 1] w fun e w' => ∃ v, e = .returned v ∧ w'.ownsRow base 77 4 v (n + m) (flat lkE (ps.take i ++ [r] ++ ps.drop i)) ∧ w.grownBy w' (some g) ∧ (v.ownBlock = some g ∨ v.ownBlock = some w.heap.size) := by
  have hnl : (flat lkE ps).length = n * 4 := hrow.1
  have hui := Tryd.underlying22
  have hus := Tryd.underlying22
  obtain ⟨i0, hi0, hz0, hzs, hzb⟩ := info_parts Tryd.infoLk
  have hsz : (Tryd.prog.info? 77).map (·.size) = some 4 := by rw [hi0]; simp [hzs]

  rcases hrow.2 with ⟨h0, _⟩ | ⟨g', cap', cur, hv, hbg, hg, hnc, hcm, hcs, htk⟩
  · simp at h0
  simp at hv
  obtain ⟨rfl, rfl⟩ := hv
  have hmx : maxLen = 9223372036854775807 ∨ maxLen ≤ 9223372036854775807 := by unfold maxLen; omega
  have hc63 : cap ≤ 9223372036854775807 := by omega
  have hD : (flat lkE (ps.drop i)).length = (n - i) * 4 := by rw [flat_len lkE_len, List.length_drop, ← hnp]
  have hclen : cur.toList.length = cap * 4 := by simpa using hcs
  have hRl : (lkE r).length = 4 := lkE_len r
  have hov : ∀ lb cb, (callFunc 106 #[.slice (some ⟨vb, 0, none⟩) m 1, .slice (some ⟨g, (i + m) * 4, none⟩) lb cb]).run Tryd.prog w = .ok (.value (.bool false)) w := fun lb cb => by
    rw [run_callFunc_extern Tryd.func106 (by kernel_rfl) (by kernel_rfl) (by kernel_rfl) (e := Extern.SlicesOverlaps.overlaps #[22, 22] #[4]) (by kernel_rfl),
      Lib.run_overlaps_apart w 22 4 77 hus 4 (by intro w; simp [Go.sizeOf, typeInfo, hi0, hzs]) ⟨vb, 0, none⟩ ⟨g, (i + m) * 4, none⟩ m 1 lb cb hne 77 77 4 cur.size (by simp [World.shape?, hvb, hRl]) (by simp [World.shape?, hg]) (by omega) (frozen_at hvb 0) (frozen_at hvb 4)]
    rfl
  have hcell : ∀ (W : World), W.heap = w.heap → ∀ j u, (flat lkE (ps.drop i))[j]? = some u → W.cell? ((⟨g, i * 4, none⟩ : Addr).add j) = some u := fun W hW j u hj => by
    rw [add8]
    simp only [World.cell?, hW, hg]
    rw [← flatL_drop ps i (by omega), ← htk, List.getElem?_drop] at hj
    have h2 : i * 4 + j < n * 4 := by
      have h3 := (List.getElem?_eq_some_iff.1 hj).1
      rw [List.length_take] at h3
      omega
    rw [List.getElem?_take_of_lt h2] at hj
    simpa using hj
  have hcp1 : ∀ (W : World), W.heap = w.heap → ∀ ty dc sc, (Builtin.copy_ #[22, 22] ty #[.slice (some ⟨g, (i + m) * 4, none⟩) (n + m - (i + m)) dc, .slice (some ⟨g, i * 4, none⟩) (n + m - i) sc]).run Tryd.prog W = .ok (goInt (Nat.min (n + m - i) (n + m - (i + m)))) (W.setRow g (cur.toList.take ((i + m) * 4) ++ flat lkE (ps.drop i) ++ cur.toList.drop ((i + m) * 4 + (flat lkE (ps.drop i)).length)).toArray) := fun W hW ty dc sc =>
    run_copy_rowS W 22 22 ty 77 g ((i + m) * 4) (n + m - (i + m)) dc ⟨g, i * 4, none⟩ (n + m - i) sc 4 cur 77 (flat lkE (ps.drop i)) hui hsz (by rw [hW]; exact hg)
      (by rw [hD]; congr 1; have : Nat.min (n + m - i) (n + m - (i + m)) = n + m - (i + m) := Nat.min_eq_right (by omega); omega) (hcell W hW) (by rw [hD]; omega) (flatL_oneCell _)
  obtain ⟨c1, hc1⟩ : ∃ c1, c1 = cur.toList.take ((i + m) * 4) ++ flat lkE (ps.drop i) ++ cur.toList.drop ((i + m) * 4 + (flat lkE (ps.drop i)).length) := ⟨_, rfl⟩
  rw [← hc1] at hcp1
  have hc1l : c1.length = cap * 4 := by rw [hc1]; simp only [List.length_append, List.length_take, List.length_drop, hclen, hD]; omega
  have hcp2 : ∀ (W : World), W.heap = (w.setRow g c1.toArray).heap → ∀ ty dc, (Builtin.copy_ #[22, 22] ty #[.slice (some ⟨g, i * 4, none⟩) (n + m - i) dc, .slice (some ⟨vb, 0, none⟩) m 1]).run Tryd.prog W = .ok (goInt (Nat.min m (n + m - i))) (W.setRow g (c1.take (i * 4) ++ lkE r ++ c1.drop (i * 4 + (lkE r).length)).toArray) := fun W hW ty dc => by
    have h := run_copy_rowS (P := Tryd.prog) W 22 22 ty 77 g (i * 4) (n + m - i) dc ⟨vb, 0, none⟩ m 1 4 c1.toArray 77 (lkE r) hui hsz (by rw [hW]; exact setRow_heap w g cur _ 77 _ hg)
      (by rw [hRl]; have : Nat.min m (n + m - i) = m := Nat.min_eq_left (by omega); omega) (fun j u hj => by
        rw [add8]
        simp only [World.cell?, hW]
        rw [setRow_other w g vb _ hne, hvb]
        simpa using hj) (by rw [hRl]; simp only [List.size_toArray, hc1l]; omega) hr1
    simpa using h
  have hfin : c1.take (i * 4) ++ lkE r ++ c1.drop (i * 4 + (lkE r).length) = flat lkE (ps.take i) ++ lkE r ++ flat lkE (ps.drop i) ++ cur.toList.drop (i * 4 + 4 + (n - i) * 4) := by
    have h := segL_len cur.toList (flat lkE (ps.drop i)) (lkE r) (i * 4) ((n - i) * 4) hD hRl (by omega)
    rw [show i * 4 + 4 = (i + m) * 4 by omega, ← hc1] at h
    rw [h]
    congr 3
    · rw [← flatL_take ps i (by omega), ← htk, List.take_take, Nat.min_eq_left (by omega)]
    · omega
  have hdone : ∀ W : World, W.heap = ((w.setRow g c1.toArray).setRow g (c1.take (i * 4) ++ lkE r ++ c1.drop (i * 4 + (lkE r).length)).toArray).heap → W.os = w.os → W.tape = w.tape → W.output = w.output → W.ownsRow base 77 4 (.slice (some ⟨g, 0, none⟩) (n + m) cap) (n + m) (flat lkE (ps.take i ++ [r] ++ ps.drop i)) ∧ w.grownBy W (some g) ∧ ((Value.slice (some ⟨g, 0, none⟩) (n + m) cap).ownBlock = some g ∨ (Value.slice (some ⟨g, 0, none⟩) (n + m) cap).ownBlock = some w.heap.size) := by
    intro W hW h1 h2 h3
    have hAl : (flat lkE (ps.take i)).length = i * 4 := by rw [flat_len lkE_len, List.length_take, Nat.min_eq_left (by omega)]
    refine ⟨⟨?_, .inr ⟨g, cap, (flat lkE (ps.take i) ++ lkE r ++ flat lkE (ps.drop i) ++ cur.toList.drop (i * 4 + 4 + (n - i) * 4)).toArray, rfl, hbg, ?_, hroom, hcm, ?_, ?_⟩⟩, ⟨h1, h2, h3, ?_, ?_⟩, .inl rfl⟩
    · rw [flat_len lkE_len, insL_len ps r i (by omega)]; omega
    · rw [hW, hfin]
      exact setRow_heap _ g c1.toArray _ 77 _ (setRow_heap w g cur _ 77 _ hg)
    · simp only [List.size_toArray, List.length_append, List.length_drop, hclen, hD, hRl, hAl]; omega
    · rw [flatL_ins]
      exact take_of_parts (by rw [hAl, hRl, hD]; omega)
    · rw [hW]; simp
    · intro k _ hk
      have hkg : k ≠ g := fun e => hk (by rw [e])
      rw [hW, setRow_other _ g k _ hkg, setRow_other _ g k _ hkg]
  have hz1 : ¬ ((m : Int) = 0) := by omega
  have hz2 : ¬ ((i : Int) = (n : Int)) := by omega
  have hw1 : IntKind.i64.wrap ((i : Int) + (m : Int)) = (i : Int) + (m : Int) := by rw [IntKind.wrap_i64]; omega
  have hw2 : IntKind.i64.wrap ((n : Int) + (m : Int)) = (n : Int) + (m : Int) := by rw [IntKind.wrap_i64]; omega
  have hb1 : (0 : Int) ≤ (i : Int) + (m : Int) := by omega
  have hin : i ≤ n := by omega
  have htn : ((i : Int) + (m : Int)).toNat = i + m := by omega
  have htn2 : ((n : Int) + (m : Int)).toNat = n + m := by omega
  have hb2 : ¬ (cap = i + m) := by omega
  have hb3 : (i : Int) ≤ (n : Int) + (m : Int) := by omega
  have hb4 : ¬ (cap = i) := by omega
  have hb5 : ¬ ((cap : Int) < (n : Int) + (m : Int)) := by omega
  have HD := hide hdone
  have HC1 := hide (hcp1 w.drew rfl)
  have mixed : Tryd.prog.follows .mixedOrders = true := by kernel_rfl
  have HC2 := hide (hcp2 (w.drew.setRow g c1.toArray) rfl)
  have HOV := hide hov
  clear hdone hcp1 hcp2 hfin hc1 hcell hD hclen hRl hnl hov hc1l htk hcs hg hrow hvb hr1 hmx hsz hi0 hz0 hzs hzb hm hnp
  go_enter Tryd.func91, Tryd.ntmps91
  go_wp2_with (simp only [HOV.out])
  go_region_law_o (refine step_copy_runI rfl _ _ 22 22 rfl (.slice (some ⟨g, (i + m) * 4, none⟩) (n + m - (i + m)) (cap - (i + m))) (.slice (some ⟨g, i * 4, none⟩) (n + m - i) (cap - i)) (by simp [Act.eval, Act.put]) (by simp [Act.eval, Act.put]) (HC1.out 3 (cap - (i + m)) (cap - i)) ?_)
  go_wp2_with (refine wpList_copy_runI _ rfl _ _ 22 22 rfl (.slice (some ⟨g, i * 4, none⟩) (n + m - i) (cap - i)) (.slice (some ⟨vb, 0, none⟩) m 1) rfl rfl (HC2.out 3 (cap - i)) ?_)
  go_ret
  exact ⟨_, rfl, HD.out _ (by rw [← List.append_assoc]; rfl) rfl rfl rfl⟩

theorem runL_append_end (base n m vb : Nat) (v : Value) (ps : List Lk) (r : Lk) (w : World) (hnp : n = ps.length) (hm : m = 1) (hbase : base ≤ w.heap.size) (hn : n ≤ 1048576) (hrow : w.ownsRow base 77 4 v n (flat lkE ps))
    (hvb : w.heap[vb]? = some (.cells (lkE r).toArray 77 (0, 0))) (hr1 : ∀ u ∈ lkE r, u.oneCell' = true) : ∃ v' w', (∀ ty, (Builtin.append_ #[22, 22] ty #[v, .slice (some ⟨vb, 0, none⟩) m 1]).run Tryd.prog w = .ok v' w') ∧ w'.ownsRow base 77 4 v' (n + m) (flat lkE (ps.take n ++ [r] ++ ps.drop n)) ∧ w.grownBy w' v.ownBlock ∧ (v'.ownBlock = v.ownBlock ∨ v'.ownBlock = some w.heap.size) := by
  obtain ⟨i0, hi0, hz0, hzs, hzb⟩ := info_parts Tryd.infoLk
  obtain ⟨a, c, hv⟩ := owns_lenS hrow
  obtain ⟨v', w', h1, h2, h3, _, h4⟩ := run_append_own_at (P := Tryd.prog) w base 22 22 77 i0 _ 4 i0.bytes Tryd.underlying22 hi0 hz0 hzs rfl rfl (by omega) v n (flat lkE ps) hrow ⟨vb, 0, none⟩ m 1 (lkE r) (by rw [lkE_len, hm]) (fun j u hj => by
    rw [add8, Nat.zero_add, cells_at hvb]
    simpa using hj) hr1 (by unfold maxLen; omega) (by rw [hzb]; omega) hbase
  refine ⟨v', w', fun ty => ?_, ?_, h3, h4⟩
  · rw [hv, append_types w 22 22 ty 77 i0 Tryd.underlying22 Tryd.underlying22 hi0, ← hv]
    exact h1
  · rw [flatL_ins, hnp, List.take_length, List.drop_length]
    rw [hnp] at h2
    simpa [flat] using h2

set_option maxRecDepth 100000 in
set_option maxHeartbeats 4000000 in
theorem insL_end (base n m vb : Nat) (v : Value) (ps : List Lk) (r : Lk) (w : World) (hnp : n = ps.length) (hm : m = 1) (hbase : base ≤ w.heap.size) (hn : n ≤ 1048576) (hrow : w.ownsRow base 77 4 v n (flat lkE ps))
    (hvb : w.heap[vb]? = some (.cells (lkE r).toArray 77 (0, 0))) (hr1 : ∀ u ∈ lkE r, u.oneCell' = true) :
    Calls Tryd.prog 91 #[v, .int .i64 (n : Int), .slice (some ⟨vb, 0, none⟩) m 1] w fun e w' => ∃ v', e = .returned v' ∧ w'.ownsRow base 77 4 v' (n + m) (flat lkE (ps.take n ++ [r] ++ ps.drop n)) ∧ w.grownBy w' v.ownBlock ∧ (v'.ownBlock = v.ownBlock ∨ v'.ownBlock = some w.heap.size) := by
  obtain ⟨v', w', h1, h2, h3, h4⟩ := runL_append_end base n m vb v ps r w hnp hm hbase hn hrow hvb hr1
  obtain ⟨va, vc, hve⟩ := owns_lenS h2
  subst hve
  have HR := hide h1
  generalize ps.take n ++ [r] ++ ps.drop n = l at *
  have H2 := hide h2
  have H3 := hide h3
  have H4 := hide h4
  have hz1 : ¬ ((m : Int) = 0) := by omega
  clear h1 h2 h3 h4 hvb hr1 hm hnp
  rcases hrow.2 with ⟨h0, hn0⟩ | ⟨g, cap, cur, hv, hbg, hg, hnc, hcm, hcs, htk⟩
  · subst h0
    clear hrow
    subst hn0
    go_enter Tryd.func91, Tryd.ntmps91
    go_wp2_with (at_builtin; refine Lib.wpList_append_run _ rfl _ _ _ _ rfl _ _ rfl rfl _ _ (HR.out _) ?_)
    go_ret
    exact ⟨_, rfl, (by simpa using H2.out), H3.out, (by simpa [Value.ownBlock] using H4.out)⟩
  · subst hv
    have hc63 : cap ≤ 9223372036854775807 := by unfold maxLen at hcm; omega
    clear hrow hg hcs htk
    go_enter Tryd.func91, Tryd.ntmps91
    go_wp2_with (at_builtin; refine Lib.wpList_append_run _ rfl _ _ _ _ rfl _ _ rfl rfl _ _ (HR.out _) ?_)
    all_goals (go_ret; exact ⟨_, rfl, H2.out, H3.out, H4.out⟩)

set_option maxRecDepth 100000 in
set_option maxHeartbeats 4000000 in
theorem insL_grow (base g cap n m i vb : Nat) (ps : List Lk) (r : Lk) (w : World) (hnp : n = ps.length) (hm : m = 1) (hbase : base ≤ w.heap.size) (hn : n ≤ 1048576) (hrow : w.ownsRow base 77 4 (.slice (some ⟨g, 0, none⟩) n cap) n (flat lkE ps)) (hi : i < n) (hroom : cap < n + m)
    (hvb : w.heap[vb]? = some (.cells (lkE r).toArray 77 (0, 0))) (hr1 : ∀ u ∈ lkE r, u.oneCell' = true) :
    Calls Tryd.prog 91 #[.slice (some ⟨g, 0, none⟩) n cap, .int .i64 (i : Int), .slice (some ⟨vb, 0, none⟩) m 1] w fun e w' => ∃ v, e = .returned v ∧ w'.ownsRow base 77 4 v (n + m) (flat lkE (ps.take i ++ [r] ++ ps.drop i)) ∧ w.grownBy w' (some g) ∧ (v.ownBlock = some g ∨ v.ownBlock = some w.heap.size) := by
  have hnl : (flat lkE ps).length = n * 4 := hrow.1
  have hui := Tryd.underlying22
  have hus := Tryd.underlying22
  obtain ⟨i0, hi0, hz0, hzs, hzb⟩ := info_parts Tryd.infoLk
  have hsz : (Tryd.prog.info? 77).map (·.size) = some 4 := by rw [hi0]; simp [hzs]

  rcases hrow.2 with ⟨h0, _⟩ | ⟨g', cap', cur, hv, hbg, hg, hnc, hcm, hcs, htk⟩
  · simp at h0
  simp at hv
  obtain ⟨rfl, rfl⟩ := hv
  have hc63 : cap ≤ 9223372036854775807 := by unfold maxLen at hcm; omega
  have hgw := lt_of_heap hg
  have hvw := lt_of_heap hvb
  have hD : (flat lkE (ps.drop i)).length = (n - i) * 4 := by rw [flat_len lkE_len, List.length_drop, ← hnp]
  have hAl : (flat lkE (ps.take i)).length = i * 4 := by rw [flat_len lkE_len, List.length_take, Nat.min_eq_left (by omega)]
  have hRl : (lkE r).length = 4 := lkE_len r
  have hkk : (n : Int) + (m : Int) - (i : Int) = ((n + m - i : Nat) : Int) := by omega
  have hik : i + (n + m - i) = n + m := by omega
  have hcellw : ∀ (j : Nat) (u : Value), (flat lkE ps)[j]? = some u → w.cell? ⟨g, j, none⟩ = some u := fun j u hj => by
    have h2 : j < n * 4 := by rw [← hnl]; exact (List.getElem?_eq_some_iff.1 hj).1
    rw [← htk, List.getElem?_take_of_lt h2] at hj
    rw [cells_at hg]
    simpa using hj
  have hold : (Builtin.firstCells i0.size i (.slice (some ⟨g, 0, none⟩) i cap)).run Tryd.prog w.drew = .ok (flat lkE (ps.take i)).toArray w.drew := by
    rw [hzs]
    exact run_firstCells_some w.drew 4 i ⟨g, 0, none⟩ i cap (flat lkE (ps.take i)) hAl (fun j v hj => by
      rw [add8, Nat.zero_add]
      refine hcellw j v ?_
      rw [← flatL_take ps i (by omega), List.getElem?_take] at hj
      split at hj
      · exact hj
      · cases hj)
  have hrz0 := Lib.run_append_grow_zeros (P := Tryd.prog) w 22 3 22 77 i0 _ .i64 .i64 hui Tryd.underlying3 hi0 hz0 (some ⟨g, 0, none⟩) i cap (flat lkE (ps.take i)) hold (n + m - i) (by omega) (by rw [hzs]; omega) (by omega) (by omega) (by rw [hzb]; omega) (by rw [hzb, hik]; exact growslice_fits hroom (by omega))
  rw [hik] at hrz0
  have hGn := grownCap_ge w (n + m) cap 77
  have hGm := grownCap_le_maxLen w (n + m) cap 77 (by unfold maxLen; omega)
  obtain ⟨G, hG⟩ : ∃ G, G = grownCap w (n + m) cap 77 := ⟨_, rfl⟩
  rw [← hG] at hrz0 hGn hGm
  obtain ⟨ROW, hROW⟩ : ∃ ROW : Array Value, ROW = (flat lkE (ps.take i)).toArray ++ Builtin.zeroCells (lkV lk0).cells (n + m - i) ++ Builtin.zeroCells (lkV lk0).cells (G - (n + m)) := ⟨_, rfl⟩
  rw [← hROW] at hrz0
  have hRs : ROW.size = G * 4 := by
    rw [hROW]
    simp only [Array.size_append, List.size_toArray, size_zeroCells, hAl, show (lkV lk0).cells.size = 4 from rfl]
    omega
  have hRt : ROW.toList.take (i * 4) = flat lkE (ps.take i) := by
    rw [hROW]
    simp only [Array.toList_append, List.append_assoc]
    rw [← hAl]
    exact List.take_left
  obtain ⟨N, hN⟩ : ∃ N, N = w.heap.size := ⟨_, rfl⟩
  obtain ⟨W1, hW1⟩ : ∃ W1, W1 = w.drew.alloc (.cells ROW 77) := ⟨_, rfl⟩
  rw [← hW1, ← hN] at hrz0
  have hrz : ∀ ty, (Builtin.append_ #[22, 3] ty #[.slice (some ⟨g, 0, none⟩) i cap, .int .i64 ((n : Int) + (m : Int) - (i : Int))]).run Tryd.prog w = .ok (.slice (some ⟨N, 0, none⟩) (n + m) G) W1 := fun ty => by
    rw [hkk]
    exact hrz0
  have g1 : W1.heap[N]? = some (.cells ROW 77 (0, 0)) := by rw [hW1, hN]; exact heap_alloc_new w.drew _
  have b1 : ∀ k, k < N → W1.heap[k]? = w.heap[k]? := fun k hk => by rw [hW1]; exact Below.heap_alloc _ _ _ (by rw [hN] at hk; exact hk)
  have s1 : W1.heap.size = N + 1 := by rw [hW1, hN]; simp
  have hcpA : ∀ ty dc, (Builtin.copy_ #[22, 22] ty #[.slice (some ⟨N, i * 4, none⟩) (n + m - i) dc, .slice (some ⟨vb, 0, none⟩) m 1]).run Tryd.prog W1 = .ok (goInt (Nat.min m (n + m - i))) (W1.setRow N (ROW.toList.take (i * 4) ++ lkE r ++ ROW.toList.drop (i * 4 + (lkE r).length)).toArray) := fun ty dc =>
    run_copy_rowS W1 22 22 ty 77 N (i * 4) (n + m - i) dc ⟨vb, 0, none⟩ m 1 4 ROW 77 (lkE r) hui hsz g1
      (by rw [hRl]; have : Nat.min m (n + m - i) = m := Nat.min_eq_left (by omega); omega) (fun j u hj => by
        rw [add8, Nat.zero_add]
        simp only [World.cell?]
        rw [b1 vb (by omega), hvb]
        simpa using hj) (by rw [hRl, hRs]; omega) hr1
  obtain ⟨c1, hc1⟩ : ∃ c1, c1 = ROW.toList.take (i * 4) ++ lkE r ++ ROW.toList.drop (i * 4 + (lkE r).length) := ⟨_, rfl⟩
  rw [← hc1] at hcpA
  have hc1l : c1.length = G * 4 := by
    rw [hc1]
    simp only [List.length_append, List.length_take, List.length_drop, Array.length_toList, hRs, hRl]
    omega
  have hc1t : c1.take ((i + m) * 4) = flat lkE (ps.take i) ++ lkE r := by
    rw [hc1, hRt]
    rw [List.take_append_of_le_length (by simp only [List.length_append, hAl, hRl]; omega), List.take_of_length_le (by simp only [List.length_append, hAl, hRl]; omega)]
  obtain ⟨W2, hW2⟩ : ∃ W2, W2 = W1.setRow N c1.toArray := ⟨_, rfl⟩
  rw [← hW2] at hcpA
  have g2 : W2.heap[N]? = some (.cells c1.toArray 77 (0, 0)) := by rw [hW2]; exact setRow_heap W1 N ROW _ 77 _ g1
  have b2 : ∀ k, k < N → W2.heap[k]? = w.heap[k]? := fun k hk => by rw [hW2, setRow_other W1 N k _ (by omega)]; exact b1 k hk
  have s2 : W2.heap.size = N + 1 := by rw [hW2]; simpa using s1
  have hcpB0 := fun dc sc => run_copy_rowS (P := Tryd.prog) W2.drew 22 22 4 77 N ((i + m) * 4) (n + m - (i + m)) dc ⟨g, i * 4, none⟩ (n - i) sc 4 c1.toArray 77 (flat lkE (ps.drop i)) hui hsz g2
      (by rw [hD]; congr 1; have : Nat.min (n - i) (n + m - (i + m)) = n - i := Nat.min_eq_left (by omega); omega) (fun j u hj => by
        rw [add8]
        have h2 := hcellw (i * 4 + j) u (by rw [← flatL_drop ps i (by omega), List.getElem?_drop] at hj; exact hj)
        simp only [World.cell?] at h2 ⊢
        rw [show W2.drew.heap[g]? = w.heap[g]? from b2 g (by omega)]
        exact h2) (by rw [hD]; simp only [List.size_toArray, hc1l]; omega) (flatL_oneCell _)
  obtain ⟨c2, hc2⟩ : ∃ c2, c2 = c1.take ((i + m) * 4) ++ flat lkE (ps.drop i) ++ c1.drop ((i + m) * 4 + (flat lkE (ps.drop i)).length) := ⟨_, rfl⟩
  simp only [← hc2] at hcpB0
  obtain ⟨W3, hW3⟩ : ∃ W3, W3 = W2.drew.setRow N c2.toArray := ⟨_, rfl⟩
  rw [← hW3] at hcpB0
  have g3 : W3.heap[N]? = some (.cells c2.toArray 77 (0, 0)) := by rw [hW3]; exact setRow_heap W2.drew N c1.toArray _ 77 _ g2
  have b3 : ∀ k, k < N → W3.heap[k]? = w.heap[k]? := fun k hk => by rw [hW3, setRow_other W2.drew N k _ (by omega)]; exact b2 k hk
  have s3 : W3.heap.size = N + 1 := by rw [hW3]; simpa using s2
  have hfin : W3.ownsRow base 77 4 (.slice (some ⟨N, 0, none⟩) (n + m) G) (n + m) (flat lkE (ps.take i ++ [r] ++ ps.drop i)) ∧ w.grownBy W3 (some g) := by
    refine ⟨⟨?_, .inr ⟨N, G, c2.toArray, rfl, by rw [hN]; exact hbase, g3, hGn, hGm, ?_, ?_⟩⟩, ⟨?_, ?_, ?_, by omega, fun k hk _ => b3 k (by omega)⟩⟩
    · rw [flat_len lkE_len, insL_len ps r i (by omega)]; omega
    · rw [hc2, hc1t]
      simp only [List.size_toArray, List.length_append, List.length_drop, hc1l, hD, hRl, hAl]
      omega
    · rw [flatL_ins, hc2, hc1t]
      exact take_of_parts (by rw [hAl, hRl, hD]; omega)
    · rw [hW3, hW2, hW1]; rfl
    · rw [hW3, hW2, hW1]; rfl
    · rw [hW3, hW2, hW1]; rfl
  have hz1 : ¬ ((m : Int) = 0) := by omega
  have hz2 : ¬ ((i : Int) = (n : Int)) := by omega
  have hz3 : (cap : Int) < (n : Int) + (m : Int) := by omega
  have hw1 : IntKind.i64.wrap ((i : Int) + (m : Int)) = (i : Int) + (m : Int) := by rw [IntKind.wrap_i64]; omega
  have hw2 : IntKind.i64.wrap ((n : Int) + (m : Int)) = (n : Int) + (m : Int) := by rw [IntKind.wrap_i64]; omega
  have hw3 : IntKind.i64.wrap ((n : Int) + (m : Int) - (i : Int)) = (n : Int) + (m : Int) - (i : Int) := by rw [IntKind.wrap_i64]; omega
  have hb1 : (0 : Int) ≤ (i : Int) + (m : Int) := by omega
  have hin : i ≤ n := by omega
  have htn : ((i : Int) + (m : Int)).toNat = i + m := by omega
  have hb3 : (i : Int) ≤ (n : Int) := by omega
  have hGi : ¬ (G = i) := by omega
  have hGim : ¬ (G = i + m) := by omega
  have hci : ¬ (cap = i) := by omega
  have hG63 : G ≤ 9223372036854775807 := by unfold maxLen at hGm; omega
  have HD := hide hfin
  have HNW := hide hN
  have HA := hide hrz
  have HC1 := hide hcpA
  have HC2 := hide hcpB0
  have mixed : Tryd.prog.follows .mixedOrders = true := by kernel_rfl
  clear hfin hrz hcpA hcpB0 hrz0 g1 g2 g3 b1 b2 b3 s1 s2 s3 hW1 hW2 hW3 hc1 hc2 hc1l hc1t hROW hRs hRt hold hcellw hkk hik hN hG hGm hD hAl hRl hnl htk hcs hg hrow hvb hr1 hsz hi0 hz0 hzs hzb hm hnp
  go_enter Tryd.func91, Tryd.ntmps91
  go_wp2_with (first
    | (at_builtin; refine Lib.wpList_append_run _ rfl _ _ _ _ rfl _ _ rfl rfl _ _ (HA.out _) ?_)
    | (refine wpList_copy_runI _ rfl _ _ 22 22 rfl (.slice (some ⟨N, i * 4, none⟩) (n + m - i) (G - i)) (.slice (some ⟨vb, 0, none⟩) m 1) rfl rfl (HC1.out 3 (G - i)) ?_))
  go_region_law_o (refine step_copy_runI rfl _ _ 22 22 rfl (.slice (some ⟨N, (i + m) * 4, none⟩) (n + m - (i + m)) (G - (i + m))) (.slice (some ⟨g, i * 4, none⟩) (n - i) (cap - i)) (by simp [Act.eval, Act.put]) (by simp [Act.eval, Act.put]) (HC2.out (G - (i + m)) (cap - i)) ?_)
  go_wp2
  go_ret
  exact ⟨_, rfl, HD.out.1, HD.out.2, .inr (by rw [← HNW.out]; rfl)⟩

theorem insertL_any (lo i vb : Nat) (v : Value) (ps : List Lk) (r : Lk) (w : World) (hv : w.ownsRow lo 77 4 v ps.length (flat lkE ps)) (hlo : lo ≤ w.heap.size) (hi : i ≤ ps.length) (hn : ps.length ≤ 1048576) (hvb : w.heap[vb]? = some (.cells (lkE r).toArray 77 (0, 0))) (hne : some vb ≠ v.ownBlock) :
    Calls Tryd.prog 91 #[v, .int .i64 (i : Int), .slice (some ⟨vb, 0, none⟩) 1 1] w fun e w' => ∃ v', e = .returned v' ∧ w'.ownsRow lo 77 4 v' (ps.length + 1) (flat lkE (ps.take i ++ [r] ++ ps.drop i)) ∧ w.grownBy w' v.ownBlock ∧ (v'.ownBlock = v.ownBlock ∨ v'.ownBlock = some w.heap.size) := by
  by_cases he : i = ps.length
  · rw [he]
    exact insL_end lo ps.length 1 vb v ps r w rfl rfl hlo hn hv hvb (lkE_one r)
  · rcases hv.2 with ⟨_, h0⟩ | ⟨g, cap, cur, hve, _⟩
    · omega
    · subst hve
      have hne2 : vb ≠ g := fun e => hne (by rw [e]; rfl)
      by_cases hroom : ps.length + 1 ≤ cap
      · exact insL_shift lo g cap ps.length 1 i vb ps r w rfl rfl hv (by omega) hroom hvb hne2 (lkE_one r)
      · exact insL_grow lo g cap ps.length 1 i vb ps r w rfl rfl hlo hn hv (by omega) (by omega) hvb (lkE_one r)
end Go.Proofs.YtpiookjdeopmgaaDoor
